/- the law: are two programs one? -/
import Derived.Test.YtkghabmgofgclaaDoorUrc
namespace Go.Proofs.YtkghabmgofgclaaDoor
open Go.RowKit
set_option linter.unusedVariables false
set_option linter.unusedSimpArgs false

theorem conv_bytes {w : World} {p : Option Addr} {t : List Int} {c n : Nat} (h : BytesAt w p t) (hn : t.length = n) : (Go.convert 33 9 (.slice p n c)).run Tryd.prog w = .ok (.string (strOfNums t)) w := by
  subst hn
  rcases h.2 with rfl | ⟨g, off, rfl, hc⟩
  · cases p with
    | none => exact run_convert_bytes_nil w _ 5 Tryd.underlying33 Tryd.underlying5 _ _ _ Tryd.underlying9
    | some a =>
      rw [run_convert_bytes_string w 33 9 5 _ _ c Tryd.underlying33 Tryd.underlying5 Tryd.underlying9, run_bytesToString w _ _ c [] (by simp [loadCells, loadCellsFrom])]
      rfl
  · refine run_convert_bytes_arg w _ 5 Tryd.underlying33 Tryd.underlying5 g off t.length c t rfl (fun i hi => ?_) _ Tryd.underlying9
    rw [hc i t[i] (List.getElem?_eq_getElem hi)]
    simp [List.getD, List.getElem?_eq_getElem hi]
theorem str_inj {s t : List Int} (hs : Byt s) (ht : Byt t) (h : strOfNums s = strOfNums t) : s = t := by
  have key : ∀ {s t : List Int}, Byt s → Byt t → s.map (fun x => UInt8.ofNat x.toNat) = t.map (fun x => UInt8.ofNat x.toNat) → s = t := by
    intro s
    induction s with
    | nil => intro t _ _ h; cases t with | nil => rfl | cons => simp at h
    | cons a s ih =>
      intro t hs ht h
      cases t with
      | nil => simp at h
      | cons b t =>
        simp only [List.map_cons, List.cons.injEq] at h
        have ha := hs a (by simp)
        have hb := ht b (by simp)
        have e : a = b := by
          have := congrArg UInt8.toNat h.1
          rw [UInt8.toNat_ofNat', UInt8.toNat_ofNat'] at this
          omega
        rw [e, ih (fun x hx => hs x (List.mem_cons_of_mem _ hx)) (fun x hx => ht x (List.mem_cons_of_mem _ hx)) h.2]
  apply key hs ht
  unfold strOfNums at h
  simpa using h
/-- a program lies below B -/
def PI (w : World) (B : Nat) (v : Value) (P : Int × List (List Int) × List (Int × Int × Int × List (Int × Int))) : Prop := ∃ ta tc fa fc, v = .agg #[.int .i64 P.1, .slice ta P.2.1.length tc, .slice fa P.2.2.length fc] ∧ TxIn w B ta P.2.1 ∧ FnIn w B fa P.2.2
end Go.Proofs.YtkghabmgofgclaaDoor
