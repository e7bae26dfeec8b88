/- package show: a text between quotes -/
import Derived.Test.YtkgdignpjammbaaDoorIhb
import Derived.Deep.AppendLies
namespace Go.Proofs.YtkgdignpjammbaaDoor
open Go.RowKit
set_option linter.unusedVariables false
set_option linter.unusedSimpArgs false

theorem Tz.kept {w w' : World} (h : Tz w) {lo hi : Nat} (g : Out lo hi w w') (h2 : 8 ≤ lo ∨ hi = 0) : Tz w' := fun j hj => g.cell (h j hj) (by
  rcases h2 with h2 | h2
  · exact .inl (Nat.lt_of_lt_of_le (by decide) h2)
  · exact .inr (by omega))
theorem own_kept {w w' : World} {v : Value} {base k lo hi : Nat} {xs : List Value} {T : TypeId} (h : w.ownsRow base T 1 v k xs) (o : Out lo hi w w') (hd : hi ≤ base) : w'.ownsRow base T 1 v k xs := by
  obtain ⟨hlen, hcase⟩ := h
  refine ⟨hlen, ?_⟩
  rcases hcase with ⟨hv, h0⟩ | ⟨g, cap', cur, rfl, hg1, hg2, hg3⟩
  · exact .inl ⟨hv, h0⟩
  · exact .inr ⟨g, cap', cur, rfl, hg1, o.heap hg2 (.inr (by omega)), hg3⟩
theorem own_out {w w' : World} {v : Value} {base k : Nat} {xs : List Value} {T : TypeId} (h : w.ownsRow base T 1 v k xs) (hg : w.grownBy w' v.ownBlock) : Out base w.heap.size w w' :=
  ⟨hg.os, hg.tape, hg.output, hg.size, fun j h1 h2 => hg.block j h1 (fun e => by have := (h.lt j e.symm).1; omega)⟩
/-- a list of strings in a row of its own -/
def Strs (w : World) (base : Nat) (v : Value) (l : List ByteArray) : Prop := w.ownsRow base 9 1 v l.length (l.map Value.string)
theorem Strs.kept {w w' : World} {base lo hi : Nat} {v : Value} {l : List ByteArray} (h : Strs w base v l) (o : Out lo hi w w') (hd : hi ≤ base) : Strs w' base v l := own_kept h o hd
theorem Strs.one (w : World) (s : ByteArray) : Strs (w.alloc (.cells #[.string s] 9)) w.heap.size (.slice (some ⟨w.heap.size, 0, none⟩) 1 1) [s] := by
  refine ⟨rfl, .inr ⟨w.heap.size, 1, #[.string s], rfl, Nat.le_refl _, (Bl.new w #[.string s] _), Nat.le_refl _, by decide, rfl, rfl⟩⟩
/-- the pieces of the first bytes -/
def pcs (bs : List Nat) (p : Nat) : List ByteArray := ⟨#[34]⟩ :: (bs.take p).map fun b => ⟨escV b⟩
theorem pcs_len {bs : List Nat} {p : Nat} (h : p ≤ bs.length) : (pcs bs p).length = p + 1 := by simp [pcs, Nat.min_eq_left h]
theorem pcs_up {bs : List Nat} {p b : Nat} (h : bs[p]? = some b) : pcs bs (p + 1) = pcs bs p ++ [⟨escV b⟩] := by
  unfold pcs
  rw [List.take_add_one, h]
  simp
/-- a text between quotes -/
def quoV (bs : List Nat) : List UInt8 := 34 :: (bs.flatMap (fun b => (escV b).toList) ++ [34])
theorem esc_len (b : Nat) : (escV b).size ≤ 5 := by
  unfold escV
  split
  · simp
  · split <;> simp
theorem flat_len (bs : List Nat) : (bs.flatMap (fun b => (escV b).toList)).length ≤ 5 * bs.length := by
  induction bs with
  | nil => simp
  | cons b bs ih =>
    rw [List.flatMap_cons, List.length_append, List.length_cons, Array.length_toList]
    have := esc_len b
    omega
theorem pcs_all (bs : List Nat) : ((pcs bs bs.length ++ [(⟨#[34]⟩ : ByteArray)]).map (fun x : ByteArray => x.data.toList)).flatten = quoV bs := by
  simp [pcs, quoV, List.flatMap, Function.comp_def]
set_option maxRecDepth 100000 in
set_option maxHeartbeats 2000000 in
theorem quoted_any {w : World} {ra : Option Addr} {c : Nat} (h : Tz w) (bs : List Nat) (hb : ∀ b ∈ bs, b < 256) (hN : bs.length ≤ 4096) (hr : bs = [] ∨ ∃ g, ra = some ⟨g, 0, none⟩ ∧ ∀ (j : Nat) b, bs[j]? = some b → w.cell? ⟨g, j, none⟩ = some (.int .i64 b)) :
    Calls Tryd.prog 51 #[.slice ra bs.length c] w fun e w' => e = .returned (.string ⟨(quoV bs).toArray⟩) ∧ Out 0 0 w w' := by
  have HT := hid_mk h
  have HB := hid_mk hb
  have HR := hid_mk hr
  obtain ⟨i0, hi0, hz0, hz1, hz2⟩ := info_p info_str
  obtain ⟨n, hn⟩ : ∃ n, bs.length = n := ⟨_, rfl⟩
  rw [hn] at hN ⊢
  have hN' : (n : Int) ≤ 4096 := by omega
  have HN := hid_mk hn
  clear h hb hr hn
  go_enter Tryd.func51, Tryd.ntmps51
  go_wp2_with fail
  go_loopw [3, 9] (fun o x wr => ∃ p : Nat, p ≤ n ∧ x = .int .i64 p ∧ Strs wr w.heap.size o (pcs bs p) ∧ Out 0 0 w wr) (fun _ x _ => n - (intOf x).toNat)
  case atStart => exact ⟨0, Nat.zero_le _, rfl, Strs.one _ _, (Out.refl 0 0 w).alloc _⟩
  case round =>
    obtain ⟨p, p2, rfl, hl, ho⟩ := hrel
    have HL := hid_mk hl
    have HO := hid_mk ho
    have p0 : (0 : Int) ≤ (p : Int) := by omega
    clear hl ho
    by_cases hgo : p < n
    · have g1 : (p : Int) < (n : Int) := by omega
      obtain ⟨b, hb⟩ : ∃ b, bs[p]? = some b := ⟨_, List.getElem?_eq_getElem (by have := HN.out; omega)⟩
      have hb1 : (b : Int) < 256 := by have := HB.out b (List.mem_of_getElem? hb); omega
      have HE := hid_mk (pcs_up hb)
      rcases HR.out with h0 | ⟨g, rfl, hc⟩
      · rw [h0] at hb; cases hb
      have hcell := HO.out.cell (hc p b hb) (.inr (Nat.zero_le _))
      have HX := hid_mk (fun w1 (q : Tz w1) => escaped_any q b (by omega))
      clear hb hc
      go_wp2_with (first
        | (go_at_call 59; refine (HX.out _ (HT.out.kept HO.out (.inr rfl))).mono ?_; rintro e w2 ⟨rfl, hO2⟩; have HO2 := hid_mk hO2; clear hO2)
        | (at_builtin; refine wpList_append_lies _ rfl _ _ 61 rfl w.heap.size 9 i0 (.string ⟨#[]⟩) 1 16 Tryd.underlying61 hi0 hz0 hz1 hz2 rfl (by decide) _ _ _ rfl (HL.out.kept (HO2.out.alloc _) (Nat.zero_le _)) ⟨w2.heap.size, 0, none⟩ 1 1 [.string ⟨escV b⟩] rfl rfl (cell_one_new _ _ _) ?c2 (by decide) ?c3 ?c4 ?c5 _ rfl ?_))
      case c2 => intro u hu; simp at hu; subst hu; rfl
      case c3 => rw [pcs_len (by have := HN.out; omega)]; unfold maxLen; omega
      case c4 => rw [pcs_len (by have := HN.out; omega)]; omega
      case c5 => have := (HO.out.trans HO2.out).size; simp; omega
      intro gg cap w1 hown hgrow hat hlt
      have hO1 := own_out (HL.out.kept (HO2.out.alloc _) (Nat.zero_le _)) hgrow
      have HO1 : Hid (Out 0 0 w w1) := (HO.out.trans (HO2.out.alloc _)).past hO1 (Nat.le_refl _)
      have HL1 : Hid (Strs w1 w.heap.size (.slice (some ⟨gg, 0, none⟩) ((pcs bs p).length + 1) cap) (pcs bs (p + 1))) := by
        show World.ownsRow _ _ _ _ _ _ _
        rw [HE.out, List.length_append, List.map_append]
        exact hown
      generalize (pcs bs p).length + 1 = ln at *
      clear hown hgrow hat hlt hO1
      go_wp2
      go_roundw
      case rel => exact ⟨p + 1, by omega, by go_num, HL1.out, HO1.out⟩
      case measure => simp [intOf]; omega
    · have g1 : (n : Int) ≤ (p : Int) := by omega
      have : p = n := by omega
      subst this
      clear hgo
      go_wp2_with (at_builtin; refine wpList_append_lies _ rfl _ _ 61 rfl w.heap.size 9 i0 (.string ⟨#[]⟩) 1 16 Tryd.underlying61 hi0 hz0 hz1 hz2 rfl (by decide) _ _ _ rfl (HL.out.kept ((Out.refl 0 0 wr).alloc _) (Nat.zero_le _)) ⟨wr.heap.size, 0, none⟩ 1 1 [.string ⟨#[34]⟩] rfl rfl (cell_one_new _ _ _) ?c2 (by decide) ?c3 ?c4 ?c5 _ rfl ?_)
      case c2 => intro u hu; simp at hu; subst hu; rfl
      case c3 => rw [pcs_len (by have := HN.out; omega)]; unfold maxLen; omega
      case c4 => rw [pcs_len (by have := HN.out; omega)]; omega
      case c5 => have := HO.out.size; simp; omega
      intro gg cap w1 hown hgrow hat hlt
      have hO1 := own_out (HL.out.kept ((Out.refl 0 0 wr).alloc _) (Nat.zero_le _)) hgrow
      have HO1 : Hid (Out 0 0 w w1) := (HO.out.alloc _).past hO1 (Nat.le_refl _)
      have HL1 : Hid (Strs w1 w.heap.size (.slice (some ⟨gg, 0, none⟩) ((pcs bs p).length + 1) cap) (pcs bs p ++ [⟨#[34]⟩])) := by
        show World.ownsRow _ _ _ _ _ _ _
        rw [List.length_append, List.map_append]
        exact hown
      have hll : (pcs bs p).length + 1 = (pcs bs p ++ [(⟨#[34]⟩ : ByteArray)]).length := by simp
      rw [hll] at HL1
      have HJ : Hid (Calls Tryd.prog 26 #[.slice (some ⟨gg, 0, none⟩) ((pcs bs p).length + 1) cap] w1 fun e w' => e = .returned (.string ⟨(quoV bs).toArray⟩) ∧ Out 0 0 w1 w') := by
        obtain ⟨h1, h2⟩ := HL1.out
        rcases h2 with ⟨h2, _⟩ | ⟨g2, cap2, cur, he, h3, h4, h5, h6, h7, h8⟩
        · cases h2
        · cases he
          have e0 := pcs_all bs
          rw [HN.out] at e0
          rw [hll, ← e0]
          refine joined_any (pcs bs p ++ [⟨#[34]⟩]) ?_ ?_ ?_ ?_ ?_
          · intro j x hj
            rw [Nat.zero_add]
            refine (Bl.cell h4 ?_)
            have : ((pcs bs p ++ [(⟨#[34]⟩ : ByteArray)]).map Value.string)[j]? = some (.string x) := by rw [List.getElem?_map, hj]; rfl
            rw [← h8, List.getElem?_take] at this
            split at this
            · simpa using this
            · cases this
          · exact (List.getElem?_eq_some_iff.1 (by simpa using h4)).1
          · rw [← hll, pcs_len (by have := HN.out; omega)]; omega
          · exact h5
          · rw [e0]
            have := flat_len bs
            have := HN.out
            simp only [quoV, List.length_cons, List.length_append, List.length_nil]
            omega
      generalize (pcs bs p).length + 1 = ln at *
      clear hown hgrow hat hlt hO1 hll HL1
      go_wp2_with (go_at_call 26; refine HJ.out.mono ?_; rintro e w3 ⟨rfl, hO3⟩)
      go_ret
      exact ⟨rfl, HO1.out.trans hO3⟩
end Go.Proofs.YtkgdignpjammbaaDoor
