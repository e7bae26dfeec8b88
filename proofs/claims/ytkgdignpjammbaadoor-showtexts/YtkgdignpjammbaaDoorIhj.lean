/- ShowTexts: its bytes, its tables -/
import Derived.Test.YtkgdignpjammbaaDoorIhh
import Derived.Test.YtkgdignpjammbaaDoorIt
import Derived.Deep.Slices
import Derived.Lib.SmallJoins
namespace Go.Proofs.YtkgdignpjammbaaDoor
open Go.ChangeShapes Go.WideShapes Go.ChangeAt Go.RowKit Go.Deep
set_option linter.unusedVariables false
set_option linter.unusedSimpArgs false

theorem cells_u8 : Tryd.prog.cellsOf 5 = 1 := by kernel_rfl
theorem open_bs {H : Type} {enc : TypeId × Value → H} {W : World} {fuel : Nat} {v : Value} {x : DataW H × List MemPlace} (h : DataW.trod enc Tryd.prog W 0 (fun _ => true) true fuel 43 v.cells.toList = some x) (hv : ∃ a len cap, v = .slice a len cap) :
    ∃ (ba : Option Addr) (c : Nat) (bs : List Nat), v = .slice ba bs.length c ∧ (∀ b ∈ bs, b < 256) ∧ bs.length ≤ maxLen ∧ (bs = [] ∨ ∃ g o, ba = some ⟨g, o, none⟩ ∧ ∀ (j : Nat) b, bs[j]? = some b → W.cell? ⟨g, o + j, none⟩ = some (.int .u8 b)) := by
  obtain ⟨a, len, cap, rfl⟩ := hv
  have hc : (Value.slice a len cap).cells.toList = [.slice a len cap] := by simp [Value.cells]
  rw [hc] at h
  rcases open_slice Tryd.underlying43 h with h0 | ⟨a', len', cap', m, n, D, Pl, h0, hb, hl, hm, hmm, rfl, hx⟩
  · have e := h0.1
    simp only [List.cons.injEq, Value.slice.injEq, and_true] at e
    exact ⟨a, cap, [], by rw [e.2.1]; rfl, by simp, by simp, .inl rfl⟩
  · simp only [List.cons.injEq, Value.slice.injEq, and_true] at h0
    obtain ⟨rfl, rfl, rfl⟩ := h0
    by_cases hz : len = 0
    · subst hz; exact ⟨_, _, [], rfl, by simp, by simp, .inl rfl⟩
    simp only [if_true] at hmm
    subst hmm
    have each : ∀ i, i < len → ∃ q : Int, W.cell? (a'.add i) = some (.int .u8 q) ∧ 0 ≤ q ∧ q ≤ 255 := by
      intro i hi
      obtain ⟨cs', h1, h2⟩ := hx i (by omega)
      rw [cells_u8, Nat.mul_one] at h1
      obtain ⟨_, hlen, hcell⟩ := World.cells?_some h1
      match cs', hlen with
      | [v0], _ =>
        obtain ⟨z0, e0, _, w0⟩ := DataW.trod_int Tryd.underlying5 h2
        simp only [List.cons.injEq, and_true] at e0
        have f0 := hcell 0 (by omega)
        rw [add_add] at f0
        exact ⟨z0, by simpa [e0] using f0, bounds_u8 w0⟩
    obtain ⟨q, hq⟩ := choose_lt each
    obtain ⟨b, off, spot⟩ := a'
    have hspot : spot = none := by
      have := (hq 0 (by omega)).1
      simpa [Addr.add] using World.cell?_spot this
    subst hspot
    refine ⟨_, _, (List.range len).map fun i => (q i).toNat, by simp; rfl, ?_, by simp; omega, .inr ⟨b, off, rfl, ?_⟩⟩
    · intro x hx
      obtain ⟨i, hi, rfl⟩ := List.mem_map.1 hx
      have := (hq i (by simpa using hi)).2
      omega
    · intro j x hj
      rw [List.getElem?_map] at hj
      have hjl : j < len := by
        rcases Nat.lt_or_ge j len with h | h
        · exact h
        · rw [List.getElem?_eq_none (by simpa using h)] at hj; cases hj
      rw [List.getElem?_range hjl] at hj
      obtain rfl : (q j).toNat = x := by simpa using hj
      obtain ⟨c0, r0, r1⟩ := hq j hjl
      rw [add_plain] at c0
      rw [Int.toNat_of_nonneg r0]
      exact c0
theorem gTz : Tryd.prog.globalNamed "math/bits.deBruijn64tab" = some 5 := by kernel_rfl
theorem laid_tz : (Rows.laid_math_bits_deBruijn64tab : DataW Unit) = Lib.tabData .u8 (Lib.deBruijn64tab.map fun n : Nat => (n : Int)) := by kernel_rfl
theorem tTz : (Tryd.prog.globals[5]?).map (·.type) = some 152 := by kernel_rfl
theorem tz_of_laid {W : World} (h : laidMetH Tryd.prog laidL W) : Tz W := by
  rw [MakeChecks.laidMetH_plain _ _ _ (by kernel_rfl)] at h
  have h2 := h.tail
  rw [laid_tz] at h2
  have := Lib.tabIs_of_head gTz tTz Tryd.underlying152 Tryd.underlying5 (by kernel_rfl) (by kernel_rfl) h2
  intro j hj
  have e := Lib.TabIs.cell this gTz j (by rw [List.length_map]; exact hj)
  rw [e, List.getD_eq_getElem?_getD, List.getElem?_map, List.getD_eq_getElem?_getD]
  cases Lib.deBruijn64tab[j]? <;> rfl
end Go.Proofs.YtkgdignpjammbaaDoor
