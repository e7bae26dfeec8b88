/- counts of parts -/
import Derived.Test.YtnkobcldagajeabDoorMa
namespace Go.Proofs.YtnkobcldagajeabDoor
open Go.RowKit
set_option linter.unusedVariables false
set_option linter.unusedSimpArgs false

theorem count_nat {w : World} {lo hi b n : Nat} {S : Nat → Bool} (h : MapAt w lo hi b n S) (x y c : Nat) (hx : x ≤ 1000000) (hy : y ≤ n) (hc : cntR S x y = c) :
    Calls Tryd.prog 10 #[.pointer (some ⟨b, 0, none⟩), .int .i64 x, .int .i64 y] w fun e w' => e = .returned (.int .i64 c) ∧ MapAt w' lo hi b n S ∧ Out 0 0 w w' := by
  have := countRange_any h x y (by omega)
  rw [Int.toNat_natCast, show (min (y : Int) n).toNat = y from by omega, hc] at this
  exact this.mono fun e w' ⟨h1, h2⟩ => ⟨h1, h.quiet h2, h2⟩
theorem fill_cnt_in (S : Nat → Bool) (a b : Nat) (h : a ≤ b) : cntR (fill S a b true) a b = b - a := by
  have e := cntR_split (fill S a b true) a b h
  have h1 : cnt (fill S a b true) b = cnt S a + (b - a) := by
    obtain ⟨d, rfl⟩ : ∃ d, b = a + d := ⟨b - a, by omega⟩
    rw [cnt_add, cnt_congr (T := S) fun j hj => by unfold fill; rw [if_neg (by omega)], cnt_full (k := d) fun j hj => by show fill S a (a + d) true (a + j) = true; unfold fill; rw [if_pos (by omega)]]
    omega
  have h2 : cnt (fill S a b true) a = cnt S a := cnt_congr fun j hj => by unfold fill; rw [if_neg (by omega)]
  omega
theorem fill_cnt_low (S : Nat → Bool) (a b : Nat) (v : Bool) : cntR (fill S a b v) 0 a = cntR S 0 a := by
  rw [cntR_zero, cntR_zero]
  exact cnt_congr fun j hj => by unfold fill; rw [if_neg (by omega)]
theorem fill_cnt_high (S : Nat → Bool) (a b n : Nat) (v : Bool) : cntR (fill S a b v) b n = cntR S b n := by
  unfold cntR
  exact cnt_congr fun j hj => by
    by_cases h : b ≤ j
    · unfold fill; rw [if_neg (by omega)]
    · simp [h]
theorem fill_cnt_out (S : Nat → Bool) (a b : Nat) : cntR (fill S a b false) a b = 0 := by
  unfold cntR
  exact cnt_zero fun j hj => by
    by_cases h : a ≤ j
    · unfold fill; rw [if_pos ⟨h, hj⟩]; simp
    · simp [h]
theorem fill_nx (S : Nat → Bool) (a b n : Nat) (h : a ≤ b) (hb : b ≤ n) : nxr (fill S a b false) n a = nxr (fill S a b false) n b := by
  have e : nx (fill S a b false) n a = nx (fill S a b false) n b := by
    have g1 := nx_ge (fill S a b false) n b hb
    refine nx_eq _ n a _ (by omega) (nx_le _ _ _) (fun j h1 h2 => ?_) (nx_in _ _ _)
    by_cases hj : j < b
    · unfold fill; rw [if_pos ⟨h1, hj⟩]
    · exact nx_out _ n b j (by omega) h2
  unfold nxr; rw [e]
end Go.Proofs.YtnkobcldagajeabDoor
