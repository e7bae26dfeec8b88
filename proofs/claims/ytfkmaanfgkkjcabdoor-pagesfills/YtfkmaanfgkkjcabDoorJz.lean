/- PagesFills: what it stands on -/
import Derived.Test.YtfkmaanfgkkjcabDoorGf
namespace Go.Proofs.YtfkmaanfgkkjcabDoor
open Go.RowKit
set_option linter.unusedVariables false
set_option linter.unusedSimpArgs false

/-- a number brought to 0 .. n - 1 -/
def wth (x n : Int) : Int := (if x < 0 then -(x + 1) else x) % n
theorem wth_ge (x n : Int) (h : 0 < n) : 0 ≤ wth x n := Int.emod_nonneg _ (by omega)
theorem wth_lt (x n : Int) (h : 0 < n) : wth x n < n := Int.emod_lt_of_pos _ h
theorem wth_nat (x n : Int) (h : 0 < n) : ∃ m : Nat, wth x n = m ∧ (m : Int) < n := ⟨(wth x n).toNat, by have := wth_ge x n h; omega, by have := wth_ge x n h; have := wth_lt x n h; omega⟩
set_option maxHeartbeats 1000000 in
theorem within_any (x n : Int) (w : World) (h1 : -9223372036854775808 ≤ x) (h2 : x ≤ 9223372036854775807) (h3 : 0 < n) (h4 : n ≤ 4096) :
    Calls Tryd.prog 4 #[.int .i64 x, .int .i64 n] w fun e w' => e = .returned (.int .i64 (wth x n)) ∧ w' = w := by
  have hn0 : (n == 0) = false := by rw [beq_eq_false_iff_ne]; omega
  have hn1 : n ≠ 0 := by omega
  by_cases hx : x < 0
  · have HE : Hid ((wrap64 (-wrap64 (x + 1))).tmod n = wth x n) := by
      have e1 : wrap64 (x + 1) = x + 1 := by unfold wrap64; omega
      have e2 : wrap64 (-(x + 1)) = -(x + 1) := by unfold wrap64; omega
      show (wrap64 (-wrap64 (x + 1))).tmod n = wth x n
      rw [e1, e2, Int.tmod_eq_emod_of_nonneg (by omega)]
      unfold wth; rw [if_pos hx]
    clear h2 h4 h1
    go_enter Tryd.func4, Tryd.ntmps4
    go_wp2
    go_ret
    exact ⟨ret_int HE.out, rfl⟩
  · have hx0 : 0 ≤ x := by omega
    have HE : Hid (x.tmod n = wth x n) := by
      show x.tmod n = wth x n
      rw [Int.tmod_eq_emod_of_nonneg hx0]
      unfold wth; rw [if_neg hx]
    have HE2 : Hid (x % n = wth x n) := by
      show x % n = wth x n
      unfold wth; rw [if_neg hx]
    clear h2 h4 h1 hx
    go_enter Tryd.func4, Tryd.ntmps4
    go_wp2
    go_ret
    exact ⟨ret_int (by first | exact HE.out | exact HE2.out), rfl⟩
theorem tc_alive : tcP (fun _ => (0, 0, 0)) 3 2 = 0 ∧ tcE (fun _ => (0, 0, 0)) 3 2 = 0 := by decide
theorem tr_alive : trP (tcS (fun _ => (0, 0, 0)) 3 2) 3 2 = 1 ∧ trE (tcS (fun _ => (0, 0, 0)) 3 2) 3 2 = 0 ∧ stP (trS (tcS (fun _ => (0, 0, 0)) 3 2) 3 2) 3 1 = (2, 0, 2) := by decide
set_option maxRecDepth 100000 in
set_option maxHeartbeats 4000000 in
theorem alive_any {w : World} (hT : Tab w) : Calls Tryd.prog 6 #[] w fun e w' => e = .returned (.bool true) ∧ Out 0 0 w w' := by
  have HN := hid_mk (new_yes hT 3 (by omega) (by omega))
  rw [show ((3 : Nat) : Int) = 3 from rfl] at HN
  have HT := hid_mk hT
  have HL := hid_mk hT.lt
  clear hT
  go_enter Tryd.func6, Tryd.ntmps6
  go_wp2_with (first | (go_at_call 5; refine HN.out.mono ?_; rintro e w1 ⟨rfl, ht, ho, hs⟩; have HC1 := hid_mk (takeClass_any ht (HT.out.quiet ho) 2); rw [tc_alive.1, tc_alive.2] at HC1; have HO1 := hid_mk ho; have HS1 := hid_mk hs; clear ht ho hs) | (go_at_call 7; refine HC1.out.mono ?_; rintro e w2 ⟨rfl, ht, ho⟩; have HO2 : Hid (Out 0 0 w w2) := HO1.out.past ho (Nat.le_refl _); have HC2 := hid_mk (takeRun_any ht (HT.out.quiet HO2.out) 2); rw [tr_alive.1, tr_alive.2.1] at HC2; clear ht ho) | (go_at_call 8; refine HC2.out.mono ?_; rintro e w3 ⟨rfl, ht, ho⟩; have HO3 : Hid (Out 0 0 w w3) := HO2.out.past ho (Nat.le_refl _); have HC3 := hid_mk (state_any ht 1); rw [tr_alive.2.2, show inB 3 1 = true from by decide, show pgV (2, 0, 2) = .agg #[.int .i64 2, .int .i64 0, .int .i64 2] from rfl] at HC3; clear ht ho) | (go_at_call 11; refine HC3.out.mono ?_; rintro e w4 ⟨rfl, ho⟩; have HO4 : Hid (Out 0 0 w w4) := HO3.out.trans ho; clear ho))
  all_goals go_ret
  all_goals exact ⟨rfl, by first | exact HO4.out | exact HO4.out.alloc _⟩
theorem tr_none {S : Nat → Int × Int × Int} {N K : Nat} (h1 : 1 ≤ K) (h2 : K ≤ 16) (h : rowF S N K = none) : trP S N (K : Int) = 0 ∧ trE S N (K : Int) = 20 ∧ trS S N (K : Int) = S := by
  have hb : runB (K : Int) = true := by unfold runB; simp; omega
  unfold trP trE trS
  rw [if_pos hb, if_pos hb, if_pos hb, show ((K : Nat) : Int).toNat = K from by omega, h]
  exact ⟨rfl, rfl, rfl⟩
theorem tr_some {S : Nat → Int × Int × Int} {N K r : Nat} (h1 : 1 ≤ K) (h2 : K ≤ 16) (h : rowF S N K = some r) : trP S N (K : Int) = r ∧ trE S N (K : Int) = 0 ∧ trS S N (K : Int) = setR S r K := by
  have hb : runB (K : Int) = true := by unfold runB; simp; omega
  unfold trP trE trS
  rw [if_pos hb, if_pos hb, if_pos hb, show ((K : Nat) : Int).toNat = K from by omega, h]
  exact ⟨rfl, rfl, rfl⟩
theorem tc_none {S : Nat → Int × Int × Int} {N j : Nat} (h2 : j < 8) (h : rowF S N 1 = none) : tcP S N (j : Int) = 0 ∧ tcE S N (j : Int) = 20 ∧ tcS S N (j : Int) = S := by
  have hb : classB (j : Int) = true := by unfold classB; simp; omega
  unfold tcP tcE tcS
  rw [if_pos hb, if_pos hb, if_pos hb, h]
  exact ⟨rfl, rfl, rfl⟩
theorem tc_some {S : Nat → Int × Int × Int} {N j r : Nat} (h2 : j < 8) (h : rowF S N 1 = some r) : tcP S N (j : Int) = r ∧ tcE S N (j : Int) = 0 ∧ tcS S N (j : Int) = setC S r j := by
  have hb : classB (j : Int) = true := by unfold classB; simp; omega
  unfold tcP tcE tcS
  rw [if_pos hb, if_pos hb, if_pos hb, h]
  exact ⟨rfl, rfl, rfl⟩
/-- what is given has changed, and nothing else -/
theorem gv_same {S : Nat → Int × Int × Int} {n p : Nat} (hp : p < n) (hk : (S p).1 = 1 ∨ (S p).1 = 2) : gvS S n (p : Int) = setF S p (lenP (S p)) ∧ gvE S n (p : Int) = 0 := by
  have hin : inB n (p : Int) = true := by unfold inB; simp; omega
  have e : ((p : Nat) : Int).toNat = p := by omega
  have hb : giveB S n (p : Int) = true := by
    unfold giveB
    rw [hin, e]
    rcases hk with h | h <;> simp [h]
  unfold gvS gvE
  rw [if_pos hb, if_pos hb, e]
  exact ⟨rfl, rfl⟩
/-! full tables -/
def FullTo (T : Nat → Int × Int × Int) (n i : Nat) : Prop := (∀ j, j < i → (T j).1 = 1) ∧ ∀ j, i ≤ j → j < n → T j = (0, 0, 0)
theorem FullTo.row {T : Nat → Int × Int × Int} {n i : Nat} (h : FullTo T n i) (hi : i < n) : rowF T n 1 = some i :=
  rowF_of (by omega) (by omega) (allF_iff.2 fun j j1 j2 => by rw [h.2 j j1 (by omega)]; rfl) (fun q hq => not_all (j := q) (Nat.le_refl _) (by omega) (by unfold freeB; rw [h.1 q hq]; rfl))
theorem FullTo.next {T : Nat → Int × Int × Int} {n i : Nat} (h : FullTo T n i) (c : Int) : FullTo (setC T i c) n (i + 1) := by
  refine ⟨fun j hj => ?_, fun j j1 j2 => ?_⟩
  · unfold setC
    by_cases e : j = i
    · rw [if_pos e]
    · rw [if_neg e]; exact h.1 j (by omega)
  · unfold setC; rw [if_neg (by omega)]; exact h.2 j (by omega) j2
theorem FullTo.none {T : Nat → Int × Int × Int} {n k : Nat} (h : FullTo T n n) (hk : 1 ≤ k) : rowF T n k = none :=
  rowF_no fun q hq => not_all (j := q) (Nat.le_refl _) (by omega) (by unfold freeB; rw [h.1 q (by omega)]; rfl)
theorem cnt_none {S : Nat → Int × Int × Int} : ∀ n, (∀ j, j < n → freeB (S j) = false) → cntF S n = 0 := by
  intro n
  induction n with
  | zero => intro _; rfl
  | succ n ih =>
    intro h
    rw [cntF_succ, ih (fun j hj => h j (by omega)), h n (by omega)]
    rfl
theorem FullTo.cnt {T : Nat → Int × Int × Int} {n : Nat} (h : FullTo T n n) : cntF T n = 0 := cnt_none n fun j hj => by unfold freeB; rw [h.1 j hj]; rfl
theorem FullTo.len {T : Nat → Int × Int × Int} {n p : Nat} (h : FullTo T n n) (hp : p < n) : lenP (T p) = 1 := by unfold lenP; rw [h.1 p hp]; rfl
theorem FullTo.again {T : Nat → Int × Int × Int} {n p : Nat} (h : FullTo T n n) (hp : p < n) : rowF (setF T p 1) n 1 = some p :=
  rowF_of (by omega) (by omega) (allF_iff.2 fun j j1 j2 => by unfold setF; rw [if_pos ⟨j1, j2⟩]; rfl) (fun q hq => not_all (j := q) (Nat.le_refl _) (by omega) (by unfold setF; rw [if_neg (by omega)]; unfold freeB; rw [h.1 q (by omega)]; rfl))
theorem FullTo.cnt2 {T : Nat → Int × Int × Int} {n p : Nat} (h : FullTo T n n) (hp : p < n) : cntF (setR (setF T p 1) p 1) n = 0 := cnt_none n fun j hj => by
  unfold setR
  by_cases e : j = p
  · rw [if_pos e]; rfl
  · rw [if_neg e, if_neg (by omega)]
    unfold setF
    rw [if_neg (by omega)]
    unfold freeB; rw [h.1 j hj]; rfl
theorem bits7 (z : Int) : ∃ c : Nat, bits .and .i64 z 7 = c ∧ c < 8 := by
  have e : bits .and .i64 z 7 = IntKind.wrap .i64 ((BitVec.ofInt 64 z &&& BitVec.ofInt 64 7).toNat : Nat) := rfl
  have h : (BitVec.ofInt 64 z &&& BitVec.ofInt 64 7).toNat ≤ 7 := by
    rw [BitVec.toNat_and]
    exact Nat.le_trans Nat.and_le_right (by decide)
  refine ⟨(BitVec.ofInt 64 z &&& BitVec.ofInt 64 7).toNat, ?_, by omega⟩
  rw [e]
  generalize (BitVec.ofInt 64 z &&& BitVec.ofInt 64 7).toNat = m at *
  have hm : m = 0 ∨ m = 1 ∨ m = 2 ∨ m = 3 ∨ m = 4 ∨ m = 5 ∨ m = 6 ∨ m = 7 := by omega
  rcases hm with rfl | rfl | rfl | rfl | rfl | rfl | rfl | rfl <;> rfl
end Go.Proofs.YtfkmaanfgkkjcabDoor
