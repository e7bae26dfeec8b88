/- the statements without the document's answer: within, filled -/
import Derived.Test.YtnkobcldagajeabDoorLa
import Derived.Deep.Slices
import Derived.Lib.SmallJoins
namespace Go.Proofs.YtnkobcldagajeabDoor
open Go.ChangeShapes Go.WideShapes Go.ChangeAt Go.RowKit Go.Deep
set_option linter.unusedVariables false
set_option linter.unusedSimpArgs false

/-- a number brought to 0 .. n - 1 -/
def wth (x n : Int) : Int := (if x < 0 then -(x + 1) else x) % n
theorem wth_ge (x n : Int) (h : 0 < n) : 0 ≤ wth x n := Int.emod_nonneg _ (by omega)
theorem wth_lt (x n : Int) (h : 0 < n) : wth x n < n := Int.emod_lt_of_pos _ h
theorem tmod_pos (a n : Int) (h : 0 ≤ a) : a.tmod n = a % n := Int.tmod_eq_emod_of_nonneg h
set_option maxHeartbeats 1000000 in
theorem within_any (x n : Int) (w : World) (h1 : -9223372036854775808 ≤ x) (h2 : x ≤ 9223372036854775807) (h3 : 0 < n) (h4 : n ≤ 1000000) :
    Calls Tryd.prog 7 #[.int .i64 x, .int .i64 n] w fun e w' => e = .returned (.int .i64 (wth x n)) ∧ w' = w := by
  have hn0 : (n == 0) = false := by rw [beq_eq_false_iff_ne]; omega
  have hn1 : n ≠ 0 := by omega
  have hb := wth_ge x n h3
  have hc := wth_lt x n h3
  clear hb hc
  by_cases hx : x < 0
  · have HE : Hid ((wrap64 (-wrap64 (x + 1))).tmod n = wth x n) := by
      have e1 : wrap64 (x + 1) = x + 1 := by unfold wrap64; omega
      have e2 : wrap64 (-(x + 1)) = -(x + 1) := by unfold wrap64; omega
      show (wrap64 (-wrap64 (x + 1))).tmod n = wth x n
      rw [e1, e2, tmod_pos _ _ (by omega)]
      unfold wth; rw [if_pos hx]
    clear h2 h4 h1
    go_enter Tryd.func7, Tryd.ntmps7
    go_wp2
    go_ret
    exact ⟨ret_int HE.out, rfl⟩
  · have hx0 : 0 ≤ x := by omega
    have HE : Hid (x.tmod n = wth x n) := by
      show x.tmod n = wth x n
      rw [tmod_pos _ _ hx0]
      unfold wth; rw [if_neg hx]
    have HE2 : Hid (x % n = wth x n) := by
      show x % n = wth x n
      unfold wth; rw [if_neg hx]
    clear h2 h4 h1 hx
    go_enter Tryd.func7, Tryd.ntmps7
    go_wp2
    go_ret
    exact ⟨ret_int (by first | exact HE.out | exact HE2.out), rfl⟩
/-! a list of numbers among the arguments -/
def Nums (W : World) (b off len : Nat) (q : Nat → Int) : Prop := ∀ i, i < len → W.cell? ⟨b, off + i, none⟩ = some (.int .i64 (q i)) ∧ -9223372036854775808 ≤ q i ∧ q i ≤ 9223372036854775807
theorem Nums.kept {W W' : World} {b off len : Nat} {q : Nat → Int} (h : Nums W b off len q) (o : Out 0 0 W W') : Nums W' b off len q := fun i hi => ⟨o.cell (h i hi).1 (.inr (Nat.zero_le _)), (h i hi).2⟩
/-- a slice of numbers, opened -/
def ListAt (W : World) (v : Value) (len : Nat) (q : Nat → Int) : Prop := (len = 0 ∧ ∃ a cap, v = .slice a 0 cap) ∨ (0 < len ∧ ∃ b off cap, v = .slice (some ⟨b, off, none⟩) len cap ∧ Nums W b off len q)
theorem ListAt.kept {W W' : World} {v : Value} {len : Nat} {q : Nat → Int} (h : ListAt W v len q) (o : Out 0 0 W W') : ListAt W' v len q := by
  rcases h with h | ⟨h0, b, off, cap, e, hN⟩
  · exact .inl h
  · exact .inr ⟨h0, b, off, cap, e, hN.kept o⟩
theorem cells_int : Tryd.prog.cellsOf 3 = 1 := by kernel_rfl
theorem i64_bounds {n : Int} (h : (Lit.int .i64 n).wf = true) : -9223372036854775808 ≤ n ∧ n ≤ 9223372036854775807 := by
  simpa [Lit.wf, IntKind.min, IntKind.max, IntKind.signed, IntKind.bits] using h
theorem open_nums {H : Type} {enc : TypeId × Value → H} {W : World} {fuel : Nat} {v : Value} {x : DataW H × List MemPlace} (h : DataW.trod enc Tryd.prog W 0 (fun _ => true) true fuel 22 v.cells.toList = some x) (hv : ∃ a len cap, v = .slice a len cap) : ∃ len q, ListAt W v len q := by
  obtain ⟨a, len, cap, rfl⟩ := hv
  have hc : (Value.slice a len cap).cells.toList = [.slice a len cap] := by simp [Value.cells]
  rw [hc] at h
  rcases open_slice Tryd.underlying22 h with h0 | ⟨a', len', cap', m, n, D, Pl, h0, hb, hl, hm, hmm, rfl, hx⟩
  · have e := h0.1
    simp only [List.cons.injEq, Value.slice.injEq, and_true] at e
    exact ⟨0, fun _ => 0, .inl ⟨rfl, a, cap, by rw [e.2.1]⟩⟩
  · simp only [List.cons.injEq, Value.slice.injEq, and_true] at h0
    obtain ⟨rfl, rfl, rfl⟩ := h0
    by_cases hz : len = 0
    · subst hz; exact ⟨0, fun _ => 0, .inl ⟨rfl, _, _, rfl⟩⟩
    simp only [if_true] at hmm
    subst hmm
    have each : ∀ i, i < len → ∃ q : Int, W.cell? (a'.add i) = some (.int .i64 q) ∧ -9223372036854775808 ≤ q ∧ q ≤ 9223372036854775807 := by
      intro i hi
      obtain ⟨cs', h1, h2⟩ := hx i (by omega)
      rw [cells_int, Nat.mul_one] at h1
      obtain ⟨_, hlen, hcell⟩ := World.cells?_some h1
      match cs', hlen with
      | [v0], _ =>
        obtain ⟨z0, e0, _, w0⟩ := DataW.trod_int Tryd.underlying3 h2
        simp only [List.cons.injEq, and_true] at e0
        have f0 := hcell 0 (by omega)
        rw [add_add] at f0
        exact ⟨z0, by simpa [e0] using f0, i64_bounds w0⟩
    obtain ⟨q, hq⟩ := choose_lt each
    obtain ⟨b, off, spot⟩ := a'
    have hspot : spot = none := by
      have := (hq 0 (by omega)).1
      simpa [Addr.add] using World.cell?_spot this
    subst hspot
    refine ⟨len, q, .inr ⟨by omega, b, off, _, rfl, fun i hi => ?_⟩⟩
    obtain ⟨c0, r⟩ := hq i hi
    rw [add_plain] at c0
    exact ⟨c0, r⟩
set_option maxRecDepth 100000 in
set_option maxHeartbeats 2000000 in
theorem filled_some (n : Nat) (h1 : 1 ≤ n) (h2 : n ≤ 262144) (b off len cap : Nat) (q : Nat → Int) {w : World} (hT : Tab w) (hN : Nums w b off len q) (h0 : 0 < len) :
    Calls Tryd.prog 8 #[.int .i64 n, .slice (some ⟨b, off, none⟩) len cap] w fun e w' => ∃ m hi S, e = .returned (.pointer (some ⟨m, 0, none⟩)) ∧ MapAt w' w.heap.size hi m n S ∧ (∀ i, i < len → i < 2000 → S (wth (q i) n).toNat = true) ∧ Out 0 0 w w' := by
  have HN := hid_mk (new_any n w h2 hT)
  have HL := hid_mk hN
  have HT := hid_mk hT
  have H1 := hid_mk h1
  have H2 := hid_mk h2
  clear hN hT h1 h2
  go_enter Tryd.func8, Tryd.ntmps8
  go_wp2_with fail
  refine HN.out.mono ?_
  rintro e w1 ⟨m, rfl, hm, ho⟩
  have HO := hid_mk ho
  have HM := hid_mk hm
  obtain ⟨hi, hhi⟩ : ∃ hi, w1.heap.size = hi := ⟨_, rfl⟩
  rw [hhi] at HM
  clear ho hm hhi HN
  go_wp2_with fail
  go_loopw [7] (fun x wr => ∃ (i : Nat) (S : Nat → Bool), i ≤ len ∧ i ≤ 2000 ∧ x = .int .i64 i ∧ MapAt wr w.heap.size hi m n S ∧ (∀ j, j < i → S (wth (q j) n).toNat = true) ∧ Out 0 0 w wr) (fun x _ => 2000 - (intOf x).toNat)
  case atStart => exact ⟨0, _, Nat.zero_le _, Nat.zero_le _, rfl, HM.out, fun j hj => by omega, HO.out⟩
  case round =>
    clear HM HO
    obtain ⟨i, S, i1, i2, rfl, hm, hs, ho⟩ := hrel
    have HM := hid_mk hm
    have HS := hid_mk hs
    have HO := hid_mk ho
    clear hm hs ho
    by_cases hgo : i < len ∧ i < 2000
    · obtain ⟨g1, g2⟩ := hgo
      obtain ⟨c0, r1, r2⟩ := (HL.out.kept HO.out) i g1
      have j1 : (0 : Int) ≤ (i : Int) := by omega
      have j2 : (i : Int) < (len : Int) := by omega
      have j3 : (i : Int) < 2000 := by omega
      have n1 := H1.out
      have n2 := H2.out
      have hw := fun w => within_any (q i) n w r1 r2 (by omega) (by omega)
      have b1 := wth_ge (q i) n (by omega)
      have b2 := wth_lt (q i) n (by omega)
      have hset := set_any HM.out (wth (q i) n)
      have hin : inB n (wth (q i) n) = true := by simp [inB]; omega
      rw [show setE n (wth (q i) n) = 0 from by unfold setE; rw [if_pos hin], show setS S n (wth (q i) n) true = upd S (wth (q i) n).toNat true from by unfold setS; rw [if_pos hin]] at hset
      obtain ⟨y, hy⟩ : ∃ y, wth (q i) n = y := ⟨_, rfl⟩
      rw [hy] at hw hset
      have HW := hid_mk hw
      have HSet := hid_mk hset
      have HY := hid_mk hy
      have HB : Hid (w.heap.size ≤ w.heap.size) := Nat.le_refl _
      clear hw hset b1 b2 r1 r2 hin n1 n2 g1 g2 hy
      go_wp2_with (first | (go_at_call 7; refine calls_same (HW.out _) ?_) | (go_at_call 20; refine HSet.out.mono ?_; rintro e w3 ⟨rfl, hm3, ho3⟩))
      have HM3 := hid_mk hm3
      have HO3 : Hid (Out 0 0 w w3) := HO.out.past ho3 (Nat.le_refl _)
      clear hm3 ho3
      go_roundw
      case rel =>
        refine ⟨i + 1, _, by omega, by omega, by go_num, HM3.out, fun j hj => ?_, HO3.out⟩
        unfold upd
        by_cases e : (wth (q j) n).toNat = y.toNat
        · rw [if_pos e]
        · rw [if_neg e]
          refine HS.out j ?_
          by_cases e2 : j = i
          · subst e2; exact absurd (by rw [HY.out]) e
          · omega
      case measure => simp [intOf]; omega
    · have HGE : Hid (len ≤ i ∨ 2000 ≤ i) := by show _ ∨ _; omega
      clear hgo
      by_cases hil : len ≤ i
      · have g1 : (len : Int) ≤ (i : Int) := by omega
        clear hil
        go_wp2
        go_ret
        exact ⟨m, hi, S, rfl, HM.out, fun j h3 h4 => HS.out j (by have := HGE.out; omega), HO.out⟩
      · have g1 : (i : Int) < (len : Int) := by omega
        have g2 : (2000 : Int) ≤ (i : Int) := by have := HGE.out; omega
        clear hil
        go_wp2
        go_ret
        exact ⟨m, hi, S, rfl, HM.out, fun j h3 h4 => HS.out j (by have := HGE.out; omega), HO.out⟩
set_option maxRecDepth 100000 in
set_option maxHeartbeats 1000000 in
theorem filled_none (n : Nat) (h2 : n ≤ 262144) (ao : Option Addr) (cap : Nat) {w : World} (hT : Tab w) :
    Calls Tryd.prog 8 #[.int .i64 n, .slice ao 0 cap] w fun e w' => ∃ m hi S, e = .returned (.pointer (some ⟨m, 0, none⟩)) ∧ MapAt w' w.heap.size hi m n S ∧ Out 0 0 w w' := by
  have HN := hid_mk (new_any n w h2 hT)
  clear hT h2
  go_enter Tryd.func8, Tryd.ntmps8
  go_wp2_with fail
  refine HN.out.mono ?_
  rintro e w1 ⟨m, rfl, hm, ho⟩
  have HO := hid_mk ho
  have HM := hid_mk hm
  clear ho hm HN
  go_wp2_with fail
  go_loopw [7] (fun x wr => x = .int .i64 0 ∧ wr = w1) (fun _ _ => 0)
  case atStart => exact ⟨rfl, rfl⟩
  case round =>
    obtain ⟨rfl, rfl⟩ := hrel
    go_wp2
    go_ret
    exact ⟨m, _, _, rfl, HM.out, HO.out⟩
theorem filled_any (n : Nat) (h1 : 1 ≤ n) (h2 : n ≤ 262144) {v : Value} {len : Nat} {q : Nat → Int} {w : World} (hT : Tab w) (hL : ListAt w v len q) :
    Calls Tryd.prog 8 #[.int .i64 n, v] w fun e w' => ∃ m hi S, e = .returned (.pointer (some ⟨m, 0, none⟩)) ∧ MapAt w' w.heap.size hi m n S ∧ (∀ i, i < len → i < 2000 → S (wth (q i) n).toNat = true) ∧ Out 0 0 w w' := by
  rcases hL with ⟨rfl, a, cap, rfl⟩ | ⟨h0, b, off, cap, rfl, hN⟩
  · exact (filled_none n h2 a cap hT).mono fun e w' ⟨m, hi, S, x1, x2, x3⟩ => ⟨m, hi, S, x1, x2, fun i hi => by omega, x3⟩
  · exact filled_some n h1 h2 b off len cap q hT hN h0
end Go.Proofs.YtnkobcldagajeabDoor
