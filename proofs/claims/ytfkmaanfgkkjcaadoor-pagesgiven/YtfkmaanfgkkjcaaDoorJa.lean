/- the statements without the document's answer: within, busy, free -/
import Derived.Test.YtfkmaanfgkkjcaaDoorGk
import Derived.Deep.Slices
import Derived.Lib.SmallJoins
namespace Go.Proofs.YtfkmaanfgkkjcaaDoor
open Go.ChangeShapes Go.WideShapes Go.ChangeAt Go.RowKit Go.Deep
set_option linter.unusedVariables false
set_option linter.unusedSimpArgs false

/-- a number brought to 0 .. n - 1 -/
def wth (x n : Int) : Int := (if x < 0 then -(x + 1) else x) % n
theorem wth_ge (x n : Int) (h : 0 < n) : 0 ≤ wth x n := Int.emod_nonneg _ (by omega)
theorem wth_lt (x n : Int) (h : 0 < n) : wth x n < n := Int.emod_lt_of_pos _ h
theorem wth_nat (x n : Int) (h : 0 < n) : ∃ m : Nat, wth x n = m ∧ (m : Int) < n := ⟨(wth x n).toNat, by have := wth_ge x n h; omega, by have := wth_ge x n h; have := wth_lt x n h; omega⟩
set_option maxHeartbeats 1000000 in
theorem within_any (x n : Int) (w : World) (h1 : -9223372036854775808 ≤ x) (h2 : x ≤ 9223372036854775807) (h3 : 0 < n) (h4 : n ≤ 4096) :
    Calls Tryd.prog 14 #[.int .i64 x, .int .i64 n] w fun e w' => e = .returned (.int .i64 (wth x n)) ∧ w' = w := by
  have hn0 : (n == 0) = false := by rw [beq_eq_false_iff_ne]; omega
  have hn1 : n ≠ 0 := by omega
  by_cases hx : x < 0
  · have HE : Hid ((wrap64 (-wrap64 (x + 1))).tmod n = wth x n) := by
      have e1 : wrap64 (x + 1) = x + 1 := by unfold wrap64; omega
      have e2 : wrap64 (-(x + 1)) = -(x + 1) := by unfold wrap64; omega
      show (wrap64 (-wrap64 (x + 1))).tmod n = wth x n
      rw [e1, e2, Int.tmod_eq_emod_of_nonneg (by omega)]
      unfold wth; rw [if_pos hx]
    clear h2 h4 h1
    go_enter Tryd.func14, Tryd.ntmps14
    go_wp2
    go_ret
    exact ⟨ret_int HE.out, rfl⟩
  · have hx0 : 0 ≤ x := by omega
    have HE : Hid (x.tmod n = wth x n) := by
      show x.tmod n = wth x n
      rw [Int.tmod_eq_emod_of_nonneg hx0]
      unfold wth; rw [if_neg hx]
    have HE2 : Hid (x % n = wth x n) := by
      show x % n = wth x n
      unfold wth; rw [if_neg hx]
    clear h2 h4 h1 hx
    go_enter Tryd.func14, Tryd.ntmps14
    go_wp2
    go_ret
    exact ⟨ret_int (by first | exact HE.out | exact HE2.out), rfl⟩
/-! the script among the arguments -/
def SAt (W : World) (b off : Nat) (q : Int × Int × Int) : Prop := W.cell? ⟨b, off, none⟩ = some (.int .i64 q.1) ∧ W.cell? ⟨b, off + 1, none⟩ = some (.int .i64 q.2.1) ∧ W.cell? ⟨b, off + 2, none⟩ = some (.int .i64 q.2.2)
def Script (W : World) (b off len : Nat) (q : Nat → Int × Int × Int) : Prop := ∀ i, i < len → SAt W b (off + i * 3) (q i)
theorem Script.kept {W W' : World} {b off len : Nat} {q : Nat → Int × Int × Int} (h : Script W b off len q) (o : Out 0 0 W W') : Script W' b off len q := by
  intro i hi
  obtain ⟨c0, c1, c2⟩ := h i hi
  exact ⟨o.cell c0 (.inr (Nat.zero_le _)), o.cell c1 (.inr (Nat.zero_le _)), o.cell c2 (.inr (Nat.zero_le _))⟩
set_option maxRecDepth 100000 in
set_option maxHeartbeats 4000000 in
theorem busy_any {w : World} (hT : Tab w) (n : Nat) (h1 : 1 ≤ n) (h2 : n ≤ 60) {a : Option Addr} {len cap : Nat} (hA : 0 < len → ∃ b off q, a = some ⟨b, off, none⟩ ∧ Script w b off len q) :
    Calls Tryd.prog 15 #[.int .i64 n, .slice a len cap] w fun e w' => ∃ b bw S, e = .returned (.pointer (some ⟨b, 0, none⟩)) ∧ TblAt 70 w' b bw n S ∧ w.heap.size ≤ b ∧ w.heap.size ≤ bw ∧ Out 0 0 w w' := by
  have HT := hid_mk hT
  have HQ := hid_mk hA
  have HN := hid_mk (new_yes hT n h1 (by omega))
  clear hT hA h1 h2
  go_enter Tryd.func15, Tryd.ntmps15
  go_wp2_with fail
  refine HN.out.mono ?_
  rintro e w1 ⟨rfl, ht, ho, hs⟩
  have HT1 := hid_mk ht
  have HO1 := hid_mk ho
  obtain ⟨b, hb⟩ : ∃ b, w.heap.size + 1 = b := ⟨_, rfl⟩
  obtain ⟨bw, hbw⟩ : ∃ bw, w.heap.size = bw := ⟨_, rfl⟩
  have HBs : Hid (w.heap.size ≤ b ∧ w.heap.size ≤ bw) := by show _ ∧ _; omega
  rw [hb] at HT1 ⊢
  rw [hbw] at HT1
  clear ht ho hs HN hb hbw
  go_wp2_with fail
  go_loopw [7] (fun y wr => ∃ (i : Nat) (S : Nat → Int × Int × Int), i ≤ len ∧ i ≤ 400 ∧ y = .int .i64 i ∧ TblAt 70 wr b bw n S ∧ Out 0 0 w wr) (fun y _ => 400 - (intOf y).toNat)
  case atStart => exact ⟨0, _, Nat.zero_le _, Nat.zero_le _, rfl, HT1.out, HO1.out⟩
  case round =>
    obtain ⟨i, S, i1, i2, rfl, ht, ho⟩ := hrel
    have HTt := hid_mk ht
    have HO := hid_mk ho
    have b0 : (0 : Int) ≤ (i : Int) := by omega
    by_cases hgo : i < len ∧ i < 400
    · obtain ⟨g1, g2⟩ := hgo
      obtain ⟨sb, off, q, rfl, hq⟩ := HQ.out (by omega)
      obtain ⟨c0, c1, c2⟩ := (hq.kept ho) i g1
      generalize (q i).1 = z at *
      generalize (q i).2.1 = kd at *
      generalize (q i).2.2 = x at *
      have b1 : (i : Int) < (len : Int) := by omega
      have b2 : (i : Int) < 400 := by omega
      have oA : Out 0 0 wr (wr.alloc (.cells #[.int .i64 z, .int .i64 kd, .int .i64 x] 28)) := (Out.refl _ _ _).alloc _
      have hx := heap_alloc_new wr (.cells #[.int .i64 z, .int .i64 kd, .int .i64 x] 28)
      obtain ⟨X, hX⟩ : ∃ X, wr.heap.size = X := ⟨_, rfl⟩
      obtain ⟨WA, hW⟩ : ∃ WA, wr.alloc (.cells #[.int .i64 z, .int .i64 kd, .int .i64 x] 28) = WA := ⟨_, rfl⟩
      rw [hW] at oA hx
      rw [hX] at hx
      have HTA := hid_mk (ht.quiet oA)
      have HOA := hid_mk (ho.trans oA)
      obtain ⟨x0, x1, x2⟩ := box3 hx
      clear ht ho oA hx hq HTt HO HQ HT1 HO1
      by_cases hk1 : kd = 1
      · subst hk1
        have HC := hid_mk (takeClass_any (HTA.out) (HT.out.quiet HOA.out) x)
        go_wp2_with (go_at_call 20; refine HC.out.mono ?_; rintro e wB ⟨rfl, hB, hO⟩)
        have HTB := hid_mk hB
        have HOB : Hid (Out 0 0 w wB) := HOA.out.past hO HBs.out.2
        clear hB hO
        go_roundw
        case rel => exact ⟨i + 1, _, by omega, by omega, by go_num, HTB.out, HOB.out⟩
        case measure => simp [intOf]; omega
      · by_cases hk2 : kd = 2
        · subst hk2
          have HC := hid_mk (takeRun_any (HTA.out) (HT.out.quiet HOA.out) x)
          go_wp2_with (go_at_call 19; refine HC.out.mono ?_; rintro e wB ⟨rfl, hB, hO⟩)
          have HTB := hid_mk hB
          have HOB : Hid (Out 0 0 w wB) := HOA.out.past hO HBs.out.2
          clear hB hO
          go_roundw
          case rel => exact ⟨i + 1, _, by omega, by omega, by go_num, HTB.out, HOB.out⟩
          case measure => simp [intOf]; omega
        · by_cases hk3 : kd = 3
          · subst hk3
            have HC := hid_mk (give_any (HTA.out) (HT.out.quiet HOA.out) x)
            go_wp2_with (go_at_call 23; refine HC.out.mono ?_; rintro e wB ⟨rfl, hB, hO⟩)
            have HTB := hid_mk hB
            have HOB : Hid (Out 0 0 w wB) := HOA.out.past hO HBs.out.2
            clear hB hO
            go_roundw
            case rel => exact ⟨i + 1, _, by omega, by omega, by go_num, HTB.out, HOB.out⟩
            case measure => simp [intOf]; omega
          · have e1 : (kd == 1) = false := by simpa using hk1
            have e2 : (kd == 2) = false := by simpa using hk2
            have e3 : (kd == 3) = false := by simpa using hk3
            clear hk1 hk2 hk3
            go_wp2
            go_roundw
            case rel => exact ⟨i + 1, S, by omega, by omega, by go_num, HTA.out, HOA.out⟩
            case measure => simp [intOf]; omega
    · clear ht ho
      by_cases hil : i < len
      · have g1 : (i : Int) < (len : Int) := by omega
        have g2 : (400 : Int) ≤ (i : Int) := by omega
        clear hil hgo
        go_wp2
        go_ret
        exact ⟨b, bw, S, rfl, HTt.out, HBs.out.1, HBs.out.2, HO.out⟩
      · have g1 : (len : Int) ≤ (i : Int) := by omega
        clear hil hgo
        go_wp2
        go_ret
        exact ⟨b, bw, S, rfl, HTt.out, HBs.out.1, HBs.out.2, HO.out⟩
set_option maxHeartbeats 1000000 in
theorem lfree_any {w : World} {b bw n : Nat} {S : Nat → Int × Int × Int} (h : TblAt 70 w b bw n S) (i : Nat) (hi : i < n) :
    Calls Tryd.prog 16 #[.pointer (some ⟨b, 0, none⟩), .int .i64 i] w fun e w' => e = .returned (.bool (freeB (S i))) ∧ Out 0 0 w w' := by
  have e1 : inB n (i : Int) = true := by unfold inB; simp; omega
  have e2 : stP S n (i : Int) = S i := by unfold stP; rw [e1]; rfl
  obtain ⟨x, y, t, hp⟩ := page_of (S i)
  have HS : Hid (Calls Tryd.prog 22 #[.pointer (some ⟨b, 0, none⟩), .int .i64 i] w fun e w' => e = .returned (.tuple #[.agg #[.int .i64 x, .int .i64 y, .int .i64 t], .bool true]) ∧ Out 0 0 w w') := by
    have := state_any h (i : Int)
    rw [e1, e2, hp] at this
    exact this
  have HF : Hid ((x == 0) = freeB (S i)) := by show _ = _; rw [hp]; rfl
  clear h e1 e2 hp
  go_enter Tryd.func16, Tryd.ntmps16
  go_wp2_with (go_at_call 22; refine HS.out.mono ?_; rintro e w1 ⟨rfl, ho⟩)
  go_ret
  exact ⟨ret_bool HF.out, ho.alloc _⟩
end Go.Proofs.YtfkmaanfgkkjcaaDoor
