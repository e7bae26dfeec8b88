/- BitmapWalk: the walk by contracts, then the row, then its card. -/
import Derived.Test.YtnkobcldagajeabDoorCards
import Derived.Test.YtnkobcldagajeabDoorLt
import Derived.Test.YtnkobcldagajeabDoorMe
namespace Go.Proofs.YtnkobcldagajeabDoor.bitmapWalk
open Go.ChangeShapes Go.WideShapes Go.ChangeAt Go.RowKit Go.Deep
set_option linter.unusedVariables false
set_option linter.unusedSimpArgs false

set_option maxRecDepth 100000 in
set_option maxHeartbeats 4000000 in
theorem key {v : Value} {len : Nat} {q : Nat → Int} (x0 : Int) (t n : Nat) {w : World} (hT : Tab w) (hL : ListAt w v len q)
    (ht : wth x0 20000 = t) (hn : 1 + (t : Int) = n) (ht2 : t < 20000)
    (r0 : -9223372036854775808 ≤ x0 ∧ x0 ≤ 9223372036854775807) :
    Calls Tryd.prog 4 #[.int .i64 x0, v] w fun e w' => e = .returned (.bool true) ∧ Out 0 0 w w' := by
  have hw0 := fun w => within_any x0 20000 w r0.1 r0.2 (by omega) (by omega)
  rw [ht] at hw0
  have HW0 := hid_mk hw0
  have oW : Out 0 0 w (w.alloc (.cells #[.int .i64 n] 3)) := (Out.refl _ _ _).alloc _
  have HFi := hid_mk (filled_any n (by omega) (by omega) (hT.kept oW (.inr (Nat.le_refl _))) (hL.kept oW))
  have HL := hid_mk hL
  have HBn := hid_mk (Box.new w 3 (.int .i64 n))
  have HOw := hid_mk oW
  have HT := hid_mk hT
  obtain ⟨cc, n1, n2⟩ : ∃ cc : Int, (n : Int) ≤ 64 * cc ∧ cc ≤ 313 := ⟨313, by omega, by omega⟩
  have n0 : (1 : Int) ≤ (n : Int) := by omega
  have HN : Hid (1 ≤ n ∧ n ≤ 20000) := by show _ ∧ _; omega
  have cn := HBn.out.cell
  clear hw0 hT hL r0 ht ht2 oW
  go_enter Tryd.func4, Tryd.ntmps4
  go_wp2_with (go_at_call 7; refine calls_same (HW0.out _) ?_)
  refine HFi.out.mono ?_
  rintro e w1 ⟨m, hi, S, rfl, hm, hS, ho⟩
  have HM := hid_mk hm
  have HSin := hid_mk hS
  have HO := hid_mk ho
  clear hm ho HFi hS cn
  go_wp2_with fail
  refine (alive_any w1 ((HT.out.kept HOw.out (.inr (Nat.le_refl _))).kept HO.out (.inr (Nat.le_refl _)))).mono ?_
  rintro e w2 ⟨rfl, ho⟩
  have HO2 := hid_mk (HO.out.trans ho)
  have HM2 := hid_mk (HM.out.quiet ho)
  clear ho HM HO
  have hb3 : Box (w2.alloc (.cells #[.slice none 0 0] 22)) w2.heap.size 22 (.slice none 0 0) := Box.new _ _ _
  have o3 : Out 0 0 w2 (w2.alloc (.cells #[.slice none 0 0] 22)) := (Out.refl _ _ _).alloc _
  have HB3 := hid_mk hb3
  have HM3 := hid_mk (HM2.out.quiet o3)
  have HO3 := hid_mk (HO2.out.trans o3)
  have HX := hid_mk (next_any HM3.out 0)
  rw [show (0 : Int).toNat = 0 from rfl] at HX
  obtain ⟨B, hB⟩ : ∃ B, w.heap.size = B := ⟨_, rfl⟩
  obtain ⟨T, hTt⟩ : ∃ T, w2.heap.size = T := ⟨_, rfl⟩
  have HhT : Hid (hi ≤ T) := by show hi ≤ T; rw [← hTt]; exact HM2.out.bounds.2.2.1
  clear hb3 o3
  go_wp2_with fail
  refine HX.out.mono ?_
  rintro e w4 ⟨rfl, ho4⟩
  obtain ⟨lo, hlo⟩ : ∃ lo, (w.alloc (.cells #[.int .i64 n] 3)).heap.size = lo := ⟨_, rfl⟩
  have HhB : Hid (lo = B + 1 ∧ B < T ∧ lo ≤ T) := by
    have e1 := HO2.out.size
    have e2 : (w.alloc (.cells #[.int .i64 n] 3)).heap.size = w.heap.size + 1 := by simp
    show _ ∧ _ ∧ _
    omega
  have HM4 := hid_mk (HM3.out.quiet ho4)
  rw [hlo] at HM4
  have HB4 := hid_mk (HB3.out.kept ho4 (.inr (Nat.zero_le _)))
  rw [hTt] at HB4
  have HBn4 := hid_mk ((HBn.out.kept HO3.out (.inr (Nat.zero_le _))).kept ho4 (.inr (Nat.zero_le _)))
  rw [hB] at HBn4
  have HO4 := hid_mk ((HOw.out.trans HO3.out).trans ho4)
  obtain ⟨i0, hi0, hz0, hz1, hz2⟩ := info_parts info_int
  clear ho4 HX HB3 HM3 HO3 HO2 HM2 HOw HBn hlo
  clear hTt
  go_wp2_with fail
  go_loopw [8] (fun x wr => ∃ (p : Nat) (pre : List Nat) (vt : Value), p ≤ n ∧ x = .int .i64 (nxr S n p) ∧ pre ++ lst S n p = lst S n 0 ∧ pre.length ≤ p ∧ (∀ y ∈ pre, y < p) ∧ WalkAt w wr B T n lo hi m S vt pre) (fun x _ => meas n x)
  case atStart => exact ⟨0, [], _, Nat.zero_le _, rfl, rfl, Nat.zero_le _, fun y hy => by simp at hy, HBn4.out, HB4.out, World.ownsRow_nil _ _ _ _, HM4.out, HO4.out, HhT.out, HhB.out.2.1, Nat.le_of_eq hB⟩
  case round =>
    clear HM4 HB4 HBn4 HO4
    obtain ⟨p, pre, vt, a1, rfl, a3, a4, a5, a6⟩ := hrel
    rcases step_facts S n p a1 with ⟨e1, e2⟩ | ⟨k, e1, e2, e3, e4, e5⟩
    · obtain rfl : pre = lst S n 0 := by rw [← a3, e2, List.append_nil]
      rw [e1]
      obtain ⟨ao, cap, rfl, hrow⟩ := own_open a6.2.2.1
      have H6 := hid_mk a6
      have HLn : Hid ((lst S n 0).length ≤ 20000) := by show _ ≤ 20000; have := HN.out; omega
      obtain ⟨A, hA⟩ : ∃ A, wr.heap.size = A := ⟨_, rfl⟩
      have oa : Out 0 0 wr ((wr.alloc (.cells #[.int .i64 0] 3)).alloc (.cells #[.pointer (some ⟨m, 0, none⟩)] 24)) := ((Out.refl _ _ _).alloc _).alloc _
      have hA2 : (wr.alloc (.cells #[.int .i64 0] 3)).heap.size = A + 1 := by simp; exact hA
      have HAW := hid_mk (allWalk (nb := B) (a := A) (a6.2.2.2.1.quiet oa) (by have := a6.2.2.2.1.bounds; omega) hA2 (Box.new _ _ _) (by rw [← hA]; exact (Box.new _ _ _).alloc _) (by have := a6.lt; omega) (a6.2.1.kept oa (.inr (Nat.zero_le _))) (fun h => by
        obtain ⟨g, g0, g1, g2, g3⟩ := hrow h
        exact ⟨g, g0, by omega, fun i hi => oa.cell (g3 i hi) (.inr (Nat.zero_le _))⟩) HLn.out HN.out.2)
      rw [hA2] at HAW
      have HH := hid_mk (a6.quiet oa)
      have HHA : Hid (hi ≤ A ∧ B < A ∧ T < A ∧ w.heap.size ≤ A) := by
        have := a6.lt
        have := a6.2.2.2.2.2
        show _ ∧ _ ∧ _ ∧ _
        omega
      have hcn := fun w' (h : MapAt w' lo hi m n S) => count_any h
      rw [← lst_cnt] at hcn
      obtain ⟨ln, hln⟩ : ∃ ln, (lst S n 0).length = ln := ⟨_, rfl⟩
      rw [hln] at HAW HH hcn
      have HCn := hid_mk hcn
      clear a1 a3 a4 a5 a6 e1 e2 hrow oa hcn HLn hln
      go_wp2_with (go_at_call 16; refine (all_any m _).mono ?_; rintro e w5 ⟨rfl, rfl⟩)
      refine HAW.out.mono ?_
      rintro e w6 ⟨rfl, b6, o6⟩
      have p1 := HHA.out
      have HM6 := hid_mk (HH.out.2.2.2.1.kept o6 (.inl p1.1) (.inl (by omega)))
      have HB6 := hid_mk (HH.out.1.kept o6 (.inl p1.2.1))
      have cT6 := (HH.out.2.1.kept o6 (.inl p1.2.2.1)).cell
      have cA6 := b6.cell
      have HO6 := hid_mk (HH.out.2.2.2.2.1.past o6 p1.2.2.2)
      clear p1 b6 o6 HAW HH hA hA2
      go_wp2_with fail
      go_region_held3 (fun w' => w'.cell? ⟨A, 0, none⟩ = some (.int .i64 ln) ∧ w'.cell? ⟨T, 0, none⟩ = some (.slice ao ln cap)) (first | go_keep | (refine ⟨?_, ?_⟩ <;> exact hOO.cell (by assumption) (.inr (Nat.zero_le _))))
        (first | (go_at_call 13; refine (HCn.out _ (by exact HM6.out)).mono ?_; rintro e w7 ⟨rfl, hOO⟩))
      have o67 : Out 0 0 w6 w7 := (Out.refl 0 0 w6).drew.trans hOO
      have HM7 := hid_mk (HM6.out.quiet o67)
      have HB7 := hid_mk (HB6.out.kept o67 (.inr (Nat.zero_le _)))
      have HO7 := hid_mk (HO6.out.trans o67)
      clear o67 hOO HM6 HB6 HO6 cT6 cA6 H6 HCn HHA
      rcases HL.out with ⟨rfl, av, capv, rfl⟩ | ⟨h0, b, off, capv, rfl, hNu⟩
      · go_wp2_with fail
        go_loopw [10] (fun x wr => x = .int .i64 0 ∧ wr = w7) (fun _ _ => 0)
        case atStart => exact ⟨rfl, rfl⟩
        case round =>
          obtain ⟨rfl, rfl⟩ := hrel
          go_wp2
          go_ret
          exact ⟨rfl, HO7.out⟩
      · have HNu := hid_mk hNu
        clear hNu
        go_wp2_with fail
        go_loopw [10] (fun x wr => ∃ i : Nat, i ≤ len ∧ i ≤ 2000 ∧ x = .int .i64 i ∧ Box wr B 3 (.int .i64 n) ∧ MapAt wr lo hi m n S ∧ Out 0 0 w wr) (fun x _ => 2000 - (intOf x).toNat)
        case atStart => exact ⟨0, Nat.zero_le _, Nat.zero_le _, rfl, HB7.out, HM7.out, HO7.out⟩
        case round =>
          clear HM7 HB7 HO7
          obtain ⟨i, i1, i2, rfl, hb8, hm8, ho8⟩ := hrel
          have HB8 := hid_mk hb8
          have HM8 := hid_mk hm8
          have HO8 := hid_mk ho8
          have i0' : (0 : Int) ≤ (i : Int) := by omega
          by_cases hgo : i < len ∧ i < 2000
          · obtain ⟨g1, g2⟩ := hgo
            obtain ⟨c0, r1, r2⟩ := (HNu.out.kept ho8) i g1
            have cB8 := hb8.cell
            have j2 : (i : Int) < (len : Int) := by omega
            have j3 : (i : Int) < 2000 := by omega
            have hw := fun w => within_any (q i) n w r1 r2 (by have := HN.out; omega) (by have := HN.out; omega)
            have b1 := wth_ge (q i) n (by have := HN.out; omega)
            have b2 := wth_lt (q i) n (by have := HN.out; omega)
            have hs := HSin.out i g1 g2
            have hget : ∀ w', MapAt w' lo hi m n S → Calls Tryd.prog 15 #[.pointer (some ⟨m, 0, none⟩), .int .i64 (wth (q i) n)] w' fun e w2 => e = .returned (.bool true) ∧ Out 0 0 w' w2 := fun w' h => by
              have := get_any h (wth (q i) n)
              rw [show getB S n (wth (q i) n) = true from by unfold getB; simp [inB, b1, b2, hs]] at this
              exact this
            obtain ⟨y, hy⟩ : ∃ y, wth (q i) n = y := ⟨_, rfl⟩
            obtain ⟨z, hz⟩ : ∃ z, q i = z := ⟨_, rfl⟩
            rw [hy] at hw hget
            rw [hz] at hw c0
            have HW8 := hid_mk hw
            have HG8 := hid_mk hget
            clear hw hget b1 b2 hs r1 r2 hy hz hb8 hm8 ho8
            go_wp2_with fail
            go_region_held3 (fun w' => w'.cell? ⟨b, off + i, none⟩ = some (.int .i64 z) ∧ w'.cell? ⟨B, 0, none⟩ = some (.int .i64 n)) (first | go_keep | (refine ⟨?_, ?_⟩ <;> exact hOO.cell (by assumption) (.inr (Nat.zero_le _))))
              (first | (go_at_call 7; refine calls_same (HW8.out _) ?_) | (go_at_call 15; refine (HG8.out _ (by exact HM8.out)).mono ?_; rintro e w9 ⟨rfl, hOO⟩))
            have o89 : Out 0 0 wr w9 := (Out.refl 0 0 wr).drew.trans hOO
            have HB9 := hid_mk (HB8.out.kept o89 (.inr (Nat.zero_le _)))
            have HM9 := hid_mk (HM8.out.quiet o89)
            have HO9 := hid_mk (HO8.out.trans o89)
            clear o89 hOO
            go_wp2
            go_roundw
            case rel => exact ⟨i + 1, by omega, by omega, by go_num, HB9.out, HM9.out, HO9.out⟩
            case measure => simp [intOf]; omega
          · clear hb8 hm8 ho8
            by_cases hil : len ≤ i
            · have g1 : (len : Int) ≤ (i : Int) := by omega
              clear hil hgo
              go_wp2
              go_ret
              exact ⟨rfl, HO8.out⟩
            · have g1 : (i : Int) < (len : Int) := by omega
              have g2 : (2000 : Int) ≤ (i : Int) := by omega
              clear hil hgo
              go_wp2
              go_ret
              exact ⟨rfl, HO8.out⟩
    · rw [e5] at a3
      rw [e1]
      have HG : Hid (∀ w', MapAt w' lo hi m n S → Calls Tryd.prog 15 #[.pointer (some ⟨m, 0, none⟩), .int .i64 k] w' fun e w2 => e = .returned (.bool true) ∧ Out 0 0 w' w2) := fun w' h => by
        have := get_any h (k : Int)
        rw [show getB S n (k : Int) = true from by unfold getB; simp [inB, e3, e4]] at this
        exact this
      have HX : Hid (∀ w', MapAt w' lo hi m n S → Calls Tryd.prog 14 #[.pointer (some ⟨m, 0, none⟩), .int .i64 ((k : Int) + 1)] w' fun e w2 => e = .returned (.int .i64 (nxr S n (k + 1))) ∧ Out 0 0 w' w2) := fun w' h => by
        have := next_any h ((k : Int) + 1)
        rw [show ((k : Int) + 1).toNat = k + 1 from by omega] at this
        exact this
      obtain ⟨ao, cap, rfl, hrow⟩ := own_open a6.2.2.1
      have k0 : (0 : Int) ≤ (k : Int) := by omega
      have k1 : (k : Int) < (n : Int) := by omega
      have kn : decide (n ≤ k) = false := by simp; omega
      have kn1 : decide ((n : Int) ≤ (k : Int)) = false := by simp; omega
      have cB := a6.1.cell
      have cT := a6.2.1.cell
      have H3 := hid_mk a3
      have H4 := hid_mk a4
      have H5 := hid_mk a5
      have H6 := hid_mk a6
      have HE2 := hid_mk e2
      have HE3 := hid_mk e3
      have HREL : Hid (∀ (W : World) (v' : Value), WalkAt w W B T n lo hi m S v' (pre ++ [k]) → ∃ (p : Nat) (pre : List Nat) (vt : Value), p ≤ n ∧ Value.int .i64 (nxr S n (k + 1)) = .int .i64 (nxr S n p) ∧ pre ++ lst S n p = lst S n 0 ∧ pre.length ≤ p ∧ (∀ y ∈ pre, y < p) ∧ WalkAt w W B T n lo hi m S vt pre) := fun W v' hW =>
        ⟨k + 1, pre ++ [k], v', e3, rfl, by rw [List.append_assoc]; exact a3, by rw [List.length_append]; simp; omega, fun y hy => by
          rcases List.mem_append.1 hy with h | h
          · have := a5 y h; omega
          · simp at h; omega, hW⟩
      clear a1 a3 a4 a5 a6 e1 e2 e3 e4 e5
      by_cases hz : pre.length = 0
      · have HZ := hid_mk hz
        rw [hz] at cT H6
        clear hrow hz
        go_wp2_with (first | (go_at_call 15; refine (HG.out _ H6.out.2.2.2.1).mono ?_; rintro e w5 ⟨rfl, ho5⟩; have H65 := hid_mk (H6.out.quiet ho5); have cT5 := (H6.out.quiet ho5).2.1.cell; clear ho5 cB cT) | (at_builtin; refine wpList_append_own _ rfl _ _ 22 rfl (T + 1) 3 i0 (.int .i64 0) 1 8 Tryd.underlying22 hi0 hz0 hz1 hz2 rfl (by decide) _ pre.length (ints pre) rfl ((H65.out.quiet ((Out.refl _ _ _).alloc _)).2.2.1) ⟨w5.heap.size, 0, none⟩ 1 1 [.int .i64 k] rfl rfl ?c1 ?c2 ?c3 ?c4 ?c5 ?_))
        case c1 =>
          intro i u hj
          match i, hj with
          | 0, hj => simp at hj; subst hj; simp [Addr.add]
        case c2 => intro u hu; simp at hu; subst hu; rfl
        case c3 => unfold maxLen; have := HZ.out; have := HN.out; omega
        case c4 => have := HZ.out; omega
        case c5 => have := H65.out.lt; simp; omega
        intro v' w6 hown' hgrow _
        obtain ⟨b6, h7⟩ := (H65.out.quiet ((Out.refl _ _ _).alloc _)).grown hown' hgrow
        obtain ⟨ao', cap', hv', _⟩ := own_open h7.2.2.1
        obtain ⟨ln, hln⟩ : ∃ ln, (pre ++ [k]).length = ln := ⟨_, rfl⟩
        rw [hln] at hv'
        subst hv'
        clear hln
        have cF := b6.frozen
        have cC := b6.cell
        have H7 := hid_mk h7
        clear hown' hgrow b6 h7
        go_wp2_with (go_at_call 14; refine (HX.out _ H7.out.2.2.2.1).mono ?_; rintro e w8 ⟨rfl, ho8⟩; have H8 := hid_mk (H7.out.quiet ho8); clear ho8)
        go_roundw
        case rel => exact HREL.out _ _ H8.out
        case measure => exact meas_lt (by omega) (by have := HE3.out; omega) (nxr_after S n k HE3.out)
      · obtain ⟨j, hj⟩ : ∃ j, pre.length = j + 1 := ⟨pre.length - 1, by omega⟩
        obtain ⟨g, rfl, g1, g2, g3⟩ := hrow (by omega)
        have hc := g3 j (by omega)
        obtain ⟨y, hy⟩ : ∃ y, pre[j]'(by omega) = y := ⟨_, rfl⟩
        rw [hy] at hc
        have hyp := H5.out y (by rw [← hy]; exact List.getElem_mem _)
        have hyk : (y : Int) < (k : Int) := by have := HE2.out; omega
        have hj20 : (j : Int) < (n : Int) := by have := H4.out; have := HE2.out; have := HE3.out; have := HN.out; omega
        have j0 : (0 : Int) ≤ (j : Int) := by omega
        have HC := hid_mk hc
        have HJ := hid_mk hj
        rw [hj] at cT H6
        clear g3 hc hy hyp hz hj hrow
        go_wp2_with (first | (go_at_call 15; refine (HG.out _ H6.out.2.2.2.1).mono ?_; rintro e w5 ⟨rfl, ho5⟩; have cT5 := (H6.out.quiet ho5).2.1.cell; have cY5 := ho5.cell HC.out (.inr (Nat.zero_le _)); have H65 := hid_mk (H6.out.quiet ho5); clear ho5 cB cT) | (at_builtin; refine wpList_append_own _ rfl _ _ 22 rfl (T + 1) 3 i0 (.int .i64 0) 1 8 Tryd.underlying22 hi0 hz0 hz1 hz2 rfl (by decide) _ pre.length (ints pre) rfl ((H65.out.quiet ((Out.refl _ _ _).alloc _)).2.2.1) ⟨w5.heap.size, 0, none⟩ 1 1 [.int .i64 k] rfl rfl ?c1 ?c2 ?c3 ?c4 ?c5 ?_))
        case c1 =>
          intro i u hj
          match i, hj with
          | 0, hj => simp at hj; subst hj; simp [Addr.add]
        case c2 => intro u hu; simp at hu; subst hu; rfl
        case c3 => unfold maxLen; have := HJ.out; have := HN.out; omega
        case c4 => have := HJ.out; omega
        case c5 => have := H65.out.lt; simp; omega
        intro v' w6 hown' hgrow _
        obtain ⟨b6, h7⟩ := (H65.out.quiet ((Out.refl _ _ _).alloc _)).grown hown' hgrow
        obtain ⟨ao', cap', hv', _⟩ := own_open h7.2.2.1
        obtain ⟨ln, hln⟩ : ∃ ln, (pre ++ [k]).length = ln := ⟨_, rfl⟩
        rw [hln] at hv'
        subst hv'
        clear hln
        have cF := b6.frozen
        have cC := b6.cell
        have H7 := hid_mk h7
        clear hown' hgrow b6 h7
        go_wp2_with (go_at_call 14; refine (HX.out _ H7.out.2.2.2.1).mono ?_; rintro e w8 ⟨rfl, ho8⟩; have H8 := hid_mk (H7.out.quiet ho8); clear ho8)
        go_roundw
        case rel => exact HREL.out _ _ H8.out
        case measure => exact meas_lt (by omega) (by have := HE3.out; omega) (nxr_after S n k HE3.out)
theorem walk {H : Type} {enc : TypeId × Value → H} (x0 : Int) (w0 : (Lit.int .i64 x0).wf = true) {W : World} {fuel : Nat} {v : Value} {x : DataW H × List MemPlace} (h : DataW.trod enc Tryd.prog W 0 (fun _ => true) true fuel 22 v.cells.toList = some x) (hv : ∃ a len cap, v = .slice a len cap) (hT : Tab W) :
    Calls Tryd.prog 4 #[.int .i64 x0, v] W fun e w' => e = .returned (.bool true) ∧ Below W.heap.size W w' := by
  obtain ⟨len, q, hL⟩ := open_nums h hv
  have g1 := wth_ge x0 20000 (by omega)
  have g2 := wth_lt x0 20000 (by omega)
  obtain ⟨t, ht⟩ := Int.eq_ofNat_of_zero_le g1
  exact (key x0 t (1 + t) hT hL ht (by omega) (by omega) (i64_bounds w0)).mono fun e w' ⟨h1, h2⟩ => ⟨h1, h2.all⟩

set_option maxRecDepth 100000 in
theorem lifted (os : Os) (started : os.Started) (H : Type) (enc : TypeId × Value → H) :
    ReturnsInHanded {} Tryd.checked os 4 .any (fun w args => (Rows.bitmapWalkSpec.pre enc Tryd.prog Tryd.f4 [] false w args ∧ laidMetH Tryd.prog laidL w) ∧ sizedMet enc Tryd.prog Tryd.f4 (OpenSpec.ofChange Rows.bitmapWalkSpec) false w args)
      (Rows.bitmapWalkSpec.post enc Tryd.prog Tryd.f4 false true false false) := by
  refine returnsInHanded_of_change_and (C := Tryd.checked) (X := fun w _ => laidMetH Tryd.prog laidL w) (fun _ _ _ hh h => h.of_heap hh) own started (by kernel_rfl) Tryd.func4
    (ChangeSpec.witness_shaped (enc := enc) (C := Tryd.checked) (os := os) (X := fun w _ => laidMetH Tryd.prog laidL w) false (World.doorLaid Tryd.prog 400 os) #[.int .i64 0, .slice none 0 0] 8 rfl (World.shaped_of_RefB (by kernel_rfl) (by kernel_rfl)) (by kernel_rfl) (by kernel_rfl) (by kernel_rfl) (door_met os _)) ?_
  intro W base args ds gs before hval0 hW _ _ hL _
  have hval : ∀ (j : Nat) t v, Tryd.f4.params[j]? = some t → args[j]? = some v → Value.okWide Tryd.prog W .any base t v := hval0
  have hW' := hW
  obtain ⟨p, q, hA0, hV, rfl, hfz, hnd⟩ := hW
  have hA : DataW.TrodAll enc Tryd.prog W 0 (fun _ => true) true Tryd.f4.params.toList args.toList ds p := hA0
  have hT := tab_of_laid hL
  rw [Tryd.params4] at hA hval
  obtain ⟨v0, vs0, d0, ds0, p0, q0, hargs, rfl, rfl, h0, r0⟩ := trodAll_cons hA
  obtain ⟨v1, vs1, d1, ds1, p1, q1, rfl, rfl, rfl, h1, r1⟩ := trodAll_cons r0
  obtain ⟨rfl, rfl, rfl⟩ := trodAll_nil r1
  obtain rfl : args = #[v0, v1] := by cases args; simp_all
  obtain ⟨rfl, rfl⟩ := trodVars_none hV
  have hlt0 : ∀ x ∈ p0, x.block < W.heap.size := fun x hx => by simpa using hW'.lt x (by simp [hx])
  have h0k := h0
  have hlt1 : ∀ x ∈ p1, x.block < W.heap.size := fun x hx => by simpa using hW'.lt x (by simp [hx])
  have h1k := h1
  obtain ⟨a0, hv0, _, _, w0⟩ := open_int Tryd.underlying3 (hval 0 3 v0 rfl rfl) h0
  obtain ⟨a1, len1, cap1, hv1⟩ := okWide_slice Tryd.underlying22 (hval 1 22 v1 rfl rfl)
  obtain ⟨fuel1, hf1⟩ := h1
  clear hA0 hval0
  subst hv0
  refine (walk a0 w0 hf1 ⟨a1, len1, cap1, hv1⟩ hT).mono fun e W' ⟨he, hg⟩ => ?_
  subst he
  exact ⟨_, rfl, _, _, _, [], _, [], hW', (trodAll_cons_mk (shut_bool Tryd.underlying4 _) trodAll_mk0), (trodAll_cons_mk (Below.trod laid_out (by kernel_rfl) (of_decide_eq_true (by kernel_rfl)) h0k hg hlt0) (trodAll_cons_mk (Below.trod laid_out (by kernel_rfl) (of_decide_eq_true (by kernel_rfl)) h1k hg hlt1) trodAll_mk0)), rfl, hg.frame _, fun h => by cases h⟩

theorem over : Rows.BitmapWalkSaid :=
  OpenClaim.holds_of_wide 4 Tryd.f4 rfl rfl rfl rfl rfl rfl rfl ⟨rfl, rfl, rfl, rfl, rfl⟩ rfl rfl rfl rfl rfl (by kernel_rfl) Tryd.func4 (by kernel_rfl)
    (of_decide_eq_true (by kernel_rfl)) (by unfold Func.isWrapper; first | (rw [if_pos (by decide +kernel)]; kernel_rfl) | (rw [if_neg (by decide +kernel)]; exact ⟨rfl, rfl⟩))
    (fun os started H enc _ => lifted os started H enc)

/-- ████ THE STATEMENT: THE TIED CARD ████ -/
theorem proved : Rows.BitmapWalkCardSaid :=
  Claim7.holds_tied_plain_at .later [] [.data] true (true, "1b3c0876e991e43fe6dfc5f29e841074561da3120470ae124b27c0a000ab4120") false
    over (fun _ h => by cases h) (by kernel_rfl) (fun _ h => by cases h) bitmapWalk_row_tie rfl ⟨rfl, rfl⟩ (by kernel_rfl) rfl
    (fun f fn hf hfn => by
      obtain rfl : f = 4 := Option.some.inj ((show Tryd.prog.funcNamed "hearth/hearthlaw3.BitmapWalk" = some 4 by kernel_rfl).symm.trans hf) |>.symm
      obtain rfl : fn = Tryd.f4 := (Option.some.inj (Tryd.func4.symm.trans hfn)).symm
      exact ⟨by kernel_rfl, fun j t ht => by
        rw [Tryd.params4] at ht
        have hm : t ∈ [3, 22] := by simpa using Array.mem_of_getElem? ht
        have hall : ([3, 22].all fun u => !Tryd.prog.wantsStandIn u) = true := by kernel_rfl
        exact (show Tryd.prog.wantsStandIn t = false by simpa using List.all_eq_true.1 hall t hm)⟩)
    (by kernel_rfl)
#print axioms proved
end Go.Proofs.YtnkobcldagajeabDoor.bitmapWalk
