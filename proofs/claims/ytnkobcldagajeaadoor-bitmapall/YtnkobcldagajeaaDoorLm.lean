/- a script that is played -/
import Derived.Test.YtnkobcldagajeaaDoorLl
namespace Go.Proofs.YtnkobcldagajeaaDoor
open Go.RowKit
set_option linter.unusedVariables false
set_option linter.unusedSimpArgs false

set_option maxRecDepth 100000 in
set_option maxHeartbeats 16000000 in
theorem plays_some (n k : Nat) (u v : Int) (hn : n ≤ 20000) (hk : k ≤ 20000) (sb off len cap : Nat) (q : Nat → Int × Int × Int × Int × Int) {w : World} (hT : Tab w) (hS : Steps w sb off len q) (h0 : 0 < len) :
    Calls Tryd.prog 12 #[.int .i64 n, .int .i64 k, .slice (some ⟨sb, off, none⟩) len cap, .int .i64 u, .int .i64 v] w fun e w' => e = .returned (.bool true) ∧ Out 0 0 w w' := by
  have HA := hid_mk (alive_any w hT)
  have HM := hid_mk (fun w hT => made_yes n w (by omega) hT)
  have HM' := hid_mk (fun w hT => made_yes k w (by omega) hT)
  have HT := hid_mk hT
  have n1 : (n : Int) ≤ 20000 := by omega
  have k1 : (k : Int) ≤ 20000 := by omega
  have HSt := hid_mk hS
  clear hS
  clear hT hn hk
  go_enter Tryd.func12, Tryd.ntmps12
  go_wp2_with fail
  refine HA.out.mono ?_
  rintro e w1 ⟨rfl, ho⟩
  have HO := hid_mk ho
  clear ho HA
  go_wp2_with fail
  refine (HM.out w1 (HT.out.kept HO.out (.inr (Nat.le_refl _)))).mono ?_
  rintro e w2 ⟨pa, rfl, hpa, ho2⟩
  have HO2 := hid_mk (HO.out.trans ho2)
  have HPA := hid_mk hpa
  have HZ2 : Hid (w.heap.size ≤ w1.heap.size ∧ w1.heap.size ≤ w2.heap.size) := ⟨HO.out.size, ho2.size⟩
  clear ho2 hpa HM
  go_wp2_with fail
  refine (HM'.out w2 (HT.out.kept HO2.out (.inr (Nat.le_refl _)))).mono ?_
  rintro e w3 ⟨pb, rfl, hpb, ho3⟩
  have HO3 := hid_mk (HO2.out.trans ho3)
  have HPA3 := hid_mk (HPA.out.quiet ho3)
  have HPB := hid_mk hpb
  have HZ3 : Hid (w2.heap.size ≤ w3.heap.size) := ho3.size
  clear ho3 hpb HM' HPA HO HO2
  -- the list of two pairs
  obtain ⟨L, hL⟩ : ∃ L, w3.heap.size = L := ⟨_, rfl⟩
  obtain ⟨w4, hw4⟩ : ∃ w4, w3.alloc (.cells #[.pointer (some ⟨pa, 0, none⟩), .pointer (some ⟨pb, 0, none⟩)] 23) = w4 := ⟨_, rfl⟩
  have hPl : Play w w4 L (w1.heap.size, w2.heap.size, pa) (w2.heap.size, w3.heap.size, pb) (w1.heap.size, w2.heap.size, pa) (w2.heap.size, w3.heap.size, pb) := by
    have o4 : Out 0 0 w3 w4 := by rw [← hw4]; exact (Out.refl _ _ _).alloc _
    have b4 : w4.heap[L]? = some (.cells #[.pointer (some ⟨pa, 0, none⟩), .pointer (some ⟨pb, 0, none⟩)] 23 (0, 0)) := by rw [← hw4, ← hL]; exact heap_alloc_new _ _
    have z2 := HZ2.out
    have z3 := HZ3.out
    have t0 := HT.out.lt
    have s4 := o4.size
    obtain ⟨b, r, g, l1, h1, l2, h2, hPa⟩ := HPA3.out
    obtain ⟨b', r', g', l1', h1', l2', h2', hPb⟩ := HPB.out
    have la := hPa.lim
    have lb := hPb.lim
    have gA : Good w w4 L (w1.heap.size, w2.heap.size, pa) := ⟨⟨n, _, b, r, g, l1, h1, l2, h2, hPa.quiet o4⟩, z2.1, by show w1.heap.size < w2.heap.size; omega, by show w2.heap.size ≤ _; omega, .inr (by show w2.heap.size ≤ L; omega), by show 0 < w1.heap.size; omega, by show w1.heap.size ≤ pa; omega, by show pa < w2.heap.size; omega⟩
    have gB : Good w w4 L (w2.heap.size, w3.heap.size, pb) := ⟨⟨k, _, b', r', g', l1', h1', l2', h2', hPb.quiet o4⟩, by show w.heap.size ≤ w2.heap.size; omega, by show w2.heap.size < w3.heap.size; omega, by show w3.heap.size ≤ _; omega, .inr (by show w3.heap.size ≤ L; omega), by show 0 < w2.heap.size; omega, by show w2.heap.size ≤ pb; omega, by show pb < w3.heap.size; omega⟩
    exact ⟨b4, by omega, by omega, gA, gB, gA, gB, .inl (Nat.le_refl _), .inl rfl, .inl (Nat.le_refl _), .inl rfl, .inr (Nat.le_refl _), .inl (Nat.le_refl _), HO3.out.trans o4⟩
  have HPl := hid_mk hPl
  clear hPl HPA3 HPB HZ2 HZ3 HO3
  generalize hA : (w1.heap.size, w2.heap.size, pa) = A at *
  generalize hB : (w2.heap.size, w3.heap.size, pb) = B at *
  have ePA : pa = A.2.2 := by rw [← hA]
  have ePB : pb = B.2.2 := by rw [← hB]
  rw [ePA, ePB] at hw4
  clear hA hB
  go_wp2_with fail
  clear ePA ePB hw4
  go_loopw [16] (fun x wr => ∃ (i : Nat) (X Y : Nat × Nat × Nat), i ≤ len ∧ i ≤ 300 ∧ x = .int .i64 i ∧ Play w wr L A B X Y) (fun x _ => 300 - (intOf x).toNat)
  case atStart => exact ⟨0, A, B, Nat.zero_le _, Nat.zero_le _, rfl, HPl.out⟩
  case round =>
    clear HPl
    obtain ⟨i, X, Y, i1, i2, rfl, hPr⟩ := hrel
    have HPr := hid_mk hPr
    clear hPr
    by_cases hgo : i < len ∧ i < 300
    · obtain ⟨g1, g2⟩ := hgo
      obtain ⟨c0, c1, c2, c3, c4, hx⟩ := (HSt.out.kept HPr.out.2.2.2.2.2.2.2.2.2.2.2.2.2) i g1
      generalize q i = qi at *
      obtain ⟨z, kd, x, y, c⟩ := qi
      simp only at c0 c1 c2 c3 c4 hx
      have j1 : (0 : Int) ≤ (i : Int) := by omega
      have j2 : (i : Int) < (len : Int) := by omega
      have j3 : (i : Int) < 300 := by omega
      have HX := hid_mk hx
      obtain ⟨wG, hwG⟩ : ∃ wG, wr.alloc (.cells #[.int .i64 z, .int .i64 kd, .int .i64 x, .int .i64 y, .int .i64 c] 52) = wG := ⟨_, rfl⟩
      have oG : Out 0 0 wr wG := by rw [← hwG]; exact (Out.refl _ _ _).alloc _
      have bG : OpAt wG wr.heap.size (z, kd, x, y, c) := by rw [← hwG]; exact heap_alloc_new _ _
      have zG : wG.heap.size = wr.heap.size + 1 := by rw [← hwG]; simp
      have HPG := hid_mk (HPr.out.quiet oG)
      obtain ⟨q0, q1, q2, q3, q4⟩ := bG.cells
      simp only at q0 q1 q2 q3 q4
      obtain ⟨x0, x1, x2, x3⟩ := HPG.out.cells
      clear hx HPr oG g1 g2
      rcases bit01 z with hz | hz
      · by_cases hk1 : 1 ≤ kd ∧ kd ≤ 5
        · obtain ⟨kd1, kd2⟩ := hk1
          obtain ⟨n', S', b, r, g, l1, h1, l2, h2, hP⟩ := HPG.out.2.2.2.2.2.1.1
          have hU := turned_any hP (z, kd, x, y, c)
          unfold opV at hU
          simp only at hU
          have HU := hid_mk hU
          clear hU hP
          go_wp2_with fail
          refine HU.out.mono ?_
          rintro e w5 ⟨rfl, hp5, ho5⟩
          have HP5 := hid_mk (HPG.out.actX ⟨b, r, g, l1, h1, l2, h2, hp5⟩ ho5)
          clear hp5 ho5 HU
          go_wp2
          go_roundw
          case rel => exact ⟨i + 1, X, Y, by omega, by omega, by go_num, HP5.out⟩
          case measure => simp [intOf]; omega
        · by_cases hk6 : kd = 6
          · subst hk6
            obtain ⟨n', S', b, r, g, l1, h1, l2, h2, hP⟩ := HPG.out.2.2.2.2.2.1.1
            have HCm := hid_mk (fun w' (h : MapAt w' l1 h1 b n' S') => copy_any h)
            have HCr := hid_mk (fun w' (h : RefAt w' l2 h2 r n' S') => refCopy_any h)
            have HPI := hid_mk hP
            obtain ⟨d0, d1, _⟩ := hP.cells
            have nLp : L ≠ X.2.2 := by have := HPG.out.2.2.2.2.2.1.2.2.2.2; omega
            have hLr : L < wr.heap.size := by
              have := heap_lt HPG.out.1
              have hne : L ≠ wr.heap.size := fun e => by
                have b1 := HPG.out.1
                rw [e] at b1
                have b2 : wG.heap[wr.heap.size]? = _ := bG
                rw [b1] at b2
                simp at b2
              omega
            have nLG : L ≠ wr.heap.size := by omega
            have hw0 : IntKind.i64.wrap 0 = 0 := by decide
            have hw1 : IntKind.i64.wrap 1 = 1 := by decide
            clear hP hk1
            go_wp2_with fail
            go_region_held3 (fun w' => w'.cell? ⟨wr.heap.size, 0, none⟩ = some (.int .i64 z) ∧ w'.cell? ⟨X.2.2, 0, none⟩ = some (.pointer (some ⟨b, 0, none⟩)) ∧ w'.cell? ⟨X.2.2, 1, none⟩ = some (.pointer (some ⟨r, 0, none⟩))) (first | go_keep | (exact HK5.out) | (exact HK6.out _ (Out.refl _ _ _)) | (exact HK6.out _ ((Out.refl _ _ _).alloc _)) | (exact HK6.out _ (((Out.refl _ _ _).setCell (.inl ⟨Nat.le_refl _, Nat.lt_succ_self _⟩) _).alloc _)))
              (first | (go_at_call 23; refine (HCm.out _ (by exact HPI.out.map)).mono ?_; rintro e w5 ⟨b', rfl, hm5, ho5⟩; have HO5 : Hid (Out 0 0 wG w5) := ho5; have HM5 : Hid (MapAt w5 wG.heap.size w5.heap.size b' n' S') := hm5; have HK5 : Hid (w5.cell? ⟨wr.heap.size, 0, none⟩ = some (.int .i64 z) ∧ w5.cell? ⟨X.2.2, 0, none⟩ = some (.pointer (some ⟨b, 0, none⟩)) ∧ w5.cell? ⟨X.2.2, 1, none⟩ = some (.pointer (some ⟨r, 0, none⟩))) := ⟨HO5.out.cell q0 (.inr (Nat.zero_le _)), HO5.out.cell d0 (.inr (Nat.zero_le _)), HO5.out.cell d1 (.inr (Nat.zero_le _))⟩; clear ho5 hm5) | (go_at_call 24; refine (HCr.out _ (HPI.out.quiet HO5.out).ref).mono ?_; rintro e w6 ⟨r', rfl, hr6, ho6⟩; have HO6 : Hid (Out 0 0 w5 w6) := ho6; have HR6 : Hid (RefAt w6 w5.heap.size w6.heap.size r' n' S') := hr6; have HP6 := hid_mk (HPG.out.quiet (HO5.out.trans HO6.out)); have HK6 : Hid (∀ w7, Out L (L + 1) w6 w7 → (w7.cell? ⟨wr.heap.size, 0, none⟩ = some (.int .i64 z) ∧ w7.cell? ⟨X.2.2, 0, none⟩ = some (.pointer (some ⟨b, 0, none⟩)) ∧ w7.cell? ⟨X.2.2, 1, none⟩ = some (.pointer (some ⟨r, 0, none⟩)))) := (fun w7 o7 => ⟨o7.cell (HO6.out.cell HK5.out.1 (.inr (Nat.zero_le _))) (by omega), o7.cell (HO6.out.cell HK5.out.2.1 (.inr (Nat.zero_le _))) (by omega), o7.cell (HO6.out.cell HK5.out.2.2 (.inr (Nat.zero_le _))) (by omega)⟩); have f6 : w6.frozen? ⟨L, 1, none⟩ = false := (HP6.out.cells).2.2.2; have e6 := (HP6.out.cells).2.1; have s6 : L < w6.heap.size := heap_lt HP6.out.1; clear ho6 hr6))
            go_wp2_with fail
            obtain ⟨w8, hw8⟩ : ∃ w8, (w6.setCell ⟨L, 1, none⟩ (.pointer (some ⟨w6.heap.size, 0, none⟩))).alloc (.cells #[.pointer (some ⟨b', 0, none⟩), .pointer (some ⟨r', 0, none⟩), .nilFunc] 44) = w8 := ⟨_, rfl⟩
            rw [hw8]
            have o8 : Out L (L + 1) w6 w8 := by rw [← hw8]; exact ((Out.refl _ _ _).setCell (.inl ⟨Nat.le_refl _, Nat.lt_succ_self _⟩) _).alloc _
            have y8 : (w6.setCell ⟨L, 1, none⟩ (.pointer (some ⟨w6.heap.size, 0, none⟩))).heap.size = w6.heap.size := by simp [World.setCell]
            have z8 : w8.heap.size = w6.heap.size + 1 := by rw [← hw8, World.size_alloc, y8]
            have b8 : w8.heap[w6.heap.size]? = some (.cells #[.pointer (some ⟨b', 0, none⟩), .pointer (some ⟨r', 0, none⟩), .nilFunc] 44 (0, 0)) := by
              rw [← hw8]
              have := heap_alloc_new (w6.setCell ⟨L, 1, none⟩ (.pointer (some ⟨w6.heap.size, 0, none⟩))) (.cells #[.pointer (some ⟨b', 0, none⟩), .pointer (some ⟨r', 0, none⟩), .nilFunc] 44)
              rw [y8] at this
              exact this
            have bL : w8.heap[L]? = some (.cells #[.pointer (some ⟨X.2.2, 0, none⟩), .pointer (some ⟨w6.heap.size, 0, none⟩)] 23 (0, 0)) := by
              rw [← hw8, heap_alloc_old _ _ (by rw [y8]; exact s6)]
              have := HP6.out.1
              simp only [World.setCell, Array.getElem?_modify, if_true, this]
              rfl
            have G8 := (HK6.out _ o8).1
            have m8 : w8.cell? ⟨L, 1, none⟩ = some (.pointer (some ⟨w6.heap.size, 0, none⟩)) := by simp [World.cell?, bL]
            have p8 : w8.cell? ⟨w6.heap.size, 0, none⟩ = some (.pointer (some ⟨b', 0, none⟩)) := by simp [World.cell?, b8]
            have HB8 := hid_mk b8
            have HBL := hid_mk bL
            have HO8 := hid_mk o8
            have n68 : L ≠ w6.heap.size := by omega
            have n69 : wr.heap.size ≠ w6.heap.size := by have := HO5.out.size; have := HO6.out.size; omega
            clear hw8 b8 bL o8 y8 f6 e6 d0 d1 q0 q1 q2 q3 q4 x0 x1 x2 x3
            go_region_held3 (fun w' => w'.cell? ⟨wr.heap.size, 0, none⟩ = some (.int .i64 z) ∧ w'.cell? ⟨L, 1, none⟩ = some (.pointer (some ⟨w6.heap.size, 0, none⟩)) ∧ w'.cell? ⟨w6.heap.size, 0, none⟩ = some (.pointer (some ⟨b', 0, none⟩))) (first | go_keep | (exact HK9.out) | (exact HKA.out))
              (first | (go_at_call 20; refine (all_box b' _ (w6.heap.size + 1) (by simp [z8])).mono ?_; rintro e w9 ⟨rfl, hb9, ho9⟩; have HO9 : Hid (Out 0 0 w8 w9) := ho9; have HB9 := hid_mk hb9; have HC9 : Hid (w9.heap[w6.heap.size]? = some (.cells #[.pointer (some ⟨b', 0, none⟩), .pointer (some ⟨r', 0, none⟩), .nilFunc] 44 (0, 0))) := HO9.out.heap HB8.out (.inr (Nat.zero_le _)); have f9 : w9.frozen? ⟨w6.heap.size, 2, none⟩ = false := (by simp [World.frozen?, HC9.out]); have e9 : w9.cell? ⟨w6.heap.size, 2, none⟩ = some .nilFunc := (by simp [World.cell?, HC9.out]); have HK9 : Hid (w9.cell? ⟨wr.heap.size, 0, none⟩ = some (.int .i64 z) ∧ w9.cell? ⟨L, 1, none⟩ = some (.pointer (some ⟨w6.heap.size, 0, none⟩)) ∧ w9.cell? ⟨w6.heap.size, 0, none⟩ = some (.pointer (some ⟨b', 0, none⟩))) := ⟨HO9.out.cell G8 (.inr (Nat.zero_le _)), HO9.out.cell m8 (.inr (Nat.zero_le _)), HO9.out.cell p8 (.inr (Nat.zero_le _))⟩; have HKA : Hid ((w9.setCell ⟨w6.heap.size, 2, none⟩ (allV (w6.heap.size + 1))).cell? ⟨wr.heap.size, 0, none⟩ = some (.int .i64 z) ∧ (w9.setCell ⟨w6.heap.size, 2, none⟩ (allV (w6.heap.size + 1))).cell? ⟨L, 1, none⟩ = some (.pointer (some ⟨w6.heap.size, 0, none⟩)) ∧ (w9.setCell ⟨w6.heap.size, 2, none⟩ (allV (w6.heap.size + 1))).cell? ⟨w6.heap.size, 0, none⟩ = some (.pointer (some ⟨b', 0, none⟩))) := (three_set HK9.out (by omega) (by omega)); clear hb9 ho9))
            have z9 : w9.heap.size = w6.heap.size + 2 ∨ True := .inr trivial
            obtain ⟨wA, hwA⟩ : ∃ wA, w9.setCell ⟨w6.heap.size, 2, none⟩ (allV (w6.heap.size + 1)) = wA := ⟨_, rfl⟩
            have oA : Out L (L + 1) w6 wA := by
              rw [← hwA]
              exact (HO8.out.trans (HO9.out.any _ _)).setCell (.inr (Nat.le_refl _)) _
            have cA : wA.heap[w6.heap.size]? = some (.cells #[.pointer (some ⟨b', 0, none⟩), .pointer (some ⟨r', 0, none⟩), allV (w6.heap.size + 1)] 44 (0, 0)) := by
              rw [← hwA]
              simp only [World.setCell, Array.getElem?_modify, if_true, HC9.out]
              rfl
            have bA : Box wA (w6.heap.size + 1) 30 (.pointer (some ⟨b', 0, none⟩)) := by
              rw [← hwA]; exact HB9.out.setOther (by show w6.heap.size + 1 ≠ w6.heap.size; omega) _
            have LA : wA.heap[L]? = some (.cells #[.pointer (some ⟨X.2.2, 0, none⟩), .pointer (some ⟨w6.heap.size, 0, none⟩)] 23 (0, 0)) := by
              rw [← hwA, Below.heap_setCell _ _ _ _ (by show L ≠ w6.heap.size; omega)]
              exact HO9.out.heap HBL.out (.inr (Nat.zero_le _))
            have zA : w6.heap.size + 2 ≤ wA.heap.size := by have := bA.lt; omega
            obtain ⟨hPN, hON⟩ := copied_pair HO5.out HO6.out HM5.out HR6.out (by omega) HPG.out.2.2.1 cA bA oA zA
            have hsz : wG.heap.size ≤ w6.heap.size := Nat.le_trans HO5.out.size HO6.out.size
            have HPN := hid_mk (HPG.out.newY (N := (wG.heap.size, w6.heap.size + 2, w6.heap.size)) hPN (Nat.le_refl _) (by show wG.heap.size < w6.heap.size + 2; omega) zA ⟨hsz, by show w6.heap.size < w6.heap.size + 2; omega⟩ hON LA)
            have HWA := hid_mk hwA
            clear oA cA bA LA zA hPN hON hwA z9 G8 m8 p8 f9 e9 HK9 HKA
            unfold allV at HWA
            rw [HWA.out]
            go_wp2
            go_roundw
            case rel => exact ⟨i + 1, X, (wG.heap.size, w6.heap.size + 2, w6.heap.size), by omega, by omega, by go_num, HPN.out⟩
            case measure => simp [intOf]; omega
          · have hlow : kd < 1 ∨ 6 < kd := by omega
            obtain ⟨n', S', b, r, g, l1, h1, l2, h2, hP⟩ := HPG.out.2.2.2.2.2.1.1
            have hU := looked_any hP (z, kd, x, y, c) HX.out
            unfold opV at hU
            simp only at hU
            have HU := hid_mk hU
            clear hU hP hk1
            have e6 : (kd == 6) = false := by rw [beq_eq_false_iff_ne]; exact hk6
            clear hk6
            rcases hlow with hlow | hlow
            · go_wp2_with (go_at_call 25; refine HU.out.mono ?_; rintro e w5 ⟨rfl, S5, hp5, ho5⟩; have HP5 := hid_mk (HPG.out.actX ⟨b, r, g, l1, h1, l2, h2, hp5⟩ ho5); clear hp5 ho5)
              all_goals go_roundw
              all_goals first | exact ⟨i + 1, X, Y, by omega, by omega, by go_num, HP5.out⟩ | exact ⟨i + 1, X, Y, by omega, by omega, by go_num, HPG.out⟩ | (simp [intOf]; omega)
            · have hl1 : 1 ≤ kd := by omega
              have hl5 : 5 < kd := by omega
              go_wp2_with (go_at_call 25; refine HU.out.mono ?_; rintro e w5 ⟨rfl, S5, hp5, ho5⟩; have HP5 := hid_mk (HPG.out.actX ⟨b, r, g, l1, h1, l2, h2, hp5⟩ ho5); clear hp5 ho5)
              all_goals go_roundw
              all_goals first | exact ⟨i + 1, X, Y, by omega, by omega, by go_num, HP5.out⟩ | exact ⟨i + 1, X, Y, by omega, by omega, by go_num, HPG.out⟩ | (simp [intOf]; omega)
      · by_cases hk1 : 1 ≤ kd ∧ kd ≤ 5
        · obtain ⟨kd1, kd2⟩ := hk1
          obtain ⟨n', S', b, r, g, l1, h1, l2, h2, hP⟩ := HPG.out.2.2.2.2.2.2.1.1
          have hU := turned_any hP (z, kd, x, y, c)
          unfold opV at hU
          simp only at hU
          have HU := hid_mk hU
          clear hU hP
          go_wp2_with fail
          refine HU.out.mono ?_
          rintro e w5 ⟨rfl, hp5, ho5⟩
          have HP5 := hid_mk (HPG.out.actY ⟨b, r, g, l1, h1, l2, h2, hp5⟩ ho5)
          clear hp5 ho5 HU
          go_wp2
          go_roundw
          case rel => exact ⟨i + 1, X, Y, by omega, by omega, by go_num, HP5.out⟩
          case measure => simp [intOf]; omega
        · by_cases hk6 : kd = 6
          · subst hk6
            obtain ⟨n', S', b, r, g, l1, h1, l2, h2, hP⟩ := HPG.out.2.2.2.2.2.2.1.1
            have HCm := hid_mk (fun w' (h : MapAt w' l1 h1 b n' S') => copy_any h)
            have HCr := hid_mk (fun w' (h : RefAt w' l2 h2 r n' S') => refCopy_any h)
            have HPI := hid_mk hP
            obtain ⟨d0, d1, _⟩ := hP.cells
            have nLp : L ≠ Y.2.2 := by have := HPG.out.2.2.2.2.2.2.1.2.2.2.2; omega
            have hLr : L < wr.heap.size := by
              have := heap_lt HPG.out.1
              have hne : L ≠ wr.heap.size := fun e => by
                have b1 := HPG.out.1
                rw [e] at b1
                have b2 : wG.heap[wr.heap.size]? = _ := bG
                rw [b1] at b2
                simp at b2
              omega
            have nLG : L ≠ wr.heap.size := by omega
            have hw0 : IntKind.i64.wrap 0 = 0 := by decide
            have hw1 : IntKind.i64.wrap 1 = 1 := by decide
            clear hP hk1
            go_wp2_with fail
            go_region_held3 (fun w' => w'.cell? ⟨wr.heap.size, 0, none⟩ = some (.int .i64 z) ∧ w'.cell? ⟨Y.2.2, 0, none⟩ = some (.pointer (some ⟨b, 0, none⟩)) ∧ w'.cell? ⟨Y.2.2, 1, none⟩ = some (.pointer (some ⟨r, 0, none⟩))) (first | go_keep | (exact HK5.out) | (exact HK6.out _ (Out.refl _ _ _)) | (exact HK6.out _ ((Out.refl _ _ _).alloc _)) | (exact HK6.out _ (((Out.refl _ _ _).setCell (.inl ⟨Nat.le_refl _, Nat.lt_succ_self _⟩) _).alloc _)))
              (first | (go_at_call 23; refine (HCm.out _ (by exact HPI.out.map)).mono ?_; rintro e w5 ⟨b', rfl, hm5, ho5⟩; have HO5 : Hid (Out 0 0 wG w5) := ho5; have HM5 : Hid (MapAt w5 wG.heap.size w5.heap.size b' n' S') := hm5; have HK5 : Hid (w5.cell? ⟨wr.heap.size, 0, none⟩ = some (.int .i64 z) ∧ w5.cell? ⟨Y.2.2, 0, none⟩ = some (.pointer (some ⟨b, 0, none⟩)) ∧ w5.cell? ⟨Y.2.2, 1, none⟩ = some (.pointer (some ⟨r, 0, none⟩))) := ⟨HO5.out.cell q0 (.inr (Nat.zero_le _)), HO5.out.cell d0 (.inr (Nat.zero_le _)), HO5.out.cell d1 (.inr (Nat.zero_le _))⟩; clear ho5 hm5) | (go_at_call 24; refine (HCr.out _ (HPI.out.quiet HO5.out).ref).mono ?_; rintro e w6 ⟨r', rfl, hr6, ho6⟩; have HO6 : Hid (Out 0 0 w5 w6) := ho6; have HR6 : Hid (RefAt w6 w5.heap.size w6.heap.size r' n' S') := hr6; have HP6 := hid_mk (HPG.out.quiet (HO5.out.trans HO6.out)); have HK6 : Hid (∀ w7, Out L (L + 1) w6 w7 → (w7.cell? ⟨wr.heap.size, 0, none⟩ = some (.int .i64 z) ∧ w7.cell? ⟨Y.2.2, 0, none⟩ = some (.pointer (some ⟨b, 0, none⟩)) ∧ w7.cell? ⟨Y.2.2, 1, none⟩ = some (.pointer (some ⟨r, 0, none⟩)))) := (fun w7 o7 => ⟨o7.cell (HO6.out.cell HK5.out.1 (.inr (Nat.zero_le _))) (by omega), o7.cell (HO6.out.cell HK5.out.2.1 (.inr (Nat.zero_le _))) (by omega), o7.cell (HO6.out.cell HK5.out.2.2 (.inr (Nat.zero_le _))) (by omega)⟩); have f6 : w6.frozen? ⟨L, 0, none⟩ = false := (HP6.out.cells).2.2.1; have e6 := (HP6.out.cells).1; have s6 : L < w6.heap.size := heap_lt HP6.out.1; clear ho6 hr6))
            go_wp2_with fail
            obtain ⟨w8, hw8⟩ : ∃ w8, (w6.setCell ⟨L, 0, none⟩ (.pointer (some ⟨w6.heap.size, 0, none⟩))).alloc (.cells #[.pointer (some ⟨b', 0, none⟩), .pointer (some ⟨r', 0, none⟩), .nilFunc] 44) = w8 := ⟨_, rfl⟩
            rw [hw8]
            have o8 : Out L (L + 1) w6 w8 := by rw [← hw8]; exact ((Out.refl _ _ _).setCell (.inl ⟨Nat.le_refl _, Nat.lt_succ_self _⟩) _).alloc _
            have y8 : (w6.setCell ⟨L, 0, none⟩ (.pointer (some ⟨w6.heap.size, 0, none⟩))).heap.size = w6.heap.size := by simp [World.setCell]
            have z8 : w8.heap.size = w6.heap.size + 1 := by rw [← hw8, World.size_alloc, y8]
            have b8 : w8.heap[w6.heap.size]? = some (.cells #[.pointer (some ⟨b', 0, none⟩), .pointer (some ⟨r', 0, none⟩), .nilFunc] 44 (0, 0)) := by
              rw [← hw8]
              have := heap_alloc_new (w6.setCell ⟨L, 0, none⟩ (.pointer (some ⟨w6.heap.size, 0, none⟩))) (.cells #[.pointer (some ⟨b', 0, none⟩), .pointer (some ⟨r', 0, none⟩), .nilFunc] 44)
              rw [y8] at this
              exact this
            have bL : w8.heap[L]? = some (.cells #[.pointer (some ⟨w6.heap.size, 0, none⟩), .pointer (some ⟨Y.2.2, 0, none⟩)] 23 (0, 0)) := by
              rw [← hw8, heap_alloc_old _ _ (by rw [y8]; exact s6)]
              have := HP6.out.1
              simp only [World.setCell, Array.getElem?_modify, if_true, this]
              rfl
            have G8 := (HK6.out _ o8).1
            have m8 : w8.cell? ⟨L, 0, none⟩ = some (.pointer (some ⟨w6.heap.size, 0, none⟩)) := by simp [World.cell?, bL]
            have p8 : w8.cell? ⟨w6.heap.size, 0, none⟩ = some (.pointer (some ⟨b', 0, none⟩)) := by simp [World.cell?, b8]
            have HB8 := hid_mk b8
            have HBL := hid_mk bL
            have HO8 := hid_mk o8
            have n68 : L ≠ w6.heap.size := by omega
            have n69 : wr.heap.size ≠ w6.heap.size := by have := HO5.out.size; have := HO6.out.size; omega
            clear hw8 b8 bL o8 y8 f6 e6 d0 d1 q0 q1 q2 q3 q4 x0 x1 x2 x3
            go_region_held3 (fun w' => w'.cell? ⟨wr.heap.size, 0, none⟩ = some (.int .i64 z) ∧ w'.cell? ⟨L, 0, none⟩ = some (.pointer (some ⟨w6.heap.size, 0, none⟩)) ∧ w'.cell? ⟨w6.heap.size, 0, none⟩ = some (.pointer (some ⟨b', 0, none⟩))) (first | go_keep | (exact HK9.out) | (exact HKA.out))
              (first | (go_at_call 20; refine (all_box b' _ (w6.heap.size + 1) (by simp [z8])).mono ?_; rintro e w9 ⟨rfl, hb9, ho9⟩; have HO9 : Hid (Out 0 0 w8 w9) := ho9; have HB9 := hid_mk hb9; have HC9 : Hid (w9.heap[w6.heap.size]? = some (.cells #[.pointer (some ⟨b', 0, none⟩), .pointer (some ⟨r', 0, none⟩), .nilFunc] 44 (0, 0))) := HO9.out.heap HB8.out (.inr (Nat.zero_le _)); have f9 : w9.frozen? ⟨w6.heap.size, 2, none⟩ = false := (by simp [World.frozen?, HC9.out]); have e9 : w9.cell? ⟨w6.heap.size, 2, none⟩ = some .nilFunc := (by simp [World.cell?, HC9.out]); have HK9 : Hid (w9.cell? ⟨wr.heap.size, 0, none⟩ = some (.int .i64 z) ∧ w9.cell? ⟨L, 0, none⟩ = some (.pointer (some ⟨w6.heap.size, 0, none⟩)) ∧ w9.cell? ⟨w6.heap.size, 0, none⟩ = some (.pointer (some ⟨b', 0, none⟩))) := ⟨HO9.out.cell G8 (.inr (Nat.zero_le _)), HO9.out.cell m8 (.inr (Nat.zero_le _)), HO9.out.cell p8 (.inr (Nat.zero_le _))⟩; have HKA : Hid ((w9.setCell ⟨w6.heap.size, 2, none⟩ (allV (w6.heap.size + 1))).cell? ⟨wr.heap.size, 0, none⟩ = some (.int .i64 z) ∧ (w9.setCell ⟨w6.heap.size, 2, none⟩ (allV (w6.heap.size + 1))).cell? ⟨L, 0, none⟩ = some (.pointer (some ⟨w6.heap.size, 0, none⟩)) ∧ (w9.setCell ⟨w6.heap.size, 2, none⟩ (allV (w6.heap.size + 1))).cell? ⟨w6.heap.size, 0, none⟩ = some (.pointer (some ⟨b', 0, none⟩))) := (three_set HK9.out (by omega) (by omega)); clear hb9 ho9))
            have z9 : w9.heap.size = w6.heap.size + 2 ∨ True := .inr trivial
            obtain ⟨wA, hwA⟩ : ∃ wA, w9.setCell ⟨w6.heap.size, 2, none⟩ (allV (w6.heap.size + 1)) = wA := ⟨_, rfl⟩
            have oA : Out L (L + 1) w6 wA := by
              rw [← hwA]
              exact (HO8.out.trans (HO9.out.any _ _)).setCell (.inr (Nat.le_refl _)) _
            have cA : wA.heap[w6.heap.size]? = some (.cells #[.pointer (some ⟨b', 0, none⟩), .pointer (some ⟨r', 0, none⟩), allV (w6.heap.size + 1)] 44 (0, 0)) := by
              rw [← hwA]
              simp only [World.setCell, Array.getElem?_modify, if_true, HC9.out]
              rfl
            have bA : Box wA (w6.heap.size + 1) 30 (.pointer (some ⟨b', 0, none⟩)) := by
              rw [← hwA]; exact HB9.out.setOther (by show w6.heap.size + 1 ≠ w6.heap.size; omega) _
            have LA : wA.heap[L]? = some (.cells #[.pointer (some ⟨w6.heap.size, 0, none⟩), .pointer (some ⟨Y.2.2, 0, none⟩)] 23 (0, 0)) := by
              rw [← hwA, Below.heap_setCell _ _ _ _ (by show L ≠ w6.heap.size; omega)]
              exact HO9.out.heap HBL.out (.inr (Nat.zero_le _))
            have zA : w6.heap.size + 2 ≤ wA.heap.size := by have := bA.lt; omega
            obtain ⟨hPN, hON⟩ := copied_pair HO5.out HO6.out HM5.out HR6.out (by omega) HPG.out.2.2.1 cA bA oA zA
            have hsz : wG.heap.size ≤ w6.heap.size := Nat.le_trans HO5.out.size HO6.out.size
            have HPN := hid_mk (HPG.out.newX (N := (wG.heap.size, w6.heap.size + 2, w6.heap.size)) hPN (Nat.le_refl _) (by show wG.heap.size < w6.heap.size + 2; omega) zA ⟨hsz, by show w6.heap.size < w6.heap.size + 2; omega⟩ hON LA)
            have HWA := hid_mk hwA
            clear oA cA bA LA zA hPN hON hwA z9 G8 m8 p8 f9 e9 HK9 HKA
            unfold allV at HWA
            rw [HWA.out]
            go_wp2
            go_roundw
            case rel => exact ⟨i + 1, (wG.heap.size, w6.heap.size + 2, w6.heap.size), Y, by omega, by omega, by go_num, HPN.out⟩
            case measure => simp [intOf]; omega
          · have hlow : kd < 1 ∨ 6 < kd := by omega
            obtain ⟨n', S', b, r, g, l1, h1, l2, h2, hP⟩ := HPG.out.2.2.2.2.2.2.1.1
            have hU := looked_any hP (z, kd, x, y, c) HX.out
            unfold opV at hU
            simp only at hU
            have HU := hid_mk hU
            clear hU hP hk1
            have e6 : (kd == 6) = false := by rw [beq_eq_false_iff_ne]; exact hk6
            clear hk6
            rcases hlow with hlow | hlow
            · go_wp2_with (go_at_call 25; refine HU.out.mono ?_; rintro e w5 ⟨rfl, S5, hp5, ho5⟩; have HP5 := hid_mk (HPG.out.actY ⟨b, r, g, l1, h1, l2, h2, hp5⟩ ho5); clear hp5 ho5)
              all_goals go_roundw
              all_goals first | exact ⟨i + 1, X, Y, by omega, by omega, by go_num, HP5.out⟩ | exact ⟨i + 1, X, Y, by omega, by omega, by go_num, HPG.out⟩ | (simp [intOf]; omega)
            · have hl1 : 1 ≤ kd := by omega
              have hl5 : 5 < kd := by omega
              go_wp2_with (go_at_call 25; refine HU.out.mono ?_; rintro e w5 ⟨rfl, S5, hp5, ho5⟩; have HP5 := hid_mk (HPG.out.actY ⟨b, r, g, l1, h1, l2, h2, hp5⟩ ho5); clear hp5 ho5)
              all_goals go_roundw
              all_goals first | exact ⟨i + 1, X, Y, by omega, by omega, by go_num, HP5.out⟩ | exact ⟨i + 1, X, Y, by omega, by omega, by go_num, HPG.out⟩ | (simp [intOf]; omega)
    · have HGE : Hid (len ≤ i ∨ 300 ≤ i) := by show _ ∨ _; omega
      clear hgo
      obtain ⟨⟨na, Sa, HGA⟩, _⟩ := HPr.out.2.2.2.1
      obtain ⟨x0, x1, _, _⟩ := HPr.out.cells
      by_cases hil : len ≤ i
      · have g1 : (len : Int) ≤ (i : Int) := by omega
        clear HGE hil
        go_wp2_with fail
        refine (same_any HGA).mono ?_
        rintro e w5 ⟨rfl, o5⟩
        have HP5 := hid_mk (HPr.out.quiet o5)
        obtain ⟨⟨nb, Sb, HGB⟩, _⟩ := HP5.out.2.2.2.2.1
        clear o5 HPr HGA
        go_wp2_with fail
        refine (same_any HGB).mono ?_
        rintro e w6 ⟨rfl, o6⟩
        have HP6 := hid_mk (HP5.out.quiet o6)
        obtain ⟨⟨nx, Sx, HGX⟩, _⟩ := HP6.out.2.2.2.2.2.1
        obtain ⟨y0, y1, _, _⟩ := HP6.out.cells
        clear o6 HP5 HGB x0 x1
        go_wp2_with fail
        refine (same_any HGX).mono ?_
        rintro e w7 ⟨rfl, o7⟩
        have HP7 := hid_mk (HP6.out.quiet o7)
        obtain ⟨⟨ny, Sy, HGY⟩, _⟩ := HP7.out.2.2.2.2.2.2.1
        obtain ⟨x0, x1, _, _⟩ := HP7.out.cells
        clear o7 HP6 HGX y0 y1
        go_wp2_with fail
        refine (same_any HGY).mono ?_
        rintro e w8 ⟨rfl, o8⟩
        have HP8 := hid_mk (HP7.out.quiet o8)
        clear o8 HP7 HGY x0 x1
        go_wp2
        go_ret
        exact ⟨rfl, HP8.out.2.2.2.2.2.2.2.2.2.2.2.2.2⟩
      · have g1 : (i : Int) < (len : Int) := by omega
        have g2 : (300 : Int) ≤ (i : Int) := by have := HGE.out; omega
        clear HGE hil
        go_wp2_with fail
        refine (same_any HGA).mono ?_
        rintro e w5 ⟨rfl, o5⟩
        have HP5 := hid_mk (HPr.out.quiet o5)
        obtain ⟨⟨nb, Sb, HGB⟩, _⟩ := HP5.out.2.2.2.2.1
        clear o5 HPr HGA
        go_wp2_with fail
        refine (same_any HGB).mono ?_
        rintro e w6 ⟨rfl, o6⟩
        have HP6 := hid_mk (HP5.out.quiet o6)
        obtain ⟨⟨nx, Sx, HGX⟩, _⟩ := HP6.out.2.2.2.2.2.1
        obtain ⟨y0, y1, _, _⟩ := HP6.out.cells
        clear o6 HP5 HGB x0 x1
        go_wp2_with fail
        refine (same_any HGX).mono ?_
        rintro e w7 ⟨rfl, o7⟩
        have HP7 := hid_mk (HP6.out.quiet o7)
        obtain ⟨⟨ny, Sy, HGY⟩, _⟩ := HP7.out.2.2.2.2.2.2.1
        obtain ⟨x0, x1, _, _⟩ := HP7.out.cells
        clear o7 HP6 HGX y0 y1
        go_wp2_with fail
        refine (same_any HGY).mono ?_
        rintro e w8 ⟨rfl, o8⟩
        have HP8 := hid_mk (HP7.out.quiet o8)
        clear o8 HP7 HGY x0 x1
        go_wp2
        go_ret
        exact ⟨rfl, HP8.out.2.2.2.2.2.2.2.2.2.2.2.2.2⟩
end Go.Proofs.YtnkobcldagajeaaDoor
