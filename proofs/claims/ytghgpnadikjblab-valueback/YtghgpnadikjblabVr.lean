/- there and back -/
import Derived.Test.YtghgpnadikjblabVo
namespace Go.Proofs.Ytghgpnadikjblab
open Go.ChangeShapes Go.WideShapes Go.ChangeAt Go.RowKit
set_option linter.unusedVariables false
set_option linter.unusedSimpArgs false

set_option maxHeartbeats 4000000 in
theorem back_key (k n k1 n1 v : Int) (w : World) (x y z bk bn tk tn : Int) (ok good rd fine : Bool)
    (cw : ∀ w, Calls Try.prog 6 #[.agg #[.int .i64 k, .int .i64 n]] w fun e w' => e = .returned (.tuple #[.int .i64 x, .bool ok]) ∧ Below w.heap.size w w')
    (cv : ∀ w, Calls Try.prog 9 #[.agg #[.int .i64 k, .int .i64 n]] w fun e w' => e = .returned (.bool ok) ∧ Below w.heap.size w w')
    (cr : ∀ w, Calls Try.prog 7 #[.int .i64 x] w fun e w' => e = .returned (.tuple #[.agg #[.int .i64 bk, .int .i64 bn], .bool true]) ∧ Below w.heap.size w w')
    (cu : ∀ w, Calls Try.prog 6 #[.agg #[.int .i64 k1, .int .i64 n1]] w fun e w' => e = .returned (.tuple #[.int .i64 y, .bool good]) ∧ Below w.heap.size w w')
    (ct : ∀ w, Calls Try.prog 7 #[.int .i64 v] w fun e w' => e = .returned (.tuple #[.agg #[.int .i64 tk, .int .i64 tn], .bool rd]) ∧ Below w.heap.size w w')
    (cz : ∀ w, Calls Try.prog 6 #[.agg #[.int .i64 tk, .int .i64 tn]] w fun e w' => e = .returned (.tuple #[.int .i64 z, .bool fine]) ∧ Below w.heap.size w w')
    (cy : ∀ w, Calls Try.prog 9 #[.agg #[.int .i64 tk, .int .i64 tn]] w fun e w' => e = .returned (.bool fine) ∧ Below w.heap.size w w')
    (h1 : (ok = true ∧ bk = k ∧ bn = n) ∨ (ok = false ∧ x = 0))
    (h2 : ok = true → good = true → (k = k1 ∧ n = n1 ∧ x = y) ∨ ((k == k1) = false ∧ (x == y) = false) ∨ (k = k1 ∧ (n == n1) = false ∧ (x == y) = false))
    (h3 : (rd = true ∧ fine = true ∧ z = v) ∨ (rd = false ∧ tk = 0 ∧ tn = 0)) :
    Calls Try.prog 3 #[val k n, val k1 n1, .int .i64 v] w fun e w' => e = .returned (.bool true) ∧ Below w.heap.size w w' := by
  unfold val
  have CW := hid_mk cw
  have CV := hid_mk cv
  have CR := hid_mk cr
  have CU := hid_mk cu
  have CT := hid_mk ct
  have CZ := hid_mk cz
  have CY := hid_mk cy
  clear cw cv cr cu ct cz cy
  rcases h1 with ⟨rfl, rfl, rfl⟩ | ⟨rfl, rfl⟩
  · cases good
    · clear h2
      rcases h3 with ⟨rfl, rfl, rfl⟩ | ⟨rfl, rfl, rfl⟩
      · have b0 : Below w.heap.size w (w.alloc (.cells #[.int .i64 bk, .int .i64 bn] 23)) := (Below.refl _ _).alloc (Nat.le_refl _) _
        have bb := b0.alloc b0.size (.cells #[.int .i64 k1, .int .i64 n1] 23)
        have V0 := (VC.new w bk bn).alloc (.cells #[.int .i64 k1, .int .i64 n1] 23)
        have U0 : VC ((w.alloc (.cells #[.int .i64 bk, .int .i64 bn] 23)).alloc (.cells #[.int .i64 k1, .int .i64 n1] 23)) (w.heap.size + 1) k1 n1 := heap_alloc2_new _ _ _
        obtain ⟨x0, x1, _, _⟩ := V0.facts
        obtain ⟨x2, x3, _, _⟩ := U0.facts
        have HV := hid_mk V0
        have HU := hid_mk U0
        clear V0 U0 b0
        go_enter Try.func3, Try.ntmps3
        go_wp2_with fail
        refine (CW.out _).mono ?_
        rintro e w1 ⟨rfl, hg⟩
        have HV1 := hid_mk (HV.out.kept hg)
        have HU1 := hid_mk (HU.out.kept hg)
        have b1 := below_seq bb hg
        clear HV HU bb hg x0 x1 x2 x3
        go_wp2_with fail
        refine (CR.out _).mono ?_
        rintro e w2 ⟨rfl, hg⟩
        have HV2 := hid_mk ((HV1.out.kept hg).alloc (.cells #[.int .i64 bk, .int .i64 bn] 23))
        have HU2 := hid_mk ((HU1.out.kept hg).alloc (.cells #[.int .i64 bk, .int .i64 bn] 23))
        have HB2 := hid_mk (VC.new w2 bk bn)
        have b2 := (below_seq b1 hg).alloc (below_seq b1 hg).size (.cells #[.int .i64 bk, .int .i64 bn] 23)
        clear HV1 HU1 b1 hg
        go_wp2_with fail
        refine (alive_any _).mono ?_
        rintro e w3 ⟨rfl, hg⟩
        have HV3 := hid_mk (HV2.out.kept hg)
        have HU3 := hid_mk (HU2.out.kept hg)
        have HB3 := hid_mk (HB2.out.kept hg)
        have b3 := below_seq b2 hg
        clear HV2 HU2 HB2 b2 hg
        obtain ⟨x0, x1, _, _⟩ := HV3.out.facts
        go_wp2_with fail
        refine (CV.out _).mono ?_
        rintro e w4 ⟨rfl, hg⟩
        have HU4 := hid_mk (HU3.out.kept hg)
        have b4 := below_seq b3 hg
        have f1 := (HV3.out.kept hg).facts
        have f2 := (HB3.out.kept hg).facts
        have HV4 := hid_mk (HV3.out.kept hg)
        clear HV3 HU3 HB3 b3 hg x0 x1
        obtain ⟨x0, x1, _, _⟩ := f1
        obtain ⟨x4, x5, _, _⟩ := f2
        obtain ⟨x2, x3, _, _⟩ := HU4.out.facts
        go_wp2_with fail
        refine (CU.out _).mono ?_
        rintro e w5 ⟨rfl, hg⟩
        have HU5 := hid_mk (HU4.out.kept hg)
        have HV5 := hid_mk (HV4.out.kept hg)
        have b5 := below_seq b4 hg
        clear HV4 HU4 b4 hg x0 x1 x2 x3 x4 x5
        obtain ⟨x0, x1, _, _⟩ := HV5.out.facts
        obtain ⟨x2, x3, _, _⟩ := HU5.out.facts
        go_wp2_with fail
        refine (CT.out _).mono ?_
        rintro e w6 ⟨rfl, hg⟩
        have T6 := hid_mk (VC.new w6 tk tn)
        have b6 := (below_seq b5 hg).alloc (below_seq b5 hg).size (.cells #[.int .i64 tk, .int .i64 tn] 23)
        clear HV5 HU5 b5 hg x0 x1 x2 x3
        obtain ⟨x0, x1, _, _⟩ := T6.out.facts
        go_wp2_with fail
        refine (CZ.out _).mono ?_
        rintro e w7 ⟨rfl, hg⟩
        have T7 := hid_mk (T6.out.kept hg)
        have b7 := below_seq b6 hg
        clear T6 b6 hg x0 x1
        obtain ⟨x0, x1, _, _⟩ := T7.out.facts
        go_wp2_with (go_at_call 9; refine (calls_rel (CY.out _) (by assumption)).mono ?_; rintro e w8 ⟨rfl, b8⟩)
        all_goals go_ret
        all_goals exact ⟨rfl, by assumption⟩
      · have b0 : Below w.heap.size w (w.alloc (.cells #[.int .i64 bk, .int .i64 bn] 23)) := (Below.refl _ _).alloc (Nat.le_refl _) _
        have bb := b0.alloc b0.size (.cells #[.int .i64 k1, .int .i64 n1] 23)
        have V0 := (VC.new w bk bn).alloc (.cells #[.int .i64 k1, .int .i64 n1] 23)
        have U0 : VC ((w.alloc (.cells #[.int .i64 bk, .int .i64 bn] 23)).alloc (.cells #[.int .i64 k1, .int .i64 n1] 23)) (w.heap.size + 1) k1 n1 := heap_alloc2_new _ _ _
        obtain ⟨x0, x1, _, _⟩ := V0.facts
        obtain ⟨x2, x3, _, _⟩ := U0.facts
        have HV := hid_mk V0
        have HU := hid_mk U0
        clear V0 U0 b0
        go_enter Try.func3, Try.ntmps3
        go_wp2_with fail
        refine (CW.out _).mono ?_
        rintro e w1 ⟨rfl, hg⟩
        have HV1 := hid_mk (HV.out.kept hg)
        have HU1 := hid_mk (HU.out.kept hg)
        have b1 := below_seq bb hg
        clear HV HU bb hg x0 x1 x2 x3
        go_wp2_with fail
        refine (CR.out _).mono ?_
        rintro e w2 ⟨rfl, hg⟩
        have HV2 := hid_mk ((HV1.out.kept hg).alloc (.cells #[.int .i64 bk, .int .i64 bn] 23))
        have HU2 := hid_mk ((HU1.out.kept hg).alloc (.cells #[.int .i64 bk, .int .i64 bn] 23))
        have HB2 := hid_mk (VC.new w2 bk bn)
        have b2 := (below_seq b1 hg).alloc (below_seq b1 hg).size (.cells #[.int .i64 bk, .int .i64 bn] 23)
        clear HV1 HU1 b1 hg
        go_wp2_with fail
        refine (alive_any _).mono ?_
        rintro e w3 ⟨rfl, hg⟩
        have HV3 := hid_mk (HV2.out.kept hg)
        have HU3 := hid_mk (HU2.out.kept hg)
        have HB3 := hid_mk (HB2.out.kept hg)
        have b3 := below_seq b2 hg
        clear HV2 HU2 HB2 b2 hg
        obtain ⟨x0, x1, _, _⟩ := HV3.out.facts
        go_wp2_with fail
        refine (CV.out _).mono ?_
        rintro e w4 ⟨rfl, hg⟩
        have HU4 := hid_mk (HU3.out.kept hg)
        have b4 := below_seq b3 hg
        have f1 := (HV3.out.kept hg).facts
        have f2 := (HB3.out.kept hg).facts
        have HV4 := hid_mk (HV3.out.kept hg)
        clear HV3 HU3 HB3 b3 hg x0 x1
        obtain ⟨x0, x1, _, _⟩ := f1
        obtain ⟨x4, x5, _, _⟩ := f2
        obtain ⟨x2, x3, _, _⟩ := HU4.out.facts
        go_wp2_with fail
        refine (CU.out _).mono ?_
        rintro e w5 ⟨rfl, hg⟩
        have HU5 := hid_mk (HU4.out.kept hg)
        have HV5 := hid_mk (HV4.out.kept hg)
        have b5 := below_seq b4 hg
        clear HV4 HU4 b4 hg x0 x1 x2 x3 x4 x5
        obtain ⟨x0, x1, _, _⟩ := HV5.out.facts
        obtain ⟨x2, x3, _, _⟩ := HU5.out.facts
        go_wp2_with fail
        refine (CT.out _).mono ?_
        rintro e w6 ⟨rfl, hg⟩
        have T6 := hid_mk (VC.new w6 0 0)
        have b6 := (below_seq b5 hg).alloc (below_seq b5 hg).size (.cells #[.int .i64 0, .int .i64 0] 23)
        clear HV5 HU5 b5 hg x0 x1 x2 x3
        obtain ⟨x0, x1, _, _⟩ := T6.out.facts
        go_wp2_with fail
        refine (CZ.out _).mono ?_
        rintro e w7 ⟨rfl, hg⟩
        have T7 := hid_mk (T6.out.kept hg)
        have b7 := below_seq b6 hg
        clear T6 b6 hg x0 x1
        obtain ⟨x0, x1, _, _⟩ := T7.out.facts
        go_wp2_with (go_at_call 9; refine (calls_rel (CY.out _) (by assumption)).mono ?_; rintro e w8 ⟨rfl, b8⟩)
        all_goals go_ret
        all_goals exact ⟨rfl, by assumption⟩
    · rcases h2 rfl rfl with ⟨rfl, rfl, rfl⟩ | ⟨q1, q2⟩ | ⟨rfl, q1, q2⟩
      · clear h2
        rcases h3 with ⟨rfl, rfl, rfl⟩ | ⟨rfl, rfl, rfl⟩
        · have b0 : Below w.heap.size w (w.alloc (.cells #[.int .i64 bk, .int .i64 bn] 23)) := (Below.refl _ _).alloc (Nat.le_refl _) _
          have bb := b0.alloc b0.size (.cells #[.int .i64 bk, .int .i64 bn] 23)
          have V0 := (VC.new w bk bn).alloc (.cells #[.int .i64 bk, .int .i64 bn] 23)
          have U0 : VC ((w.alloc (.cells #[.int .i64 bk, .int .i64 bn] 23)).alloc (.cells #[.int .i64 bk, .int .i64 bn] 23)) (w.heap.size + 1) bk bn := heap_alloc2_new _ _ _
          obtain ⟨x0, x1, _, _⟩ := V0.facts
          obtain ⟨x2, x3, _, _⟩ := U0.facts
          have HV := hid_mk V0
          have HU := hid_mk U0
          clear V0 U0 b0
          go_enter Try.func3, Try.ntmps3
          go_wp2_with fail
          refine (CW.out _).mono ?_
          rintro e w1 ⟨rfl, hg⟩
          have HV1 := hid_mk (HV.out.kept hg)
          have HU1 := hid_mk (HU.out.kept hg)
          have b1 := below_seq bb hg
          clear HV HU bb hg x0 x1 x2 x3
          go_wp2_with fail
          refine (CR.out _).mono ?_
          rintro e w2 ⟨rfl, hg⟩
          have HV2 := hid_mk ((HV1.out.kept hg).alloc (.cells #[.int .i64 bk, .int .i64 bn] 23))
          have HU2 := hid_mk ((HU1.out.kept hg).alloc (.cells #[.int .i64 bk, .int .i64 bn] 23))
          have HB2 := hid_mk (VC.new w2 bk bn)
          have b2 := (below_seq b1 hg).alloc (below_seq b1 hg).size (.cells #[.int .i64 bk, .int .i64 bn] 23)
          clear HV1 HU1 b1 hg
          go_wp2_with fail
          refine (alive_any _).mono ?_
          rintro e w3 ⟨rfl, hg⟩
          have HV3 := hid_mk (HV2.out.kept hg)
          have HU3 := hid_mk (HU2.out.kept hg)
          have HB3 := hid_mk (HB2.out.kept hg)
          have b3 := below_seq b2 hg
          clear HV2 HU2 HB2 b2 hg
          obtain ⟨x0, x1, _, _⟩ := HV3.out.facts
          go_wp2_with fail
          refine (CV.out _).mono ?_
          rintro e w4 ⟨rfl, hg⟩
          have HU4 := hid_mk (HU3.out.kept hg)
          have b4 := below_seq b3 hg
          have f1 := (HV3.out.kept hg).facts
          have f2 := (HB3.out.kept hg).facts
          have HV4 := hid_mk (HV3.out.kept hg)
          clear HV3 HU3 HB3 b3 hg x0 x1
          obtain ⟨x0, x1, _, _⟩ := f1
          obtain ⟨x4, x5, _, _⟩ := f2
          obtain ⟨x2, x3, _, _⟩ := HU4.out.facts
          go_wp2_with fail
          refine (CU.out _).mono ?_
          rintro e w5 ⟨rfl, hg⟩
          have HU5 := hid_mk (HU4.out.kept hg)
          have HV5 := hid_mk (HV4.out.kept hg)
          have b5 := below_seq b4 hg
          clear HV4 HU4 b4 hg x0 x1 x2 x3 x4 x5
          obtain ⟨x0, x1, _, _⟩ := HV5.out.facts
          obtain ⟨x2, x3, _, _⟩ := HU5.out.facts
          go_wp2_with fail
          refine (CT.out _).mono ?_
          rintro e w6 ⟨rfl, hg⟩
          have T6 := hid_mk (VC.new w6 tk tn)
          have b6 := (below_seq b5 hg).alloc (below_seq b5 hg).size (.cells #[.int .i64 tk, .int .i64 tn] 23)
          clear HV5 HU5 b5 hg x0 x1 x2 x3
          obtain ⟨x0, x1, _, _⟩ := T6.out.facts
          go_wp2_with fail
          refine (CZ.out _).mono ?_
          rintro e w7 ⟨rfl, hg⟩
          have T7 := hid_mk (T6.out.kept hg)
          have b7 := below_seq b6 hg
          clear T6 b6 hg x0 x1
          obtain ⟨x0, x1, _, _⟩ := T7.out.facts
          go_wp2_with (go_at_call 9; refine (calls_rel (CY.out _) (by assumption)).mono ?_; rintro e w8 ⟨rfl, b8⟩)
          all_goals go_ret
          all_goals exact ⟨rfl, by assumption⟩
        · have b0 : Below w.heap.size w (w.alloc (.cells #[.int .i64 bk, .int .i64 bn] 23)) := (Below.refl _ _).alloc (Nat.le_refl _) _
          have bb := b0.alloc b0.size (.cells #[.int .i64 bk, .int .i64 bn] 23)
          have V0 := (VC.new w bk bn).alloc (.cells #[.int .i64 bk, .int .i64 bn] 23)
          have U0 : VC ((w.alloc (.cells #[.int .i64 bk, .int .i64 bn] 23)).alloc (.cells #[.int .i64 bk, .int .i64 bn] 23)) (w.heap.size + 1) bk bn := heap_alloc2_new _ _ _
          obtain ⟨x0, x1, _, _⟩ := V0.facts
          obtain ⟨x2, x3, _, _⟩ := U0.facts
          have HV := hid_mk V0
          have HU := hid_mk U0
          clear V0 U0 b0
          go_enter Try.func3, Try.ntmps3
          go_wp2_with fail
          refine (CW.out _).mono ?_
          rintro e w1 ⟨rfl, hg⟩
          have HV1 := hid_mk (HV.out.kept hg)
          have HU1 := hid_mk (HU.out.kept hg)
          have b1 := below_seq bb hg
          clear HV HU bb hg x0 x1 x2 x3
          go_wp2_with fail
          refine (CR.out _).mono ?_
          rintro e w2 ⟨rfl, hg⟩
          have HV2 := hid_mk ((HV1.out.kept hg).alloc (.cells #[.int .i64 bk, .int .i64 bn] 23))
          have HU2 := hid_mk ((HU1.out.kept hg).alloc (.cells #[.int .i64 bk, .int .i64 bn] 23))
          have HB2 := hid_mk (VC.new w2 bk bn)
          have b2 := (below_seq b1 hg).alloc (below_seq b1 hg).size (.cells #[.int .i64 bk, .int .i64 bn] 23)
          clear HV1 HU1 b1 hg
          go_wp2_with fail
          refine (alive_any _).mono ?_
          rintro e w3 ⟨rfl, hg⟩
          have HV3 := hid_mk (HV2.out.kept hg)
          have HU3 := hid_mk (HU2.out.kept hg)
          have HB3 := hid_mk (HB2.out.kept hg)
          have b3 := below_seq b2 hg
          clear HV2 HU2 HB2 b2 hg
          obtain ⟨x0, x1, _, _⟩ := HV3.out.facts
          go_wp2_with fail
          refine (CV.out _).mono ?_
          rintro e w4 ⟨rfl, hg⟩
          have HU4 := hid_mk (HU3.out.kept hg)
          have b4 := below_seq b3 hg
          have f1 := (HV3.out.kept hg).facts
          have f2 := (HB3.out.kept hg).facts
          have HV4 := hid_mk (HV3.out.kept hg)
          clear HV3 HU3 HB3 b3 hg x0 x1
          obtain ⟨x0, x1, _, _⟩ := f1
          obtain ⟨x4, x5, _, _⟩ := f2
          obtain ⟨x2, x3, _, _⟩ := HU4.out.facts
          go_wp2_with fail
          refine (CU.out _).mono ?_
          rintro e w5 ⟨rfl, hg⟩
          have HU5 := hid_mk (HU4.out.kept hg)
          have HV5 := hid_mk (HV4.out.kept hg)
          have b5 := below_seq b4 hg
          clear HV4 HU4 b4 hg x0 x1 x2 x3 x4 x5
          obtain ⟨x0, x1, _, _⟩ := HV5.out.facts
          obtain ⟨x2, x3, _, _⟩ := HU5.out.facts
          go_wp2_with fail
          refine (CT.out _).mono ?_
          rintro e w6 ⟨rfl, hg⟩
          have T6 := hid_mk (VC.new w6 0 0)
          have b6 := (below_seq b5 hg).alloc (below_seq b5 hg).size (.cells #[.int .i64 0, .int .i64 0] 23)
          clear HV5 HU5 b5 hg x0 x1 x2 x3
          obtain ⟨x0, x1, _, _⟩ := T6.out.facts
          go_wp2_with fail
          refine (CZ.out _).mono ?_
          rintro e w7 ⟨rfl, hg⟩
          have T7 := hid_mk (T6.out.kept hg)
          have b7 := below_seq b6 hg
          clear T6 b6 hg x0 x1
          obtain ⟨x0, x1, _, _⟩ := T7.out.facts
          go_wp2_with (go_at_call 9; refine (calls_rel (CY.out _) (by assumption)).mono ?_; rintro e w8 ⟨rfl, b8⟩)
          all_goals go_ret
          all_goals exact ⟨rfl, by assumption⟩
      · clear h2
        rcases h3 with ⟨rfl, rfl, rfl⟩ | ⟨rfl, rfl, rfl⟩
        · have b0 : Below w.heap.size w (w.alloc (.cells #[.int .i64 bk, .int .i64 bn] 23)) := (Below.refl _ _).alloc (Nat.le_refl _) _
          have bb := b0.alloc b0.size (.cells #[.int .i64 k1, .int .i64 n1] 23)
          have V0 := (VC.new w bk bn).alloc (.cells #[.int .i64 k1, .int .i64 n1] 23)
          have U0 : VC ((w.alloc (.cells #[.int .i64 bk, .int .i64 bn] 23)).alloc (.cells #[.int .i64 k1, .int .i64 n1] 23)) (w.heap.size + 1) k1 n1 := heap_alloc2_new _ _ _
          obtain ⟨x0, x1, _, _⟩ := V0.facts
          obtain ⟨x2, x3, _, _⟩ := U0.facts
          have HV := hid_mk V0
          have HU := hid_mk U0
          clear V0 U0 b0
          go_enter Try.func3, Try.ntmps3
          go_wp2_with fail
          refine (CW.out _).mono ?_
          rintro e w1 ⟨rfl, hg⟩
          have HV1 := hid_mk (HV.out.kept hg)
          have HU1 := hid_mk (HU.out.kept hg)
          have b1 := below_seq bb hg
          clear HV HU bb hg x0 x1 x2 x3
          go_wp2_with fail
          refine (CR.out _).mono ?_
          rintro e w2 ⟨rfl, hg⟩
          have HV2 := hid_mk ((HV1.out.kept hg).alloc (.cells #[.int .i64 bk, .int .i64 bn] 23))
          have HU2 := hid_mk ((HU1.out.kept hg).alloc (.cells #[.int .i64 bk, .int .i64 bn] 23))
          have HB2 := hid_mk (VC.new w2 bk bn)
          have b2 := (below_seq b1 hg).alloc (below_seq b1 hg).size (.cells #[.int .i64 bk, .int .i64 bn] 23)
          clear HV1 HU1 b1 hg
          go_wp2_with fail
          refine (alive_any _).mono ?_
          rintro e w3 ⟨rfl, hg⟩
          have HV3 := hid_mk (HV2.out.kept hg)
          have HU3 := hid_mk (HU2.out.kept hg)
          have HB3 := hid_mk (HB2.out.kept hg)
          have b3 := below_seq b2 hg
          clear HV2 HU2 HB2 b2 hg
          obtain ⟨x0, x1, _, _⟩ := HV3.out.facts
          go_wp2_with fail
          refine (CV.out _).mono ?_
          rintro e w4 ⟨rfl, hg⟩
          have HU4 := hid_mk (HU3.out.kept hg)
          have b4 := below_seq b3 hg
          have f1 := (HV3.out.kept hg).facts
          have f2 := (HB3.out.kept hg).facts
          have HV4 := hid_mk (HV3.out.kept hg)
          clear HV3 HU3 HB3 b3 hg x0 x1
          obtain ⟨x0, x1, _, _⟩ := f1
          obtain ⟨x4, x5, _, _⟩ := f2
          obtain ⟨x2, x3, _, _⟩ := HU4.out.facts
          go_wp2_with fail
          refine (CU.out _).mono ?_
          rintro e w5 ⟨rfl, hg⟩
          have HU5 := hid_mk (HU4.out.kept hg)
          have HV5 := hid_mk (HV4.out.kept hg)
          have b5 := below_seq b4 hg
          clear HV4 HU4 b4 hg x0 x1 x2 x3 x4 x5
          obtain ⟨x0, x1, _, _⟩ := HV5.out.facts
          obtain ⟨x2, x3, _, _⟩ := HU5.out.facts
          go_wp2_with fail
          refine (CT.out _).mono ?_
          rintro e w6 ⟨rfl, hg⟩
          have T6 := hid_mk (VC.new w6 tk tn)
          have b6 := (below_seq b5 hg).alloc (below_seq b5 hg).size (.cells #[.int .i64 tk, .int .i64 tn] 23)
          clear HV5 HU5 b5 hg x0 x1 x2 x3
          obtain ⟨x0, x1, _, _⟩ := T6.out.facts
          go_wp2_with fail
          refine (CZ.out _).mono ?_
          rintro e w7 ⟨rfl, hg⟩
          have T7 := hid_mk (T6.out.kept hg)
          have b7 := below_seq b6 hg
          clear T6 b6 hg x0 x1
          obtain ⟨x0, x1, _, _⟩ := T7.out.facts
          go_wp2_with (go_at_call 9; refine (calls_rel (CY.out _) (by assumption)).mono ?_; rintro e w8 ⟨rfl, b8⟩)
          all_goals go_ret
          all_goals exact ⟨rfl, by assumption⟩
        · have b0 : Below w.heap.size w (w.alloc (.cells #[.int .i64 bk, .int .i64 bn] 23)) := (Below.refl _ _).alloc (Nat.le_refl _) _
          have bb := b0.alloc b0.size (.cells #[.int .i64 k1, .int .i64 n1] 23)
          have V0 := (VC.new w bk bn).alloc (.cells #[.int .i64 k1, .int .i64 n1] 23)
          have U0 : VC ((w.alloc (.cells #[.int .i64 bk, .int .i64 bn] 23)).alloc (.cells #[.int .i64 k1, .int .i64 n1] 23)) (w.heap.size + 1) k1 n1 := heap_alloc2_new _ _ _
          obtain ⟨x0, x1, _, _⟩ := V0.facts
          obtain ⟨x2, x3, _, _⟩ := U0.facts
          have HV := hid_mk V0
          have HU := hid_mk U0
          clear V0 U0 b0
          go_enter Try.func3, Try.ntmps3
          go_wp2_with fail
          refine (CW.out _).mono ?_
          rintro e w1 ⟨rfl, hg⟩
          have HV1 := hid_mk (HV.out.kept hg)
          have HU1 := hid_mk (HU.out.kept hg)
          have b1 := below_seq bb hg
          clear HV HU bb hg x0 x1 x2 x3
          go_wp2_with fail
          refine (CR.out _).mono ?_
          rintro e w2 ⟨rfl, hg⟩
          have HV2 := hid_mk ((HV1.out.kept hg).alloc (.cells #[.int .i64 bk, .int .i64 bn] 23))
          have HU2 := hid_mk ((HU1.out.kept hg).alloc (.cells #[.int .i64 bk, .int .i64 bn] 23))
          have HB2 := hid_mk (VC.new w2 bk bn)
          have b2 := (below_seq b1 hg).alloc (below_seq b1 hg).size (.cells #[.int .i64 bk, .int .i64 bn] 23)
          clear HV1 HU1 b1 hg
          go_wp2_with fail
          refine (alive_any _).mono ?_
          rintro e w3 ⟨rfl, hg⟩
          have HV3 := hid_mk (HV2.out.kept hg)
          have HU3 := hid_mk (HU2.out.kept hg)
          have HB3 := hid_mk (HB2.out.kept hg)
          have b3 := below_seq b2 hg
          clear HV2 HU2 HB2 b2 hg
          obtain ⟨x0, x1, _, _⟩ := HV3.out.facts
          go_wp2_with fail
          refine (CV.out _).mono ?_
          rintro e w4 ⟨rfl, hg⟩
          have HU4 := hid_mk (HU3.out.kept hg)
          have b4 := below_seq b3 hg
          have f1 := (HV3.out.kept hg).facts
          have f2 := (HB3.out.kept hg).facts
          have HV4 := hid_mk (HV3.out.kept hg)
          clear HV3 HU3 HB3 b3 hg x0 x1
          obtain ⟨x0, x1, _, _⟩ := f1
          obtain ⟨x4, x5, _, _⟩ := f2
          obtain ⟨x2, x3, _, _⟩ := HU4.out.facts
          go_wp2_with fail
          refine (CU.out _).mono ?_
          rintro e w5 ⟨rfl, hg⟩
          have HU5 := hid_mk (HU4.out.kept hg)
          have HV5 := hid_mk (HV4.out.kept hg)
          have b5 := below_seq b4 hg
          clear HV4 HU4 b4 hg x0 x1 x2 x3 x4 x5
          obtain ⟨x0, x1, _, _⟩ := HV5.out.facts
          obtain ⟨x2, x3, _, _⟩ := HU5.out.facts
          go_wp2_with fail
          refine (CT.out _).mono ?_
          rintro e w6 ⟨rfl, hg⟩
          have T6 := hid_mk (VC.new w6 0 0)
          have b6 := (below_seq b5 hg).alloc (below_seq b5 hg).size (.cells #[.int .i64 0, .int .i64 0] 23)
          clear HV5 HU5 b5 hg x0 x1 x2 x3
          obtain ⟨x0, x1, _, _⟩ := T6.out.facts
          go_wp2_with fail
          refine (CZ.out _).mono ?_
          rintro e w7 ⟨rfl, hg⟩
          have T7 := hid_mk (T6.out.kept hg)
          have b7 := below_seq b6 hg
          clear T6 b6 hg x0 x1
          obtain ⟨x0, x1, _, _⟩ := T7.out.facts
          go_wp2_with (go_at_call 9; refine (calls_rel (CY.out _) (by assumption)).mono ?_; rintro e w8 ⟨rfl, b8⟩)
          all_goals go_ret
          all_goals exact ⟨rfl, by assumption⟩
      · clear h2
        rcases h3 with ⟨rfl, rfl, rfl⟩ | ⟨rfl, rfl, rfl⟩
        · have b0 : Below w.heap.size w (w.alloc (.cells #[.int .i64 bk, .int .i64 bn] 23)) := (Below.refl _ _).alloc (Nat.le_refl _) _
          have bb := b0.alloc b0.size (.cells #[.int .i64 bk, .int .i64 n1] 23)
          have V0 := (VC.new w bk bn).alloc (.cells #[.int .i64 bk, .int .i64 n1] 23)
          have U0 : VC ((w.alloc (.cells #[.int .i64 bk, .int .i64 bn] 23)).alloc (.cells #[.int .i64 bk, .int .i64 n1] 23)) (w.heap.size + 1) bk n1 := heap_alloc2_new _ _ _
          obtain ⟨x0, x1, _, _⟩ := V0.facts
          obtain ⟨x2, x3, _, _⟩ := U0.facts
          have HV := hid_mk V0
          have HU := hid_mk U0
          clear V0 U0 b0
          go_enter Try.func3, Try.ntmps3
          go_wp2_with fail
          refine (CW.out _).mono ?_
          rintro e w1 ⟨rfl, hg⟩
          have HV1 := hid_mk (HV.out.kept hg)
          have HU1 := hid_mk (HU.out.kept hg)
          have b1 := below_seq bb hg
          clear HV HU bb hg x0 x1 x2 x3
          go_wp2_with fail
          refine (CR.out _).mono ?_
          rintro e w2 ⟨rfl, hg⟩
          have HV2 := hid_mk ((HV1.out.kept hg).alloc (.cells #[.int .i64 bk, .int .i64 bn] 23))
          have HU2 := hid_mk ((HU1.out.kept hg).alloc (.cells #[.int .i64 bk, .int .i64 bn] 23))
          have HB2 := hid_mk (VC.new w2 bk bn)
          have b2 := (below_seq b1 hg).alloc (below_seq b1 hg).size (.cells #[.int .i64 bk, .int .i64 bn] 23)
          clear HV1 HU1 b1 hg
          go_wp2_with fail
          refine (alive_any _).mono ?_
          rintro e w3 ⟨rfl, hg⟩
          have HV3 := hid_mk (HV2.out.kept hg)
          have HU3 := hid_mk (HU2.out.kept hg)
          have HB3 := hid_mk (HB2.out.kept hg)
          have b3 := below_seq b2 hg
          clear HV2 HU2 HB2 b2 hg
          obtain ⟨x0, x1, _, _⟩ := HV3.out.facts
          go_wp2_with fail
          refine (CV.out _).mono ?_
          rintro e w4 ⟨rfl, hg⟩
          have HU4 := hid_mk (HU3.out.kept hg)
          have b4 := below_seq b3 hg
          have f1 := (HV3.out.kept hg).facts
          have f2 := (HB3.out.kept hg).facts
          have HV4 := hid_mk (HV3.out.kept hg)
          clear HV3 HU3 HB3 b3 hg x0 x1
          obtain ⟨x0, x1, _, _⟩ := f1
          obtain ⟨x4, x5, _, _⟩ := f2
          obtain ⟨x2, x3, _, _⟩ := HU4.out.facts
          go_wp2_with fail
          refine (CU.out _).mono ?_
          rintro e w5 ⟨rfl, hg⟩
          have HU5 := hid_mk (HU4.out.kept hg)
          have HV5 := hid_mk (HV4.out.kept hg)
          have b5 := below_seq b4 hg
          clear HV4 HU4 b4 hg x0 x1 x2 x3 x4 x5
          obtain ⟨x0, x1, _, _⟩ := HV5.out.facts
          obtain ⟨x2, x3, _, _⟩ := HU5.out.facts
          go_wp2_with fail
          refine (CT.out _).mono ?_
          rintro e w6 ⟨rfl, hg⟩
          have T6 := hid_mk (VC.new w6 tk tn)
          have b6 := (below_seq b5 hg).alloc (below_seq b5 hg).size (.cells #[.int .i64 tk, .int .i64 tn] 23)
          clear HV5 HU5 b5 hg x0 x1 x2 x3
          obtain ⟨x0, x1, _, _⟩ := T6.out.facts
          go_wp2_with fail
          refine (CZ.out _).mono ?_
          rintro e w7 ⟨rfl, hg⟩
          have T7 := hid_mk (T6.out.kept hg)
          have b7 := below_seq b6 hg
          clear T6 b6 hg x0 x1
          obtain ⟨x0, x1, _, _⟩ := T7.out.facts
          go_wp2_with (go_at_call 9; refine (calls_rel (CY.out _) (by assumption)).mono ?_; rintro e w8 ⟨rfl, b8⟩)
          all_goals go_ret
          all_goals exact ⟨rfl, by assumption⟩
        · have b0 : Below w.heap.size w (w.alloc (.cells #[.int .i64 bk, .int .i64 bn] 23)) := (Below.refl _ _).alloc (Nat.le_refl _) _
          have bb := b0.alloc b0.size (.cells #[.int .i64 bk, .int .i64 n1] 23)
          have V0 := (VC.new w bk bn).alloc (.cells #[.int .i64 bk, .int .i64 n1] 23)
          have U0 : VC ((w.alloc (.cells #[.int .i64 bk, .int .i64 bn] 23)).alloc (.cells #[.int .i64 bk, .int .i64 n1] 23)) (w.heap.size + 1) bk n1 := heap_alloc2_new _ _ _
          obtain ⟨x0, x1, _, _⟩ := V0.facts
          obtain ⟨x2, x3, _, _⟩ := U0.facts
          have HV := hid_mk V0
          have HU := hid_mk U0
          clear V0 U0 b0
          go_enter Try.func3, Try.ntmps3
          go_wp2_with fail
          refine (CW.out _).mono ?_
          rintro e w1 ⟨rfl, hg⟩
          have HV1 := hid_mk (HV.out.kept hg)
          have HU1 := hid_mk (HU.out.kept hg)
          have b1 := below_seq bb hg
          clear HV HU bb hg x0 x1 x2 x3
          go_wp2_with fail
          refine (CR.out _).mono ?_
          rintro e w2 ⟨rfl, hg⟩
          have HV2 := hid_mk ((HV1.out.kept hg).alloc (.cells #[.int .i64 bk, .int .i64 bn] 23))
          have HU2 := hid_mk ((HU1.out.kept hg).alloc (.cells #[.int .i64 bk, .int .i64 bn] 23))
          have HB2 := hid_mk (VC.new w2 bk bn)
          have b2 := (below_seq b1 hg).alloc (below_seq b1 hg).size (.cells #[.int .i64 bk, .int .i64 bn] 23)
          clear HV1 HU1 b1 hg
          go_wp2_with fail
          refine (alive_any _).mono ?_
          rintro e w3 ⟨rfl, hg⟩
          have HV3 := hid_mk (HV2.out.kept hg)
          have HU3 := hid_mk (HU2.out.kept hg)
          have HB3 := hid_mk (HB2.out.kept hg)
          have b3 := below_seq b2 hg
          clear HV2 HU2 HB2 b2 hg
          obtain ⟨x0, x1, _, _⟩ := HV3.out.facts
          go_wp2_with fail
          refine (CV.out _).mono ?_
          rintro e w4 ⟨rfl, hg⟩
          have HU4 := hid_mk (HU3.out.kept hg)
          have b4 := below_seq b3 hg
          have f1 := (HV3.out.kept hg).facts
          have f2 := (HB3.out.kept hg).facts
          have HV4 := hid_mk (HV3.out.kept hg)
          clear HV3 HU3 HB3 b3 hg x0 x1
          obtain ⟨x0, x1, _, _⟩ := f1
          obtain ⟨x4, x5, _, _⟩ := f2
          obtain ⟨x2, x3, _, _⟩ := HU4.out.facts
          go_wp2_with fail
          refine (CU.out _).mono ?_
          rintro e w5 ⟨rfl, hg⟩
          have HU5 := hid_mk (HU4.out.kept hg)
          have HV5 := hid_mk (HV4.out.kept hg)
          have b5 := below_seq b4 hg
          clear HV4 HU4 b4 hg x0 x1 x2 x3 x4 x5
          obtain ⟨x0, x1, _, _⟩ := HV5.out.facts
          obtain ⟨x2, x3, _, _⟩ := HU5.out.facts
          go_wp2_with fail
          refine (CT.out _).mono ?_
          rintro e w6 ⟨rfl, hg⟩
          have T6 := hid_mk (VC.new w6 0 0)
          have b6 := (below_seq b5 hg).alloc (below_seq b5 hg).size (.cells #[.int .i64 0, .int .i64 0] 23)
          clear HV5 HU5 b5 hg x0 x1 x2 x3
          obtain ⟨x0, x1, _, _⟩ := T6.out.facts
          go_wp2_with fail
          refine (CZ.out _).mono ?_
          rintro e w7 ⟨rfl, hg⟩
          have T7 := hid_mk (T6.out.kept hg)
          have b7 := below_seq b6 hg
          clear T6 b6 hg x0 x1
          obtain ⟨x0, x1, _, _⟩ := T7.out.facts
          go_wp2_with (go_at_call 9; refine (calls_rel (CY.out _) (by assumption)).mono ?_; rintro e w8 ⟨rfl, b8⟩)
          all_goals go_ret
          all_goals exact ⟨rfl, by assumption⟩
  · clear h2
    rcases h3 with ⟨rfl, rfl, rfl⟩ | ⟨rfl, rfl, rfl⟩
    · have b0 : Below w.heap.size w (w.alloc (.cells #[.int .i64 k, .int .i64 n] 23)) := (Below.refl _ _).alloc (Nat.le_refl _) _
      have bb := b0.alloc b0.size (.cells #[.int .i64 k1, .int .i64 n1] 23)
      have V0 := (VC.new w k n).alloc (.cells #[.int .i64 k1, .int .i64 n1] 23)
      have U0 : VC ((w.alloc (.cells #[.int .i64 k, .int .i64 n] 23)).alloc (.cells #[.int .i64 k1, .int .i64 n1] 23)) (w.heap.size + 1) k1 n1 := heap_alloc2_new _ _ _
      obtain ⟨x0, x1, _, _⟩ := V0.facts
      obtain ⟨x2, x3, _, _⟩ := U0.facts
      have HV := hid_mk V0
      have HU := hid_mk U0
      clear V0 U0 b0
      go_enter Try.func3, Try.ntmps3
      go_wp2_with fail
      refine (CW.out _).mono ?_
      rintro e w1 ⟨rfl, hg⟩
      have HV1 := hid_mk (HV.out.kept hg)
      have HU1 := hid_mk (HU.out.kept hg)
      have b1 := below_seq bb hg
      clear HV HU bb hg x0 x1 x2 x3
      go_wp2_with fail
      refine (CR.out _).mono ?_
      rintro e w2 ⟨rfl, hg⟩
      have HV2 := hid_mk ((HV1.out.kept hg).alloc (.cells #[.int .i64 bk, .int .i64 bn] 23))
      have HU2 := hid_mk ((HU1.out.kept hg).alloc (.cells #[.int .i64 bk, .int .i64 bn] 23))
      have HB2 := hid_mk (VC.new w2 bk bn)
      have b2 := (below_seq b1 hg).alloc (below_seq b1 hg).size (.cells #[.int .i64 bk, .int .i64 bn] 23)
      clear HV1 HU1 b1 hg
      go_wp2_with fail
      refine (alive_any _).mono ?_
      rintro e w3 ⟨rfl, hg⟩
      have HV3 := hid_mk (HV2.out.kept hg)
      have HU3 := hid_mk (HU2.out.kept hg)
      have HB3 := hid_mk (HB2.out.kept hg)
      have b3 := below_seq b2 hg
      clear HV2 HU2 HB2 b2 hg
      obtain ⟨x0, x1, _, _⟩ := HV3.out.facts
      go_wp2_with fail
      refine (CV.out _).mono ?_
      rintro e w4 ⟨rfl, hg⟩
      have HU4 := hid_mk (HU3.out.kept hg)
      have b4 := below_seq b3 hg
      have f1 := (HV3.out.kept hg).facts
      have f2 := (HB3.out.kept hg).facts
      have HV4 := hid_mk (HV3.out.kept hg)
      clear HV3 HU3 HB3 b3 hg x0 x1
      obtain ⟨x0, x1, _, _⟩ := f1
      obtain ⟨x4, x5, _, _⟩ := f2
      obtain ⟨x2, x3, _, _⟩ := HU4.out.facts
      go_wp2_with fail
      refine (CU.out _).mono ?_
      rintro e w5 ⟨rfl, hg⟩
      have HU5 := hid_mk (HU4.out.kept hg)
      have HV5 := hid_mk (HV4.out.kept hg)
      have b5 := below_seq b4 hg
      clear HV4 HU4 b4 hg x0 x1 x2 x3 x4 x5
      obtain ⟨x0, x1, _, _⟩ := HV5.out.facts
      obtain ⟨x2, x3, _, _⟩ := HU5.out.facts
      go_wp2_with fail
      refine (CT.out _).mono ?_
      rintro e w6 ⟨rfl, hg⟩
      have T6 := hid_mk (VC.new w6 tk tn)
      have b6 := (below_seq b5 hg).alloc (below_seq b5 hg).size (.cells #[.int .i64 tk, .int .i64 tn] 23)
      clear HV5 HU5 b5 hg x0 x1 x2 x3
      obtain ⟨x0, x1, _, _⟩ := T6.out.facts
      go_wp2_with fail
      refine (CZ.out _).mono ?_
      rintro e w7 ⟨rfl, hg⟩
      have T7 := hid_mk (T6.out.kept hg)
      have b7 := below_seq b6 hg
      clear T6 b6 hg x0 x1
      obtain ⟨x0, x1, _, _⟩ := T7.out.facts
      go_wp2_with (go_at_call 9; refine (calls_rel (CY.out _) (by assumption)).mono ?_; rintro e w8 ⟨rfl, b8⟩)
      all_goals go_ret
      all_goals exact ⟨rfl, by assumption⟩
    · have b0 : Below w.heap.size w (w.alloc (.cells #[.int .i64 k, .int .i64 n] 23)) := (Below.refl _ _).alloc (Nat.le_refl _) _
      have bb := b0.alloc b0.size (.cells #[.int .i64 k1, .int .i64 n1] 23)
      have V0 := (VC.new w k n).alloc (.cells #[.int .i64 k1, .int .i64 n1] 23)
      have U0 : VC ((w.alloc (.cells #[.int .i64 k, .int .i64 n] 23)).alloc (.cells #[.int .i64 k1, .int .i64 n1] 23)) (w.heap.size + 1) k1 n1 := heap_alloc2_new _ _ _
      obtain ⟨x0, x1, _, _⟩ := V0.facts
      obtain ⟨x2, x3, _, _⟩ := U0.facts
      have HV := hid_mk V0
      have HU := hid_mk U0
      clear V0 U0 b0
      go_enter Try.func3, Try.ntmps3
      go_wp2_with fail
      refine (CW.out _).mono ?_
      rintro e w1 ⟨rfl, hg⟩
      have HV1 := hid_mk (HV.out.kept hg)
      have HU1 := hid_mk (HU.out.kept hg)
      have b1 := below_seq bb hg
      clear HV HU bb hg x0 x1 x2 x3
      go_wp2_with fail
      refine (CR.out _).mono ?_
      rintro e w2 ⟨rfl, hg⟩
      have HV2 := hid_mk ((HV1.out.kept hg).alloc (.cells #[.int .i64 bk, .int .i64 bn] 23))
      have HU2 := hid_mk ((HU1.out.kept hg).alloc (.cells #[.int .i64 bk, .int .i64 bn] 23))
      have HB2 := hid_mk (VC.new w2 bk bn)
      have b2 := (below_seq b1 hg).alloc (below_seq b1 hg).size (.cells #[.int .i64 bk, .int .i64 bn] 23)
      clear HV1 HU1 b1 hg
      go_wp2_with fail
      refine (alive_any _).mono ?_
      rintro e w3 ⟨rfl, hg⟩
      have HV3 := hid_mk (HV2.out.kept hg)
      have HU3 := hid_mk (HU2.out.kept hg)
      have HB3 := hid_mk (HB2.out.kept hg)
      have b3 := below_seq b2 hg
      clear HV2 HU2 HB2 b2 hg
      obtain ⟨x0, x1, _, _⟩ := HV3.out.facts
      go_wp2_with fail
      refine (CV.out _).mono ?_
      rintro e w4 ⟨rfl, hg⟩
      have HU4 := hid_mk (HU3.out.kept hg)
      have b4 := below_seq b3 hg
      have f1 := (HV3.out.kept hg).facts
      have f2 := (HB3.out.kept hg).facts
      have HV4 := hid_mk (HV3.out.kept hg)
      clear HV3 HU3 HB3 b3 hg x0 x1
      obtain ⟨x0, x1, _, _⟩ := f1
      obtain ⟨x4, x5, _, _⟩ := f2
      obtain ⟨x2, x3, _, _⟩ := HU4.out.facts
      go_wp2_with fail
      refine (CU.out _).mono ?_
      rintro e w5 ⟨rfl, hg⟩
      have HU5 := hid_mk (HU4.out.kept hg)
      have HV5 := hid_mk (HV4.out.kept hg)
      have b5 := below_seq b4 hg
      clear HV4 HU4 b4 hg x0 x1 x2 x3 x4 x5
      obtain ⟨x0, x1, _, _⟩ := HV5.out.facts
      obtain ⟨x2, x3, _, _⟩ := HU5.out.facts
      go_wp2_with fail
      refine (CT.out _).mono ?_
      rintro e w6 ⟨rfl, hg⟩
      have T6 := hid_mk (VC.new w6 0 0)
      have b6 := (below_seq b5 hg).alloc (below_seq b5 hg).size (.cells #[.int .i64 0, .int .i64 0] 23)
      clear HV5 HU5 b5 hg x0 x1 x2 x3
      obtain ⟨x0, x1, _, _⟩ := T6.out.facts
      go_wp2_with fail
      refine (CZ.out _).mono ?_
      rintro e w7 ⟨rfl, hg⟩
      have T7 := hid_mk (T6.out.kept hg)
      have b7 := below_seq b6 hg
      clear T6 b6 hg x0 x1
      obtain ⟨x0, x1, _, _⟩ := T7.out.facts
      go_wp2_with (go_at_call 9; refine (calls_rel (CY.out _) (by assumption)).mono ?_; rintro e w8 ⟨rfl, b8⟩)
      all_goals go_ret
      all_goals exact ⟨rfl, by assumption⟩
theorem word_mod {k n : Int} (h : validB k n = true) : wordV k n % 8 + 1 = k ∧ wordV k n / 8 = n := by
  obtain ⟨r1, r2, r3, r4⟩ := valid_range h
  unfold wordV; rw [if_pos h]; omega
theorem back_any (k n k1 n1 v : Int) (w : World) (i1 : -9223372036854775808 ≤ v) (i2 : v ≤ 9223372036854775807) :
    Calls Try.prog 3 #[val k n, val k1 n1, .int .i64 v] w fun e w' => e = .returned (.bool true) ∧ Below w.heap.size w w' := by
  have hr : ∃ bk bn, (∀ w, Calls Try.prog 7 #[.int .i64 (wordV k n)] w fun e w' => e = .returned (.tuple #[.agg #[.int .i64 bk, .int .i64 bn], .bool true]) ∧ Below w.heap.size w w') ∧ ((validB k n = true ∧ bk = k ∧ bn = n) ∨ (validB k n = false ∧ wordV k n = 0)) := by
    by_cases h : validB k n = true
    · obtain ⟨e1, e2⟩ := word_mod h
      refine ⟨k, n, fun w => ?_, .inl ⟨h, rfl, rfl⟩⟩
      have c := read_any (wordV k n) w
      have e3 : mkK k n = k := by unfold mkK; rw [if_pos h]
      have e4 : mkN k n = n := by unfold mkN; rw [if_pos h]
      rw [e1, e2, e3, e4, h] at c
      exact c
    · have h0 : wordV k n = 0 := by unfold wordV; rw [if_neg h]
      refine ⟨1, 0, fun w => ?_, .inr ⟨Bool.eq_false_iff.mpr h, h0⟩⟩
      rw [h0]
      exact read_any 0 w
  obtain ⟨bk, bn, cr, h1⟩ := hr
  refine back_key k n k1 n1 v w (wordV k n) (wordV k1 n1) _ bk bn _ _ (validB k n) (validB k1 n1) (validB (v % 8 + 1) (v / 8)) _ (word_any k n) (valid_any k n) cr (word_any k1 n1) (read_any v) (word_any _ _) (valid_any _ _) h1 ?_ ?_
  · intro p q
    obtain ⟨e1, e2⟩ := word_mod p
    obtain ⟨e3, e4⟩ := word_mod q
    by_cases c : k = k1
    · by_cases d : n = n1
      · left; subst c; subst d; exact ⟨rfl, rfl, rfl⟩
      · right; right
        refine ⟨c, by simpa using d, ?_⟩
        rw [beq_eq_false_iff_ne]; intro e; rw [e] at e2; omega
    · right; left
      refine ⟨by simpa using c, ?_⟩
      rw [beq_eq_false_iff_ne]; intro e; rw [e] at e1; omega
  · by_cases h : validB (v % 8 + 1) (v / 8) = true
    · left
      have e3 : mkK (v % 8 + 1) (v / 8) = v % 8 + 1 := by unfold mkK; rw [if_pos h]
      have e4 : mkN (v % 8 + 1) (v / 8) = v / 8 := by unfold mkN; rw [if_pos h]
      rw [e3, e4]
      refine ⟨h, h, ?_⟩
      unfold wordV; rw [if_pos h]; omega
    · right
      refine ⟨Bool.eq_false_iff.mpr h, ?_, ?_⟩
      · unfold mkK; rw [if_neg h]
      · unfold mkN; rw [if_neg h]
end Go.Proofs.Ytghgpnadikjblab
