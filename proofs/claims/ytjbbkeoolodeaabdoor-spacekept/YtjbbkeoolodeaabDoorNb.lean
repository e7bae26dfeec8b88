import Derived.Test.YtjbbkeoolodeaabDoorMm
namespace Go.Proofs.YtjbbkeoolodeaabDoor
open Go.RowKit
set_option linter.unusedVariables false
set_option linter.unusedSimpArgs false

/-- a number brought to 0 .. n - 1 -/
def wth (x n : Int) : Int := (if x < 0 then -(x + 1) else x) % n
theorem wth_ge (x n : Int) (h : 0 < n) : 0 ≤ wth x n := Int.emod_nonneg _ (by omega)
theorem wth_lt (x n : Int) (h : 0 < n) : wth x n < n := Int.emod_lt_of_pos _ h
theorem wth_nat (x n : Int) (h : 0 < n) : ∃ m : Nat, wth x n = m ∧ (m : Int) < n := ⟨(wth x n).toNat, by have := wth_ge x n h; omega, by have := wth_ge x n h; have := wth_lt x n h; omega⟩
set_option maxHeartbeats 1000000 in
theorem within_any (x n : Int) (w : World) (h1 : -9223372036854775808 ≤ x) (h2 : x ≤ 9223372036854775807) (h3 : 0 < n) (h4 : n ≤ 4096) :
    Calls Tryd.prog 18 #[.int .i64 x, .int .i64 n] w fun e w' => e = .returned (.int .i64 (wth x n)) ∧ w' = w := by
  have hn0 : (n == 0) = false := by rw [beq_eq_false_iff_ne]; omega
  have hn1 : n ≠ 0 := by omega
  by_cases hx : x < 0
  · have HE : Hid ((wrap64 (-wrap64 (x + 1))).tmod n = wth x n) := by
      have e1 : wrap64 (x + 1) = x + 1 := by unfold wrap64; omega
      have e2 : wrap64 (-(x + 1)) = -(x + 1) := by unfold wrap64; omega
      show (wrap64 (-wrap64 (x + 1))).tmod n = wth x n
      rw [e1, e2, Int.tmod_eq_emod_of_nonneg (by omega)]
      unfold wth; rw [if_pos hx]
    clear h2 h4 h1
    go_enter Tryd.func18, Tryd.ntmps18
    go_wp2
    go_ret
    exact ⟨ret_int HE.out, rfl⟩
  · have hx0 : 0 ≤ x := by omega
    have HE : Hid (x.tmod n = wth x n) := by
      show x.tmod n = wth x n
      rw [Int.tmod_eq_emod_of_nonneg hx0]
      unfold wth; rw [if_neg hx]
    have HE2 : Hid (x % n = wth x n) := by
      show x % n = wth x n
      unfold wth; rw [if_neg hx]
    clear h2 h4 h1 hx
    go_enter Tryd.func18, Tryd.ntmps18
    go_wp2
    go_ret
    exact ⟨ret_int (by first | exact HE.out | exact HE2.out), rfl⟩
/-- the class, its words, its blocks -/
def clsT (z : Int) : Int × Int × Int := if z ≤ 32 then (ofV z, ((wN (ofV z) : Nat) : Int), ((64 / wN (ofV z) : Nat) : Int)) else (8, (z + 63) / 64 * 64, 0)
theorem cls_at {w : World} {G : Nat} {T : TypeId} (h : w.heap[G]? = some (.cells #[.int .i64 2, .int .i64 4, .int .i64 6, .int .i64 8, .int .i64 12, .int .i64 16, .int .i64 20, .int .i64 32] T (0, 0))) {i : Nat} (hi : i < 8) : w.cell? ⟨G, i, none⟩ = some (.int .i64 (wordsV (i : Int))) := by
  have : i = 0 ∨ i = 1 ∨ i = 2 ∨ i = 3 ∨ i = 4 ∨ i = 5 ∨ i = 6 ∨ i = 7 := by omega
  rcases this with rfl | rfl | rfl | rfl | rfl | rfl | rfl | rfl <;> (simp [World.cell?, h]; rfl)
theorem of_least {z : Int} {i : Nat} (hi : i < 8) (h1 : 1 ≤ z) (hz : z ≤ wordsV (i : Int)) (hl : ∀ j : Nat, j < i → wordsV (j : Int) < z) : clsT z = ((i : Int), wordsV (i : Int), 64 / wordsV (i : Int)) := by
  have c : ∀ j : Nat, j < 8 → wordsV (j : Int) = ([2, 4, 6, 8, 12, 16, 20, 32] : List Int).getD j 0 := by decide
  have l1 := hl (i - 1)
  have : i = 0 ∨ i = 1 ∨ i = 2 ∨ i = 3 ∨ i = 4 ∨ i = 5 ∨ i = 6 ∨ i = 7 := by omega
  have hz2 : z ≤ 32 := by rcases this with rfl | rfl | rfl | rfl | rfl | rfl | rfl | rfl <;> (rw [c _ (by omega)] at hz; simp at hz; omega)
  have ho : ofV z = (i : Int) := by
    have e1 := c i hi
    rw [e1] at hz
    have e2 : i = 0 ∨ ([2, 4, 6, 8, 12, 16, 20, 32] : List Int).getD (i - 1) 0 < z := by
      by_cases h0 : i = 0
      · exact .inl h0
      · right
        rw [← c (i - 1) (by omega)]
        exact hl (i - 1) (by omega)
    rcases this with rfl | rfl | rfl | rfl | rfl | rfl | rfl | rfl <;> simp at hz e2 <;> unfold ofV <;> (repeat' split) <;> omega
  unfold clsT
  rw [if_pos hz2, ho]
  rcases this with rfl | rfl | rfl | rfl | rfl | rfl | rfl | rfl <;> rfl
set_option maxRecDepth 100000 in
set_option maxHeartbeats 4000000 in
theorem classOf_any {w : World} (hT : Tab w) (z : Int) (z1 : 1 ≤ z) (z2 : z ≤ 1024) {c rm bl : Int} (hcl : clsT z = (c, rm, bl)) :
    Calls Tryd.prog 13 #[.int .i64 z] w fun e w' => e = .returned (.tuple #[.int .i64 c, .int .i64 rm, .int .i64 bl]) ∧ Out 0 0 w w' := by
  have HCL := hid_mk hcl
  clear hcl
  clear hT
  go_enter Tryd.func13, Tryd.ntmps13
  go_wp2_with fail
  obtain ⟨W1, hW1⟩ : ∃ W1, w.alloc (.cells #[.int .i64 2, .int .i64 4, .int .i64 6, .int .i64 8, .int .i64 12, .int .i64 16, .int .i64 20, .int .i64 32] 3) = W1 := ⟨_, rfl⟩
  obtain ⟨G, hG⟩ : ∃ G, w.heap.size = G := ⟨_, rfl⟩
  have HO1 : Hid (Out 0 0 w W1) := by rw [← hW1]; exact (Out.refl 0 0 w).alloc _
  have HB1 : Hid (W1.heap[G]? = some (.cells #[.int .i64 2, .int .i64 4, .int .i64 6, .int .i64 8, .int .i64 12, .int .i64 16, .int .i64 20, .int .i64 32] 3 (0, 0))) := by rw [← hW1, ← hG]; exact heap_alloc_new _ _
  rw [hW1, hG]
  clear hW1 hG
  have HZ := hid_mk (And.intro z1 z2)
  go_loopw [6] (fun u wr => ∃ i : Nat, u = .int .i64 (i : Int) ∧ i ≤ 8 ∧ wr = W1 ∧ ∀ j : Nat, j < i → wordsV (j : Int) < z) (fun u _ => (8 - intOf u).toNat)
  case atStart => exact ⟨0, rfl, by omega, rfl, fun j hj => by omega⟩
  case round =>
    obtain ⟨i, rfl, i8, rfl, hl⟩ := hrel
    have HLs := hid_mk hl
    clear hl
    by_cases hlt : i < 8
    · have k0 : (0 : Int) ≤ (i : Int) := by omega
      have k1 : (i : Int) < 8 := by omega
      have c0 := cls_at HB1.out hlt
      by_cases hz : z ≤ wordsV (i : Int)
      · have HE := hid_mk (of_least hlt HZ.out.1 hz HLs.out)
        have hz' : decide (z ≤ wordsV (i : Int)) = true := by simp [hz]
        have hi : i = 0 ∨ i = 1 ∨ i = 2 ∨ i = 3 ∨ i = 4 ∨ i = 5 ∨ i = 6 ∨ i = 7 := by omega
        obtain ⟨x, hx⟩ : ∃ x, wordsV (i : Int) = x := ⟨_, rfl⟩
        rw [hx] at hz hz' c0
        have x0 : (0 : Int) < x := by rcases hi with rfl | rfl | rfl | rfl | rfl | rfl | rfl | rfl <;> (rw [← hx]; decide)
        rw [HCL.out, hx] at HE
        clear hi hx HLs HCL
        go_wp2_with fail
        go_region_with fail
        all_goals (try go_wp2)
        all_goals
          (try simp only [Act.put, List.getElem_toArray, List.getElem_cons_zero, List.getElem_cons_succ, List.setIfInBounds_toArray, List.set_cons_zero, List.set_cons_succ])
          obtain ⟨rfl, rfl, rfl⟩ : c = (i : Int) ∧ rm = x ∧ bl = 64 / x := by simpa using HE.out
          go_ret3
          exact ⟨rfl, by first | exact HO1.out | exact HO1.out.drew⟩
      · have hz' : decide (z ≤ wordsV (i : Int)) = false := by simp [hz]
        have hz2 : wordsV (i : Int) < z := by omega
        obtain ⟨x, hx⟩ : ∃ x, wordsV (i : Int) = x := ⟨_, rfl⟩
        have HX := hid_mk hx
        rw [hx] at hz hz' c0 hz2
        clear hx hz
        go_wp2
        go_roundw
        case rel =>
          refine ⟨i + 1, by go_num, by omega, trivial, fun j hj => ?_⟩
          by_cases e : j = i
          · rw [e, HX.out]; exact hz2
          · exact HLs.out j (by omega)
        case measure => simp [intOf]; omega
    · have e : i = 8 := by omega
      subst e
      have h7' := HLs.out 7 (by omega)
      have h7 : (32 : Int) < z := h7'
      have HE : Hid ((c, rm, bl) = (8, (z + 63) / 64 * 64, 0)) := by
        have := HCL.out
        unfold clsT at this
        rw [if_neg (by omega)] at this
        exact this.symm
      clear hlt i8 HLs HCL h7'
      go_wp2
      obtain ⟨rfl, rfl, rfl⟩ : c = 8 ∧ rm = (z + 63) / 64 * 64 ∧ bl = 0 := by simpa using HE.out
      go_ret3
      exact ⟨rfl, HO1.out⟩
/-- a space of one page, two pairs in it -/
theorem alive_1 : (alF 1 newSp 1 3 0).1 = 0 ∧ (alF 1 newSp 1 3 0).2.1 = 0 ∧ (alF 1 newSp 1 3 0).2.2.1 = 0 := by decide +kernel
theorem alive_2 : (alF 1 (alF 1 newSp 1 3 0).2.2.2 1 3 0).1 = 4 ∧ (alF 1 (alF 1 newSp 1 3 0).2.2.2 1 3 0).2.1 = 0 ∧ (alF 1 (alF 1 newSp 1 3 0).2.2.2 1 3 0).2.2.1 = 0 := by decide +kernel
theorem alive_3 : peekV 1 (alF 1 (alF 1 newSp 1 3 0).2.2.2 1 3 0).2.2.2.W 8 = 100 := by decide +kernel
theorem alive_sp : ∃ st1 st2, alF 1 newSp 1 3 0 = (0, 0, 0, st1) ∧ alF 1 st1 1 3 0 = (4, 0, 0, st2) ∧ peekV 1 st2.W 8 = 100 := by
  obtain ⟨a1, a2, a3⟩ := alive_1
  obtain ⟨b1, b2, b3⟩ := alive_2
  exact ⟨_, _, Prod.ext a1 (Prod.ext a2 (Prod.ext a3 rfl)), Prod.ext b1 (Prod.ext b2 (Prod.ext b3 rfl)), alive_3⟩
/-- Alloc, by what it gives -/
theorem alloc_is {w : World} {lo hi n cap : Nat} {s : Nat → Nat} {st st' : Sp} (h : SpAt w lo hi s n cap st) {k z t v e1 e2 : Int} (z1 : -9223372036854775808 ≤ z) (z2 : z ≤ 9223372036854775807) (hl : st.last < 4611686018427387904) (ha : alF n st k z t = (v, e1, e2, st')) :
    Calls Tryd.prog 20 #[.pointer (some ⟨s 14, 0, none⟩), .int .i64 k, .int .i64 z, .int .i64 t] w fun e w' => e = .returned (.tuple #[.int .i64 v, .agg #[.int .i64 e1, .int .i64 e2]]) ∧ SpAt w' lo hi s n cap st' ∧ Out lo hi w w' := by
  have := alloc_any h k z t z1 z2 hl
  rw [ha] at this
  exact this
set_option maxRecDepth 100000 in
set_option maxHeartbeats 4000000 in
theorem alive_any {w : World} (hT : Tab w) : Calls Tryd.prog 8 #[] w fun e w' => e = .returned (.bool true) ∧ Out 0 0 w w' := by
  obtain ⟨st1, st2, h1, h2, h3⟩ := alive_sp
  have HN := hid_mk (spNew_any hT 1 (Nat.le_refl 1) (by omega))
  rw [show ((1 : Nat) : Int) = 1 from rfl] at HN
  have H1 := hid_mk h1
  have H2 := hid_mk h2
  have H3 := hid_mk h3
  have hl1 : Hid (st1.last < 4611686018427387904) := by
    have e : (alF 1 newSp 1 3 0).2.2.2.last = 1 := by decide +kernel
    rw [h1] at e
    show st1.last < _
    have : st1.last = 1 := e
    omega
  clear hT h1 h2 h3
  go_enter Tryd.func8, Tryd.ntmps8
  go_wp2_with fail
  refine HN.out.mono ?_
  rintro e w1 ⟨s, cap, rfl, hs, ho⟩
  have HA1 := hid_mk (alloc_is hs (by decide) (by decide) (by decide) H1.out)
  have HO1 := hid_mk ho
  obtain ⟨lo, hlo⟩ : ∃ lo, w.heap.size = lo := ⟨_, rfl⟩
  obtain ⟨hi, hhi⟩ : ∃ hi, w1.heap.size = hi := ⟨_, rfl⟩
  have HLo := hid_mk (Nat.le_of_eq hlo)
  rw [hlo, hhi] at HA1
  clear HN hs ho hlo hhi
  go_wp2_with fail
  refine HA1.out.mono ?_
  rintro e w2 ⟨rfl, hs2, ho2⟩
  have HO2 := hid_mk (HO1.out.past ho2 HLo.out)
  have hA := (Out.refl 0 0 w2).alloc (.cells #[.int .i64 0, .int .i64 0] 57)
  have HA2 := hid_mk (alloc_is (hs2.quiet hA) (by decide) (by decide) hl1.out H2.out)
  have HF2 := hid_mk (heap_alloc_new w2 (.cells #[.int .i64 0, .int .i64 0] 57))
  have HZ2 : Hid (hi ≤ w2.heap.size) := hs2.1.top
  clear HA1 hs2 ho2 hA
  go_wp2_with fail
  refine HA2.out.mono ?_
  rintro e w3 ⟨rfl, hs3, ho3⟩
  have HO3 : Hid (Out 0 0 w w3) := (HO2.out.alloc _).past ho3 HLo.out
  have HF3 := hid_mk (ho3.heap HF2.out (.inr HZ2.out))
  have hA := (Out.refl 0 0 w3).alloc (.cells #[.int .i64 0, .int .i64 0] 57)
  have HP := hid_mk (peek_any (hs3.quiet hA).1 8)
  rw [show peekV 1 (rawOf 1 st2).W 8 = 100 from H3.out, show inB (64 * 1) 8 = true from by decide] at HP
  obtain ⟨q0, q1, q2, q3⟩ := flt_facts (hA.heap HF3.out (.inr (Nat.zero_le _)))
  obtain ⟨p0, p1, p2, p3⟩ := flt_facts (heap_alloc_new w3 (.cells #[.int .i64 0, .int .i64 0] 57))
  clear HA2 hs3 ho3 hA
  go_wp2_with (go_at_call 22; refine calls_same HP.out ?_)
  go_ret
  exact ⟨rfl, HO3.out.alloc _⟩
theorem wrap_small {x : Int} (h1 : 0 ≤ x) (h2 : x ≤ 1000) : IntKind.i64.wrap x = x := by
  simp [IntKind.wrap, IntKind.signed, IntKind.bits]
  omega
/-- the law's world: pages, space, objects, the last serial -/
def WAt (w : World) (b N q : Nat) (v : Value) (last : Int) : Prop := w.heap[b]? = some (.cells #[.int .i64 (N : Int), .pointer (some ⟨q, 0, none⟩), v, .int .i64 last] 33 (0, 0))
theorem WAt.cells {w : World} {b N q : Nat} {v : Value} {last : Int} (h : WAt w b N q v last) : w.cell? ⟨b, 0, none⟩ = some (.int .i64 (N : Int)) ∧ w.cell? ⟨b, 1, none⟩ = some (.pointer (some ⟨q, 0, none⟩)) ∧ w.cell? ⟨b, 2, none⟩ = some v ∧ w.cell? ⟨b, 3, none⟩ = some (.int .i64 last) ∧ ∀ i, w.frozen? ⟨b, i, none⟩ = false := by
  refine ⟨?_, ?_, ?_, ?_, fun i => ?_⟩ <;> simp [World.cell?, World.frozen?, show w.heap[b]? = _ from h]
theorem WAt.kept {w w' : World} {b N q x y : Nat} {v : Value} {last : Int} (h : WAt w b N q v last) (o : Out x y w w') (hd : b < x ∨ y ≤ b) : WAt w' b N q v last := o.heap h hd
theorem WAt.lt {w : World} {b N q : Nat} {v : Value} {last : Int} (h : WAt w b N q v last) : b < w.heap.size := heap_lt h
theorem WAt.setV {w : World} {b N q : Nat} {v : Value} {last : Int} (h : WAt w b N q v last) (v' : Value) : WAt (w.setCell ⟨b, 2, none⟩ v') b N q v' last := by
  unfold WAt at *
  simp [World.setCell, Array.getElem?_modify, h]
theorem WAt.setL {w : World} {b N q : Nat} {v : Value} {last : Int} (h : WAt w b N q v last) (l : Int) : WAt (w.setCell ⟨b, 3, none⟩ (.int .i64 l)) b N q v l := by
  unfold WAt at *
  simp [World.setCell, Array.getElem?_modify, h]
set_option maxRecDepth 100000 in
set_option maxHeartbeats 4000000 in
theorem begun_any {w : World} (hT : Tab w) (n0 : Int) (h1 : -9223372036854775808 ≤ n0) (h2 : n0 ≤ 9223372036854775807) {N : Nat} (hN : 1 + wth n0 12 = (N : Int)) :
    Calls Tryd.prog 7 #[.int .i64 n0] w fun e w' => ∃ b lo hi s cap, e = .returned (.pointer (some ⟨b, 0, none⟩)) ∧ WAt w' b N (s 14) (.slice none 0 0) 0 ∧ SpAt w' lo hi s N cap newSp ∧ w.heap.size ≤ b ∧ b < lo ∧ Out 0 0 w w' := by
  have HW1 := hid_mk (within_any n0 12 w h1 h2 (by decide) (by decide))
  obtain ⟨m, hm, hm2⟩ := wth_nat n0 12 (by decide)
  rw [hm] at HW1 hN
  have HT := hid_mk hT
  have HNb : Hid (1 ≤ N ∧ N ≤ 12) := by show _ ∧ _; omega
  have n5 : (1 : Int) ≤ (N : Int) := by omega
  have n6 : (N : Int) ≤ 12 := by omega
  have HNw := hid_mk (fun w' (hT : Tab w') => spNew_any hT N HNb.out.1 (by have := HNb.out.2; omega))
  clear hT h1 h2 hm hm2
  go_enter Tryd.func7, Tryd.ntmps7
  go_wp2_with (go_at_call 18; refine calls_same HW1.out ?_)
  obtain ⟨W1, hW1⟩ : ∃ W1, w.alloc (.cells #[.int .i64 (N : Int), .pointer none, .slice none 0 0, .int .i64 0] 33) = W1 := ⟨_, rfl⟩
  obtain ⟨b, hb⟩ : ∃ b, w.heap.size = b := ⟨_, rfl⟩
  have HO1 : Hid (Out 0 0 w W1) := by rw [← hW1]; exact (Out.refl 0 0 w).alloc _
  have HB1 : Hid (W1.heap[b]? = some (.cells #[.int .i64 (N : Int), .pointer none, .slice none 0 0, .int .i64 0] 33 (0, 0))) := by rw [← hW1, ← hb]; exact heap_alloc_new _ _
  have HS1 : Hid (W1.heap.size = b + 1) := by rw [← hW1, ← hb]; exact World.size_alloc _ _
  rw [hW1, hb]
  have HBw := hid_mk hb
  clear hW1 hb
  refine (HNw.out _ (HT.out.quiet HO1.out)).mono ?_
  rintro e w1 ⟨s, cap, rfl, hs, ho⟩
  have hB1 := ho.heap HB1.out (.inr (Nat.zero_le _))
  have c0 : w1.cell? ⟨b, 0, none⟩ = some (.int .i64 (N : Int)) := by simp [World.cell?, hB1]
  have HC1 := hid_mk hB1
  have HSp := hid_mk hs
  have HO2 := hid_mk (HO1.out.trans ho)
  have HWo := hid_mk (spWords_any (hs.quiet ((Out.refl 0 0 w1).drew)).1)
  have e64 : ((64 * N : Nat) : Int) = 64 * (N : Int) := by omega
  rw [e64] at HWo
  have hwr : IntKind.i64.wrap (64 * (N : Int)) = 64 * (N : Int) := wrap_small (by omega) (by omega)
  have hne : ((64 * (N : Int)) != 64 * (N : Int)) = false := by simp
  clear hs ho hB1 HNw HW1 e64 hN
  go_wp2_with fail
  refine wp_region_held_drew (S := fun w' => w'.cell? ⟨b, 0, none⟩ = some (.int .i64 (N : Int))) (by kernel_rfl) ?hS1 (fun hHeld => ?rest1)
  case hS1 => exact c0
  refine wpAnyH_take (i := 0) (v := ?v2) rfl (by kernel_rfl) (by kernel_rfl) (by kernel_rfl) (fun _ _ _ h => h) (Or.inl ⟨by rfl, ?hy2⟩) (by assumption) ?rest2
  case hy2 => (intro w hSw; (try dsimp only at hSw); simp only [List.getElem_toArray, List.getElem_cons_zero, List.getElem_cons_succ]; go_simp; (try with_reducible rfl))
  (try simp only [Act.put, List.getElem_toArray, List.getElem_cons_zero, List.getElem_cons_succ, List.setIfInBounds_toArray, List.set_cons_zero, List.set_cons_succ])
  refine wpAnyH_take (i := 1) (v := ?v3) rfl (by kernel_rfl) (by kernel_rfl) (by kernel_rfl) (fun _ _ _ h => h) (Or.inl ⟨by rfl, ?hy3⟩) (by assumption) ?rest3
  case hy3 => (intro w hSw; (try dsimp only at hSw); simp only [List.getElem_toArray, List.getElem_cons_zero, List.getElem_cons_succ]; go_simp; (try with_reducible rfl))
  (try simp only [Act.put, List.getElem_toArray, List.getElem_cons_zero, List.getElem_cons_succ, List.setIfInBounds_toArray, List.set_cons_zero, List.set_cons_succ])
  refine wpAnyH_take (i := 2) (v := ?v4) rfl (by kernel_rfl) (by kernel_rfl) (by kernel_rfl) (fun _ _ _ h => h) (Or.inl ⟨by rfl, ?hy4⟩) (by assumption) ?rest4
  case hy4 => (intro w hSw; (try dsimp only at hSw); simp only [List.getElem_toArray, List.getElem_cons_zero, List.getElem_cons_succ]; go_simp; (try with_reducible rfl))
  (try simp only [Act.put, List.getElem_toArray, List.getElem_cons_zero, List.getElem_cons_succ, List.setIfInBounds_toArray, List.set_cons_zero, List.set_cons_succ])
  refine wpAnyH_take (i := 3) (v := ?v5) rfl (by kernel_rfl) (by kernel_rfl) (by kernel_rfl) (fun _ _ _ h => h) (Or.inl ⟨by rfl, ?hy5⟩) (by assumption) ?rest5
  case hy5 => (intro w hSw; (try dsimp only at hSw); simp only [List.getElem_toArray, List.getElem_cons_zero, List.getElem_cons_succ]; go_simp; (try with_reducible rfl))
  (try simp only [Act.put, List.getElem_toArray, List.getElem_cons_zero, List.getElem_cons_succ, List.setIfInBounds_toArray, List.set_cons_zero, List.set_cons_succ])
  refine wpAnyH_take (i := 4) (v := ?v6) rfl (by kernel_rfl) (by kernel_rfl) (by kernel_rfl) (fun _ _ _ h => h) (Or.inl ⟨by rfl, ?hy6⟩) (by assumption) ?rest6
  case hy6 => (intro w hSw; (try dsimp only at hSw); simp only [List.getElem_toArray, List.getElem_cons_zero, List.getElem_cons_succ]; go_simp; (try with_reducible rfl))
  (try simp only [Act.put, List.getElem_toArray, List.getElem_cons_zero, List.getElem_cons_succ, List.setIfInBounds_toArray, List.set_cons_zero, List.set_cons_succ])
  refine wpAnyH_take (i := 5) (v := ?v7) rfl (by kernel_rfl) (by kernel_rfl) (by kernel_rfl) (fun _ _ _ h => h) (Or.inl ⟨by rfl, ?hy7⟩) (by assumption) ?rest7
  case hy7 => (intro w hSw; (try dsimp only at hSw); simp only [List.getElem_toArray, List.getElem_cons_zero, List.getElem_cons_succ]; go_simp; (try with_reducible rfl))
  (try simp only [Act.put, List.getElem_toArray, List.getElem_cons_zero, List.getElem_cons_succ, List.setIfInBounds_toArray, List.set_cons_zero, List.set_cons_succ])
  refine wpAnyH_take (i := 6) (v := ?v8) rfl (by kernel_rfl) (by kernel_rfl) (by kernel_rfl) (fun _ _ _ h => h) (Or.inl ⟨by rfl, ?hy8⟩) (by assumption) ?rest8
  case hy8 => (intro w hSw; (try dsimp only at hSw); simp only [List.getElem_toArray, List.getElem_cons_zero, List.getElem_cons_succ]; go_simp; (try with_reducible rfl))
  (try simp only [Act.put, List.getElem_toArray, List.getElem_cons_zero, List.getElem_cons_succ, List.setIfInBounds_toArray, List.set_cons_zero, List.set_cons_succ])
  refine wpAnyH_take (i := 7) (v := ?v9) rfl (by kernel_rfl) (by kernel_rfl) (by kernel_rfl) (fun _ _ _ h => h) (Or.inl ⟨by rfl, ?hy9⟩) (by assumption) ?rest9
  case hy9 => (intro w hSw; (try dsimp only at hSw); simp only [List.getElem_toArray, List.getElem_cons_zero, List.getElem_cons_succ]; go_simp; (try with_reducible rfl))
  (try simp only [Act.put, List.getElem_toArray, List.getElem_cons_zero, List.getElem_cons_succ, List.setIfInBounds_toArray, List.set_cons_zero, List.set_cons_succ])
  refine wpAnyH_take (i := 9) (v := ?v10) rfl (by kernel_rfl) (by kernel_rfl) (by kernel_rfl) (fun _ _ _ h => h) (Or.inl ⟨by rfl, ?hy10⟩) (by assumption) ?rest10
  case hy10 => (intro w hSw; (try dsimp only at hSw); simp only [List.getElem_toArray, List.getElem_cons_zero, List.getElem_cons_succ]; go_simp; (try with_reducible rfl))
  (try simp only [Act.put, List.getElem_toArray, List.getElem_cons_zero, List.getElem_cons_succ, List.setIfInBounds_toArray, List.set_cons_zero, List.set_cons_succ])
  refine wpAnyH_take (i := 10) (v := ?v11) rfl (by kernel_rfl) (by kernel_rfl) (by kernel_rfl) (fun _ _ _ h => h) (Or.inl ⟨by rfl, ?hy11⟩) (by assumption) ?rest11
  case hy11 => (intro w hSw; (try dsimp only at hSw); simp only [List.getElem_toArray, List.getElem_cons_zero, List.getElem_cons_succ]; go_simp; (try with_reducible rfl))
  (try simp only [Act.put, List.getElem_toArray, List.getElem_cons_zero, List.getElem_cons_succ, List.setIfInBounds_toArray, List.set_cons_zero, List.set_cons_succ])
  refine wpAnyH_take (i := 11) (v := ?v12) rfl (by kernel_rfl) (by kernel_rfl) (by kernel_rfl) (fun _ _ _ h => h) (Or.inl ⟨by rfl, ?hy12⟩) (by assumption) ?rest12
  case hy12 => (intro w hSw; (try dsimp only at hSw); simp only [List.getElem_toArray, List.getElem_cons_zero, List.getElem_cons_succ]; go_simp; (try with_reducible rfl))
  (try simp only [Act.put, List.getElem_toArray, List.getElem_cons_zero, List.getElem_cons_succ, List.setIfInBounds_toArray, List.set_cons_zero, List.set_cons_succ])
  refine wpAnyH_take (i := 12) (v := ?v13) rfl (by kernel_rfl) (by kernel_rfl) (by kernel_rfl) (fun _ _ _ h => h) (Or.inl ⟨by rfl, ?hy13⟩) (by assumption) ?rest13
  case hy13 => (intro w hSw; (try dsimp only at hSw); simp only [List.getElem_toArray, List.getElem_cons_zero, List.getElem_cons_succ]; go_simp; (try with_reducible rfl))
  (try simp only [Act.put, List.getElem_toArray, List.getElem_cons_zero, List.getElem_cons_succ, List.setIfInBounds_toArray, List.set_cons_zero, List.set_cons_succ])
  refine wpAnyH_take (i := 13) (v := ?v14) rfl (by kernel_rfl) (by kernel_rfl) (by kernel_rfl) (fun _ _ _ h => h) (Or.inl ⟨by rfl, ?hy14⟩) (by assumption) ?rest14
  case hy14 => (intro w hSw; (try dsimp only at hSw); simp only [List.getElem_toArray, List.getElem_cons_zero, List.getElem_cons_succ]; go_simp; (try with_reducible rfl))
  (try simp only [Act.put, List.getElem_toArray, List.getElem_cons_zero, List.getElem_cons_succ, List.setIfInBounds_toArray, List.set_cons_zero, List.set_cons_succ])
  refine wpAnyH_ready (rs := [8]) (by kernel_rfl) (by simp) ?_
  refine AllReadyH.cons rfl (fun KK hK => ?_) AllReadyH.nil
  simp only [List.getElem_toArray, List.getElem_cons_zero, List.getElem_cons_succ]
  go_simp
  refine (HWo.out).mono ?_
  rintro e w5 ⟨rfl, he⟩
  rw [he]
  clear he w5
  refine hK.out _ _ ?hS15 (fun hHeld2 => ?rest15)
  case hS15 => exact hHeld
  clear hK KK
  (try clear hHeld)
  have hHeld := hHeld2
  clear hHeld2
  (try simp only [Act.put, List.getElem_toArray, List.getElem_cons_zero, List.getElem_cons_succ, List.setIfInBounds_toArray, List.set_cons_zero, List.set_cons_succ])
  refine wpAnyH_take (i := 14) (v := ?v16) rfl (by kernel_rfl) (by kernel_rfl) (by kernel_rfl) (fun _ _ _ h => h) (Or.inl ⟨by rfl, ?hy16⟩) (by assumption) ?rest16
  case hy16 => (intro w hSw; (try dsimp only at hSw); simp only [List.getElem_toArray, List.getElem_cons_zero, List.getElem_cons_succ]; go_simp; (try with_reducible rfl))
  (try simp only [Act.put, List.getElem_toArray, List.getElem_cons_zero, List.getElem_cons_succ, List.setIfInBounds_toArray, List.set_cons_zero, List.set_cons_succ])
  refine wpAnyH_take (i := 15) (v := ?v17) rfl (by kernel_rfl) (by kernel_rfl) (by kernel_rfl) (fun _ _ _ h => h) (Or.inl ⟨by rfl, ?hy17⟩) (by assumption) ?rest17
  case hy17 => (intro w hSw; (try dsimp only at hSw); simp only [List.getElem_toArray, List.getElem_cons_zero, List.getElem_cons_succ]; go_simp; (try with_reducible rfl))
  (try simp only [Act.put, List.getElem_toArray, List.getElem_cons_zero, List.getElem_cons_succ, List.setIfInBounds_toArray, List.set_cons_zero, List.set_cons_succ])
  refine wpAnyH_done (by kernel_rfl) ?_ _
  clear hHeld
  have hC2 := ((Out.refl 0 0 w1).drew).heap HC1.out (.inr (Nat.zero_le _))
  have c1 : w1.drew.cell? ⟨b, 1, none⟩ = some (.pointer none) := by simp only [World.cell?, hC2]; rfl
  have c2 : w1.drew.frozen? ⟨b, 1, none⟩ = false := by simp only [World.frozen?, hC2]; rfl
  have HC2 := hid_mk hC2
  clear hC2
  go_wp2
  go_ret
  have o3 : Out b (b + 1) w1 (w1.setCell ⟨b, 1, none⟩ (.pointer (some ⟨s 14, 0, none⟩))).drew := ((Out.refl _ _ _).setCell (p := ⟨b, 1, none⟩) (.inl ⟨Nat.le_refl _, Nat.lt_succ_self _⟩) _).drew
  have hbw := HBw.out
  have hs1 := HS1.out
  have hT := HT.out.lt
  refine ⟨b, W1.heap.size, w1.heap.size, s, cap, rfl, ?_, HSp.out.kept o3 (.inr (by omega)) (.inl (by omega)), by omega, by omega, HO2.out.past o3 (by omega)⟩
  have hh : (w1.setCell ⟨b, 1, none⟩ (.pointer (some ⟨s 14, 0, none⟩))).heap[b]? = some (.cells #[.int .i64 (N : Int), .pointer (some ⟨s 14, 0, none⟩), .slice none 0 0, .int .i64 0] 33 (0, 0)) := by
    have := HC1.out
    simp [World.setCell, Array.getElem?_modify, this]
  exact ((Out.refl 0 0 _).drew).heap hh (.inr (Nat.zero_le _))
end Go.Proofs.YtjbbkeoolodeaabDoor
