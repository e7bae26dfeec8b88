import Derived.Test.YtjbbkeoolodeaacDoorMm
import Derived.Test.YtjbbkeoolodeaacDoorMo
namespace Go.Proofs.YtjbbkeoolodeaacDoor
open Go.RowKit
set_option linter.unusedVariables false
set_option linter.unusedSimpArgs false

/-- a number brought to 0 .. n - 1 -/
def wth (x n : Int) : Int := (if x < 0 then -(x + 1) else x) % n
theorem wth_ge (x n : Int) (h : 0 < n) : 0 ≤ wth x n := Int.emod_nonneg _ (by omega)
theorem wth_lt (x n : Int) (h : 0 < n) : wth x n < n := Int.emod_lt_of_pos _ h
theorem wth_nat (x n : Int) (h : 0 < n) : ∃ m : Nat, wth x n = m ∧ (m : Int) < n := ⟨(wth x n).toNat, by have := wth_ge x n h; omega, by have := wth_ge x n h; have := wth_lt x n h; omega⟩
set_option maxHeartbeats 1000000 in
theorem within_any (x n : Int) (w : World) (h1 : -9223372036854775808 ≤ x) (h2 : x ≤ 9223372036854775807) (h3 : 0 < n) (h4 : n ≤ 4096) :
    Calls Tryd.prog 15 #[.int .i64 x, .int .i64 n] w fun e w' => e = .returned (.int .i64 (wth x n)) ∧ w' = w := by
  have hn0 : (n == 0) = false := by rw [beq_eq_false_iff_ne]; omega
  have hn1 : n ≠ 0 := by omega
  by_cases hx : x < 0
  · have HE : Hid ((wrap64 (-wrap64 (x + 1))).tmod n = wth x n) := by
      have e1 : wrap64 (x + 1) = x + 1 := by unfold wrap64; omega
      have e2 : wrap64 (-(x + 1)) = -(x + 1) := by unfold wrap64; omega
      show (wrap64 (-wrap64 (x + 1))).tmod n = wth x n
      rw [e1, e2, Int.tmod_eq_emod_of_nonneg (by omega)]
      unfold wth; rw [if_pos hx]
    clear h2 h4 h1
    go_enter Tryd.func15, Tryd.ntmps15
    go_wp2
    go_ret
    exact ⟨ret_int HE.out, rfl⟩
  · have hx0 : 0 ≤ x := by omega
    have HE : Hid (x.tmod n = wth x n) := by
      show x.tmod n = wth x n
      rw [Int.tmod_eq_emod_of_nonneg hx0]
      unfold wth; rw [if_neg hx]
    have HE2 : Hid (x % n = wth x n) := by
      show x % n = wth x n
      unfold wth; rw [if_neg hx]
    clear h2 h4 h1 hx
    go_enter Tryd.func15, Tryd.ntmps15
    go_wp2
    go_ret
    exact ⟨ret_int (by first | exact HE.out | exact HE2.out), rfl⟩
/-- the class, its words, its blocks -/
def clsT (z : Int) : Int × Int × Int := if z ≤ 32 then (ofV z, ((wN (ofV z) : Nat) : Int), ((64 / wN (ofV z) : Nat) : Int)) else (8, (z + 63) / 64 * 64, 0)
theorem cls_at {w : World} {G : Nat} {T : TypeId} (h : w.heap[G]? = some (.cells #[.int .i64 2, .int .i64 4, .int .i64 6, .int .i64 8, .int .i64 12, .int .i64 16, .int .i64 20, .int .i64 32] T (0, 0))) {i : Nat} (hi : i < 8) : w.cell? ⟨G, i, none⟩ = some (.int .i64 (wordsV (i : Int))) := by
  have : i = 0 ∨ i = 1 ∨ i = 2 ∨ i = 3 ∨ i = 4 ∨ i = 5 ∨ i = 6 ∨ i = 7 := by omega
  rcases this with rfl | rfl | rfl | rfl | rfl | rfl | rfl | rfl <;> (simp [World.cell?, h]; rfl)
theorem of_least {z : Int} {i : Nat} (hi : i < 8) (h1 : 1 ≤ z) (hz : z ≤ wordsV (i : Int)) (hl : ∀ j : Nat, j < i → wordsV (j : Int) < z) : clsT z = ((i : Int), wordsV (i : Int), 64 / wordsV (i : Int)) := by
  have c : ∀ j : Nat, j < 8 → wordsV (j : Int) = ([2, 4, 6, 8, 12, 16, 20, 32] : List Int).getD j 0 := by decide
  have l1 := hl (i - 1)
  have : i = 0 ∨ i = 1 ∨ i = 2 ∨ i = 3 ∨ i = 4 ∨ i = 5 ∨ i = 6 ∨ i = 7 := by omega
  have hz2 : z ≤ 32 := by rcases this with rfl | rfl | rfl | rfl | rfl | rfl | rfl | rfl <;> (rw [c _ (by omega)] at hz; simp at hz; omega)
  have ho : ofV z = (i : Int) := by
    have e1 := c i hi
    rw [e1] at hz
    have e2 : i = 0 ∨ ([2, 4, 6, 8, 12, 16, 20, 32] : List Int).getD (i - 1) 0 < z := by
      by_cases h0 : i = 0
      · exact .inl h0
      · right
        rw [← c (i - 1) (by omega)]
        exact hl (i - 1) (by omega)
    rcases this with rfl | rfl | rfl | rfl | rfl | rfl | rfl | rfl <;> simp at hz e2 <;> unfold ofV <;> (repeat' split) <;> omega
  unfold clsT
  rw [if_pos hz2, ho]
  rcases this with rfl | rfl | rfl | rfl | rfl | rfl | rfl | rfl <;> rfl
set_option maxRecDepth 100000 in
set_option maxHeartbeats 4000000 in
theorem classOf_any {w : World} (hT : Tab w) (z : Int) (z1 : 1 ≤ z) (z2 : z ≤ 1024) {c rm bl : Int} (hcl : clsT z = (c, rm, bl)) :
    Calls Tryd.prog 16 #[.int .i64 z] w fun e w' => e = .returned (.tuple #[.int .i64 c, .int .i64 rm, .int .i64 bl]) ∧ Out 0 0 w w' := by
  have HCL := hid_mk hcl
  clear hcl
  clear hT
  go_enter Tryd.func16, Tryd.ntmps16
  go_wp2_with fail
  obtain ⟨W1, hW1⟩ : ∃ W1, w.alloc (.cells #[.int .i64 2, .int .i64 4, .int .i64 6, .int .i64 8, .int .i64 12, .int .i64 16, .int .i64 20, .int .i64 32] 3) = W1 := ⟨_, rfl⟩
  obtain ⟨G, hG⟩ : ∃ G, w.heap.size = G := ⟨_, rfl⟩
  have HO1 : Hid (Out 0 0 w W1) := by rw [← hW1]; exact (Out.refl 0 0 w).alloc _
  have HB1 : Hid (W1.heap[G]? = some (.cells #[.int .i64 2, .int .i64 4, .int .i64 6, .int .i64 8, .int .i64 12, .int .i64 16, .int .i64 20, .int .i64 32] 3 (0, 0))) := by rw [← hW1, ← hG]; exact heap_alloc_new _ _
  rw [hW1, hG]
  clear hW1 hG
  have HZ := hid_mk (And.intro z1 z2)
  go_loopw [6] (fun u wr => ∃ i : Nat, u = .int .i64 (i : Int) ∧ i ≤ 8 ∧ wr = W1 ∧ ∀ j : Nat, j < i → wordsV (j : Int) < z) (fun u _ => (8 - intOf u).toNat)
  case atStart => exact ⟨0, rfl, by omega, rfl, fun j hj => by omega⟩
  case round =>
    obtain ⟨i, rfl, i8, rfl, hl⟩ := hrel
    have HLs := hid_mk hl
    clear hl
    by_cases hlt : i < 8
    · have k0 : (0 : Int) ≤ (i : Int) := by omega
      have k1 : (i : Int) < 8 := by omega
      have c0 := cls_at HB1.out hlt
      by_cases hz : z ≤ wordsV (i : Int)
      · have HE := hid_mk (of_least hlt HZ.out.1 hz HLs.out)
        have hz' : decide (z ≤ wordsV (i : Int)) = true := by simp [hz]
        have hi : i = 0 ∨ i = 1 ∨ i = 2 ∨ i = 3 ∨ i = 4 ∨ i = 5 ∨ i = 6 ∨ i = 7 := by omega
        obtain ⟨x, hx⟩ : ∃ x, wordsV (i : Int) = x := ⟨_, rfl⟩
        rw [hx] at hz hz' c0
        have x0 : (0 : Int) < x := by rcases hi with rfl | rfl | rfl | rfl | rfl | rfl | rfl | rfl <;> (rw [← hx]; decide)
        rw [HCL.out, hx] at HE
        clear hi hx HLs HCL
        go_wp2_with fail
        go_region_with fail
        all_goals (try go_wp2)
        all_goals
          (try simp only [Act.put, List.getElem_toArray, List.getElem_cons_zero, List.getElem_cons_succ, List.setIfInBounds_toArray, List.set_cons_zero, List.set_cons_succ])
          obtain ⟨rfl, rfl, rfl⟩ : c = (i : Int) ∧ rm = x ∧ bl = 64 / x := by simpa using HE.out
          go_ret3
          exact ⟨rfl, by first | exact HO1.out | exact HO1.out.drew⟩
      · have hz' : decide (z ≤ wordsV (i : Int)) = false := by simp [hz]
        have hz2 : wordsV (i : Int) < z := by omega
        obtain ⟨x, hx⟩ : ∃ x, wordsV (i : Int) = x := ⟨_, rfl⟩
        have HX := hid_mk hx
        rw [hx] at hz hz' c0 hz2
        clear hx hz
        go_wp2
        go_roundw
        case rel =>
          refine ⟨i + 1, by go_num, by omega, trivial, fun j hj => ?_⟩
          by_cases e : j = i
          · rw [e, HX.out]; exact hz2
          · exact HLs.out j (by omega)
        case measure => simp [intOf]; omega
    · have e : i = 8 := by omega
      subst e
      have h7' := HLs.out 7 (by omega)
      have h7 : (32 : Int) < z := h7'
      have HE : Hid ((c, rm, bl) = (8, (z + 63) / 64 * 64, 0)) := by
        have := HCL.out
        unfold clsT at this
        rw [if_neg (by omega)] at this
        exact this.symm
      clear hlt i8 HLs HCL h7'
      go_wp2
      obtain ⟨rfl, rfl, rfl⟩ : c = 8 ∧ rm = (z + 63) / 64 * 64 ∧ bl = 0 := by simpa using HE.out
      go_ret3
      exact ⟨rfl, HO1.out⟩
/-- a space of one page, two pairs in it -/
theorem alive_1 : (alF 1 newSp 1 3 0).1 = 0 ∧ (alF 1 newSp 1 3 0).2.1 = 0 ∧ (alF 1 newSp 1 3 0).2.2.1 = 0 := by decide +kernel
theorem alive_2 : (alF 1 (alF 1 newSp 1 3 0).2.2.2 1 3 0).1 = 4 ∧ (alF 1 (alF 1 newSp 1 3 0).2.2.2 1 3 0).2.1 = 0 ∧ (alF 1 (alF 1 newSp 1 3 0).2.2.2 1 3 0).2.2.1 = 0 := by decide +kernel
theorem alive_3 : peekV 1 (alF 1 (alF 1 newSp 1 3 0).2.2.2 1 3 0).2.2.2.W 8 = 100 := by decide +kernel
theorem alive_sp : ∃ st1 st2, alF 1 newSp 1 3 0 = (0, 0, 0, st1) ∧ alF 1 st1 1 3 0 = (4, 0, 0, st2) ∧ peekV 1 st2.W 8 = 100 := by
  obtain ⟨a1, a2, a3⟩ := alive_1
  obtain ⟨b1, b2, b3⟩ := alive_2
  exact ⟨_, _, Prod.ext a1 (Prod.ext a2 (Prod.ext a3 rfl)), Prod.ext b1 (Prod.ext b2 (Prod.ext b3 rfl)), alive_3⟩
/-- Alloc, by what it gives -/
theorem alloc_is {w : World} {lo hi n cap : Nat} {s : Nat → Nat} {st st' : Sp} (h : SpAt w lo hi s n cap st) {k z t v e1 e2 : Int} (z1 : -9223372036854775808 ≤ z) (z2 : z ≤ 9223372036854775807) (hl : st.last < 4611686018427387904) (ha : alF n st k z t = (v, e1, e2, st')) :
    Calls Tryd.prog 14 #[.pointer (some ⟨s 14, 0, none⟩), .int .i64 k, .int .i64 z, .int .i64 t] w fun e w' => e = .returned (.tuple #[.int .i64 v, .agg #[.int .i64 e1, .int .i64 e2]]) ∧ SpAt w' lo hi s n cap st' ∧ Out lo hi w w' := by
  have := alloc_any h k z t z1 z2 hl
  rw [ha] at this
  exact this
set_option maxRecDepth 100000 in
set_option maxHeartbeats 4000000 in
theorem alive_any {w : World} (hT : Tab w) : Calls Tryd.prog 6 #[] w fun e w' => e = .returned (.bool true) ∧ Out 0 0 w w' := by
  obtain ⟨st1, st2, h1, h2, h3⟩ := alive_sp
  have HN := hid_mk (spNew_any hT 1 (Nat.le_refl 1) (by omega))
  rw [show ((1 : Nat) : Int) = 1 from rfl] at HN
  have H1 := hid_mk h1
  have H2 := hid_mk h2
  have H3 := hid_mk h3
  have hl1 : Hid (st1.last < 4611686018427387904) := by
    have e : (alF 1 newSp 1 3 0).2.2.2.last = 1 := by decide +kernel
    rw [h1] at e
    show st1.last < _
    have : st1.last = 1 := e
    omega
  clear hT h1 h2 h3
  go_enter Tryd.func6, Tryd.ntmps6
  go_wp2_with fail
  refine HN.out.mono ?_
  rintro e w1 ⟨s, cap, rfl, hs, ho⟩
  have HA1 := hid_mk (alloc_is hs (by decide) (by decide) (by decide) H1.out)
  have HO1 := hid_mk ho
  obtain ⟨lo, hlo⟩ : ∃ lo, w.heap.size = lo := ⟨_, rfl⟩
  obtain ⟨hi, hhi⟩ : ∃ hi, w1.heap.size = hi := ⟨_, rfl⟩
  have HLo := hid_mk (Nat.le_of_eq hlo)
  rw [hlo, hhi] at HA1
  clear HN hs ho hlo hhi
  go_wp2_with fail
  refine HA1.out.mono ?_
  rintro e w2 ⟨rfl, hs2, ho2⟩
  have HO2 := hid_mk (HO1.out.past ho2 HLo.out)
  have hA := (Out.refl 0 0 w2).alloc (.cells #[.int .i64 0, .int .i64 0] 43)
  have HA2 := hid_mk (alloc_is (hs2.quiet hA) (by decide) (by decide) hl1.out H2.out)
  have HF2 := hid_mk (heap_alloc_new w2 (.cells #[.int .i64 0, .int .i64 0] 43))
  have HZ2 : Hid (hi ≤ w2.heap.size) := hs2.1.top
  clear HA1 hs2 ho2 hA
  go_wp2_with fail
  refine HA2.out.mono ?_
  rintro e w3 ⟨rfl, hs3, ho3⟩
  have HO3 : Hid (Out 0 0 w w3) := (HO2.out.alloc _).past ho3 HLo.out
  have HF3 := hid_mk (ho3.heap HF2.out (.inr HZ2.out))
  have hA := (Out.refl 0 0 w3).alloc (.cells #[.int .i64 0, .int .i64 0] 43)
  have HP := hid_mk (peek_any (hs3.quiet hA).1 8)
  rw [show peekV 1 (rawOf 1 st2).W 8 = 100 from H3.out, show inB (64 * 1) 8 = true from by decide] at HP
  obtain ⟨q0, q1, q2, q3⟩ := flt_facts (hA.heap HF3.out (.inr (Nat.zero_le _)))
  obtain ⟨p0, p1, p2, p3⟩ := flt_facts (heap_alloc_new w3 (.cells #[.int .i64 0, .int .i64 0] 43))
  clear HA2 hs3 ho3 hA
  go_wp2_with (go_at_call 20; refine calls_same HP.out ?_)
  go_ret
  exact ⟨rfl, HO3.out.alloc _⟩
theorem wrap_small {x : Int} (h1 : 0 ≤ x) (h2 : x ≤ 1000) : IntKind.i64.wrap x = x := by
  simp [IntKind.wrap, IntKind.signed, IntKind.bits]
  omega
/-- the law's world: pages, space, objects, the last serial -/
def WAt (w : World) (b N q : Nat) (v : Value) (last : Int) : Prop := w.heap[b]? = some (.cells #[.int .i64 (N : Int), .pointer (some ⟨q, 0, none⟩), v, .int .i64 last] 35 (0, 0))
theorem WAt.cells {w : World} {b N q : Nat} {v : Value} {last : Int} (h : WAt w b N q v last) : w.cell? ⟨b, 0, none⟩ = some (.int .i64 (N : Int)) ∧ w.cell? ⟨b, 1, none⟩ = some (.pointer (some ⟨q, 0, none⟩)) ∧ w.cell? ⟨b, 2, none⟩ = some v ∧ w.cell? ⟨b, 3, none⟩ = some (.int .i64 last) ∧ ∀ i, w.frozen? ⟨b, i, none⟩ = false := by
  refine ⟨?_, ?_, ?_, ?_, fun i => ?_⟩ <;> simp [World.cell?, World.frozen?, show w.heap[b]? = _ from h]
theorem WAt.kept {w w' : World} {b N q x y : Nat} {v : Value} {last : Int} (h : WAt w b N q v last) (o : Out x y w w') (hd : b < x ∨ y ≤ b) : WAt w' b N q v last := o.heap h hd
theorem WAt.lt {w : World} {b N q : Nat} {v : Value} {last : Int} (h : WAt w b N q v last) : b < w.heap.size := heap_lt h
theorem WAt.setV {w : World} {b N q : Nat} {v : Value} {last : Int} (h : WAt w b N q v last) (v' : Value) : WAt (w.setCell ⟨b, 2, none⟩ v') b N q v' last := by
  unfold WAt at *
  simp [World.setCell, Array.getElem?_modify, h]
theorem WAt.setL {w : World} {b N q : Nat} {v : Value} {last : Int} (h : WAt w b N q v last) (l : Int) : WAt (w.setCell ⟨b, 3, none⟩ (.int .i64 l)) b N q v l := by
  unfold WAt at *
  simp [World.setCell, Array.getElem?_modify, h]
set_option maxRecDepth 100000 in
set_option maxHeartbeats 4000000 in
theorem begun_any {w : World} (hT : Tab w) (n0 : Int) (h1 : -9223372036854775808 ≤ n0) (h2 : n0 ≤ 9223372036854775807) {N : Nat} (hN : 1 + wth n0 12 = (N : Int)) :
    Calls Tryd.prog 7 #[.int .i64 n0] w fun e w' => ∃ b lo hi s cap, e = .returned (.pointer (some ⟨b, 0, none⟩)) ∧ WAt w' b N (s 14) (.slice none 0 0) 0 ∧ SpAt w' lo hi s N cap newSp ∧ w.heap.size ≤ b ∧ b < lo ∧ Out 0 0 w w' := by
  have HW1 := hid_mk (within_any n0 12 w h1 h2 (by decide) (by decide))
  obtain ⟨m, hm, hm2⟩ := wth_nat n0 12 (by decide)
  rw [hm] at HW1 hN
  have HT := hid_mk hT
  have HNb : Hid (1 ≤ N ∧ N ≤ 12) := by show _ ∧ _; omega
  have n5 : (1 : Int) ≤ (N : Int) := by omega
  have n6 : (N : Int) ≤ 12 := by omega
  have HNw := hid_mk (fun w' (hT : Tab w') => spNew_any hT N HNb.out.1 (by have := HNb.out.2; omega))
  clear hT h1 h2 hm hm2
  go_enter Tryd.func7, Tryd.ntmps7
  go_wp2_with (go_at_call 15; refine calls_same HW1.out ?_)
  obtain ⟨W1, hW1⟩ : ∃ W1, w.alloc (.cells #[.int .i64 (N : Int), .pointer none, .slice none 0 0, .int .i64 0] 35) = W1 := ⟨_, rfl⟩
  obtain ⟨b, hb⟩ : ∃ b, w.heap.size = b := ⟨_, rfl⟩
  have HO1 : Hid (Out 0 0 w W1) := by rw [← hW1]; exact (Out.refl 0 0 w).alloc _
  have HB1 : Hid (W1.heap[b]? = some (.cells #[.int .i64 (N : Int), .pointer none, .slice none 0 0, .int .i64 0] 35 (0, 0))) := by rw [← hW1, ← hb]; exact heap_alloc_new _ _
  have HS1 : Hid (W1.heap.size = b + 1) := by rw [← hW1, ← hb]; exact World.size_alloc _ _
  rw [hW1, hb]
  have HBw := hid_mk hb
  clear hW1 hb
  refine (HNw.out _ (HT.out.quiet HO1.out)).mono ?_
  rintro e w1 ⟨s, cap, rfl, hs, ho⟩
  have hB1 := ho.heap HB1.out (.inr (Nat.zero_le _))
  have c0 : w1.cell? ⟨b, 0, none⟩ = some (.int .i64 (N : Int)) := by simp [World.cell?, hB1]
  have HC1 := hid_mk hB1
  have HSp := hid_mk hs
  have HO2 := hid_mk (HO1.out.trans ho)
  have HWo := hid_mk (spWords_any (hs.quiet ((Out.refl 0 0 w1).drew)).1)
  have e64 : ((64 * N : Nat) : Int) = 64 * (N : Int) := by omega
  rw [e64] at HWo
  have hwr : IntKind.i64.wrap (64 * (N : Int)) = 64 * (N : Int) := wrap_small (by omega) (by omega)
  have hne : ((64 * (N : Int)) != 64 * (N : Int)) = false := by simp
  clear hs ho hB1 HNw HW1 e64 hN
  go_wp2_with fail
  refine wp_region_held_drew (S := fun w' => w'.cell? ⟨b, 0, none⟩ = some (.int .i64 (N : Int))) (by kernel_rfl) ?hS1 (fun hHeld => ?rest1)
  case hS1 => exact c0
  refine wpAnyH_take (i := 0) (v := ?v2) rfl (by kernel_rfl) (by kernel_rfl) (by kernel_rfl) (fun _ _ _ h => h) (Or.inl ⟨by rfl, ?hy2⟩) (by assumption) ?rest2
  case hy2 => (intro w hSw; (try dsimp only at hSw); simp only [List.getElem_toArray, List.getElem_cons_zero, List.getElem_cons_succ]; go_simp; (try with_reducible rfl))
  (try simp only [Act.put, List.getElem_toArray, List.getElem_cons_zero, List.getElem_cons_succ, List.setIfInBounds_toArray, List.set_cons_zero, List.set_cons_succ])
  refine wpAnyH_take (i := 1) (v := ?v3) rfl (by kernel_rfl) (by kernel_rfl) (by kernel_rfl) (fun _ _ _ h => h) (Or.inl ⟨by rfl, ?hy3⟩) (by assumption) ?rest3
  case hy3 => (intro w hSw; (try dsimp only at hSw); simp only [List.getElem_toArray, List.getElem_cons_zero, List.getElem_cons_succ]; go_simp; (try with_reducible rfl))
  (try simp only [Act.put, List.getElem_toArray, List.getElem_cons_zero, List.getElem_cons_succ, List.setIfInBounds_toArray, List.set_cons_zero, List.set_cons_succ])
  refine wpAnyH_take (i := 2) (v := ?v4) rfl (by kernel_rfl) (by kernel_rfl) (by kernel_rfl) (fun _ _ _ h => h) (Or.inl ⟨by rfl, ?hy4⟩) (by assumption) ?rest4
  case hy4 => (intro w hSw; (try dsimp only at hSw); simp only [List.getElem_toArray, List.getElem_cons_zero, List.getElem_cons_succ]; go_simp; (try with_reducible rfl))
  (try simp only [Act.put, List.getElem_toArray, List.getElem_cons_zero, List.getElem_cons_succ, List.setIfInBounds_toArray, List.set_cons_zero, List.set_cons_succ])
  refine wpAnyH_take (i := 3) (v := ?v5) rfl (by kernel_rfl) (by kernel_rfl) (by kernel_rfl) (fun _ _ _ h => h) (Or.inl ⟨by rfl, ?hy5⟩) (by assumption) ?rest5
  case hy5 => (intro w hSw; (try dsimp only at hSw); simp only [List.getElem_toArray, List.getElem_cons_zero, List.getElem_cons_succ]; go_simp; (try with_reducible rfl))
  (try simp only [Act.put, List.getElem_toArray, List.getElem_cons_zero, List.getElem_cons_succ, List.setIfInBounds_toArray, List.set_cons_zero, List.set_cons_succ])
  refine wpAnyH_take (i := 4) (v := ?v6) rfl (by kernel_rfl) (by kernel_rfl) (by kernel_rfl) (fun _ _ _ h => h) (Or.inl ⟨by rfl, ?hy6⟩) (by assumption) ?rest6
  case hy6 => (intro w hSw; (try dsimp only at hSw); simp only [List.getElem_toArray, List.getElem_cons_zero, List.getElem_cons_succ]; go_simp; (try with_reducible rfl))
  (try simp only [Act.put, List.getElem_toArray, List.getElem_cons_zero, List.getElem_cons_succ, List.setIfInBounds_toArray, List.set_cons_zero, List.set_cons_succ])
  refine wpAnyH_take (i := 5) (v := ?v7) rfl (by kernel_rfl) (by kernel_rfl) (by kernel_rfl) (fun _ _ _ h => h) (Or.inl ⟨by rfl, ?hy7⟩) (by assumption) ?rest7
  case hy7 => (intro w hSw; (try dsimp only at hSw); simp only [List.getElem_toArray, List.getElem_cons_zero, List.getElem_cons_succ]; go_simp; (try with_reducible rfl))
  (try simp only [Act.put, List.getElem_toArray, List.getElem_cons_zero, List.getElem_cons_succ, List.setIfInBounds_toArray, List.set_cons_zero, List.set_cons_succ])
  refine wpAnyH_take (i := 6) (v := ?v8) rfl (by kernel_rfl) (by kernel_rfl) (by kernel_rfl) (fun _ _ _ h => h) (Or.inl ⟨by rfl, ?hy8⟩) (by assumption) ?rest8
  case hy8 => (intro w hSw; (try dsimp only at hSw); simp only [List.getElem_toArray, List.getElem_cons_zero, List.getElem_cons_succ]; go_simp; (try with_reducible rfl))
  (try simp only [Act.put, List.getElem_toArray, List.getElem_cons_zero, List.getElem_cons_succ, List.setIfInBounds_toArray, List.set_cons_zero, List.set_cons_succ])
  refine wpAnyH_take (i := 7) (v := ?v9) rfl (by kernel_rfl) (by kernel_rfl) (by kernel_rfl) (fun _ _ _ h => h) (Or.inl ⟨by rfl, ?hy9⟩) (by assumption) ?rest9
  case hy9 => (intro w hSw; (try dsimp only at hSw); simp only [List.getElem_toArray, List.getElem_cons_zero, List.getElem_cons_succ]; go_simp; (try with_reducible rfl))
  (try simp only [Act.put, List.getElem_toArray, List.getElem_cons_zero, List.getElem_cons_succ, List.setIfInBounds_toArray, List.set_cons_zero, List.set_cons_succ])
  refine wpAnyH_take (i := 9) (v := ?v10) rfl (by kernel_rfl) (by kernel_rfl) (by kernel_rfl) (fun _ _ _ h => h) (Or.inl ⟨by rfl, ?hy10⟩) (by assumption) ?rest10
  case hy10 => (intro w hSw; (try dsimp only at hSw); simp only [List.getElem_toArray, List.getElem_cons_zero, List.getElem_cons_succ]; go_simp; (try with_reducible rfl))
  (try simp only [Act.put, List.getElem_toArray, List.getElem_cons_zero, List.getElem_cons_succ, List.setIfInBounds_toArray, List.set_cons_zero, List.set_cons_succ])
  refine wpAnyH_take (i := 10) (v := ?v11) rfl (by kernel_rfl) (by kernel_rfl) (by kernel_rfl) (fun _ _ _ h => h) (Or.inl ⟨by rfl, ?hy11⟩) (by assumption) ?rest11
  case hy11 => (intro w hSw; (try dsimp only at hSw); simp only [List.getElem_toArray, List.getElem_cons_zero, List.getElem_cons_succ]; go_simp; (try with_reducible rfl))
  (try simp only [Act.put, List.getElem_toArray, List.getElem_cons_zero, List.getElem_cons_succ, List.setIfInBounds_toArray, List.set_cons_zero, List.set_cons_succ])
  refine wpAnyH_take (i := 11) (v := ?v12) rfl (by kernel_rfl) (by kernel_rfl) (by kernel_rfl) (fun _ _ _ h => h) (Or.inl ⟨by rfl, ?hy12⟩) (by assumption) ?rest12
  case hy12 => (intro w hSw; (try dsimp only at hSw); simp only [List.getElem_toArray, List.getElem_cons_zero, List.getElem_cons_succ]; go_simp; (try with_reducible rfl))
  (try simp only [Act.put, List.getElem_toArray, List.getElem_cons_zero, List.getElem_cons_succ, List.setIfInBounds_toArray, List.set_cons_zero, List.set_cons_succ])
  refine wpAnyH_take (i := 12) (v := ?v13) rfl (by kernel_rfl) (by kernel_rfl) (by kernel_rfl) (fun _ _ _ h => h) (Or.inl ⟨by rfl, ?hy13⟩) (by assumption) ?rest13
  case hy13 => (intro w hSw; (try dsimp only at hSw); simp only [List.getElem_toArray, List.getElem_cons_zero, List.getElem_cons_succ]; go_simp; (try with_reducible rfl))
  (try simp only [Act.put, List.getElem_toArray, List.getElem_cons_zero, List.getElem_cons_succ, List.setIfInBounds_toArray, List.set_cons_zero, List.set_cons_succ])
  refine wpAnyH_take (i := 13) (v := ?v14) rfl (by kernel_rfl) (by kernel_rfl) (by kernel_rfl) (fun _ _ _ h => h) (Or.inl ⟨by rfl, ?hy14⟩) (by assumption) ?rest14
  case hy14 => (intro w hSw; (try dsimp only at hSw); simp only [List.getElem_toArray, List.getElem_cons_zero, List.getElem_cons_succ]; go_simp; (try with_reducible rfl))
  (try simp only [Act.put, List.getElem_toArray, List.getElem_cons_zero, List.getElem_cons_succ, List.setIfInBounds_toArray, List.set_cons_zero, List.set_cons_succ])
  refine wpAnyH_ready (rs := [8]) (by kernel_rfl) (by simp) ?_
  refine AllReadyH.cons rfl (fun KK hK => ?_) AllReadyH.nil
  simp only [List.getElem_toArray, List.getElem_cons_zero, List.getElem_cons_succ]
  go_simp
  refine (HWo.out).mono ?_
  rintro e w5 ⟨rfl, he⟩
  rw [he]
  clear he w5
  refine hK.out _ _ ?hS15 (fun hHeld2 => ?rest15)
  case hS15 => exact hHeld
  clear hK KK
  (try clear hHeld)
  have hHeld := hHeld2
  clear hHeld2
  (try simp only [Act.put, List.getElem_toArray, List.getElem_cons_zero, List.getElem_cons_succ, List.setIfInBounds_toArray, List.set_cons_zero, List.set_cons_succ])
  refine wpAnyH_take (i := 14) (v := ?v16) rfl (by kernel_rfl) (by kernel_rfl) (by kernel_rfl) (fun _ _ _ h => h) (Or.inl ⟨by rfl, ?hy16⟩) (by assumption) ?rest16
  case hy16 => (intro w hSw; (try dsimp only at hSw); simp only [List.getElem_toArray, List.getElem_cons_zero, List.getElem_cons_succ]; go_simp; (try with_reducible rfl))
  (try simp only [Act.put, List.getElem_toArray, List.getElem_cons_zero, List.getElem_cons_succ, List.setIfInBounds_toArray, List.set_cons_zero, List.set_cons_succ])
  refine wpAnyH_take (i := 15) (v := ?v17) rfl (by kernel_rfl) (by kernel_rfl) (by kernel_rfl) (fun _ _ _ h => h) (Or.inl ⟨by rfl, ?hy17⟩) (by assumption) ?rest17
  case hy17 => (intro w hSw; (try dsimp only at hSw); simp only [List.getElem_toArray, List.getElem_cons_zero, List.getElem_cons_succ]; go_simp; (try with_reducible rfl))
  (try simp only [Act.put, List.getElem_toArray, List.getElem_cons_zero, List.getElem_cons_succ, List.setIfInBounds_toArray, List.set_cons_zero, List.set_cons_succ])
  refine wpAnyH_done (by kernel_rfl) ?_ _
  clear hHeld
  have hC2 := ((Out.refl 0 0 w1).drew).heap HC1.out (.inr (Nat.zero_le _))
  have c1 : w1.drew.cell? ⟨b, 1, none⟩ = some (.pointer none) := by simp only [World.cell?, hC2]; rfl
  have c2 : w1.drew.frozen? ⟨b, 1, none⟩ = false := by simp only [World.frozen?, hC2]; rfl
  have HC2 := hid_mk hC2
  clear hC2
  go_wp2
  go_ret
  have o3 : Out b (b + 1) w1 (w1.setCell ⟨b, 1, none⟩ (.pointer (some ⟨s 14, 0, none⟩))).drew := ((Out.refl _ _ _).setCell (p := ⟨b, 1, none⟩) (.inl ⟨Nat.le_refl _, Nat.lt_succ_self _⟩) _).drew
  have hbw := HBw.out
  have hs1 := HS1.out
  have hT := HT.out.lt
  refine ⟨b, W1.heap.size, w1.heap.size, s, cap, rfl, ?_, HSp.out.kept o3 (.inr (by omega)) (.inl (by omega)), by omega, by omega, HO2.out.past o3 (by omega)⟩
  have hh : (w1.setCell ⟨b, 1, none⟩ (.pointer (some ⟨s 14, 0, none⟩))).heap[b]? = some (.cells #[.int .i64 (N : Int), .pointer (some ⟨s 14, 0, none⟩), .slice none 0 0, .int .i64 0] 35 (0, 0)) := by
    have := HC1.out
    simp [World.setCell, Array.getElem?_modify, this]
  exact ((Out.refl 0 0 _).drew).heap hh (.inr (Nat.zero_le _))
end Go.Proofs.YtjbbkeoolodeaacDoor
namespace Go.Proofs.YtjbbkeoolodeaacDoor
open Go.RowKit
set_option linter.unusedVariables false
set_option linter.unusedSimpArgs false

theorem most_le {n : Nat} {z : Int} (h1 : 1 ≤ n) (h2 : n ≤ 12) (z1 : 1 ≤ z) (z2 : z ≤ 1024) : mostN n z ≤ 384 ∧ mostN n z * roomN z ≤ 768 ∧ roomN z ≤ 1024 ∧ 1 ≤ roomN z := by
  have hu := most_room (n := n) z1 z2
  have hr : 1 ≤ roomN z ∧ roomN z ≤ 1024 := by
    by_cases h : 32 < z
    · rw [room_great h]; have := run_k h z2; omega
    · rw [room_small (by omega)]
      have hc := of_small z1 (by omega)
      have := wN_pos hc.1 hc.2.1
      omega
  refine ⟨?_, by rcases hu with e | ⟨j, hj, e⟩ <;> omega, hr.2, hr.1⟩
  unfold mostN
  split
  · exact Nat.le_trans (Nat.div_le_self _ _) (by omega)
  · have hc := cls_of z1 (by omega)
    generalize wN (ofV z) = w at *
    rcases hc with ⟨_, rfl, _⟩ | ⟨_, rfl, _⟩ | ⟨_, rfl, _⟩ | ⟨_, rfl, _⟩ | ⟨_, rfl, _⟩ | ⟨_, rfl, _⟩ | ⟨_, rfl, _⟩ | ⟨_, rfl, _⟩ <;> omega
/-- all are freed -/
theorem keepNil {w : World} {lo hi n cap : Nat} {s : Nat → Nat} {st : Sp} (h : SpAt w lo hi s n cap st) {m : Nat} (hm : freedTo (rawOf n st) (fun _ => false) (64 * n) = m) :
    Calls Tryd.prog 18 #[.pointer (some ⟨s 14, 0, none⟩), .slice none 0 0] w fun e w' => e = .returned (.tuple #[.int .i64 (m : Int), .int .i64 0]) ∧ SpAt w' lo hi s n cap (keepSp n st []) ∧ Out lo hi w w' := by
  refine (spKeep_any h (l := []) (p := none) (cp := 0) (.inl rfl) (by decide)).mono ?_
  rintro e w' ⟨o, ⟨_, h2, h3⟩ | ⟨⟨a, ha, _⟩, _⟩⟩
  · rw [kp_nil, hm] at h2
    exact ⟨h2, h3, o⟩
  · cases ha
theorem fitsNo {w : World} {lo hi n cap : Nat} {s : Nat → Nat} {st : Sp} (h : SpAt w lo hi s n cap st) {z : Int} (z1 : 1 ≤ z) (z2 : z ≤ 1024) (hp : placeF n st z = none) {g cp : Nat} (hg : w.heap[g]? = some (.cells #[.int .i64 z] 3 (0, 0))) :
    Calls Tryd.prog 10 #[.pointer (some ⟨s 14, 0, none⟩), .slice (some ⟨g, 0, none⟩) 1 cp] w fun e w' => e = .returned (.bool false) ∧ Out 0 0 w w' := by
  have := spFits_any h.1 (l := [z]) (p := some ⟨g, 0, none⟩) (cp := cp) (.inr ⟨g, rfl, heap_lt hg, fun j hj => by
    have : j = 0 := by simp at hj; omega
    subst this
    simp [World.cell?, hg]⟩) (by simp)
  rw [show (rawOf n st).S = st.S from rfl, fits_no z1 z2 hp] at this
  exact this
theorem field_ser (v0 v1 v2 v3 v4 v5 v6 v7 v8 v9 va : Value) (l : Int) (w : World) : (Instr.field 32 (.agg #[v0, v1, v2, v3, v4, v5, v6, v7, v8, v9, va, .int .i64 l]) 4).run Tryd.prog w = .ok (.int .i64 l) w := by
  kernel_rfl
set_option maxRecDepth 100000 in
set_option maxHeartbeats 16000000 in
theorem fills_small {w : World} (hT : Tab w) (n0 p0 : Int) (hn : -9223372036854775808 ≤ n0 ∧ n0 ≤ 9223372036854775807) (hp : -9223372036854775808 ≤ p0 ∧ p0 ≤ 9223372036854775807) {N : Nat} (hN : 1 + wth n0 12 = (N : Int)) {z : Int} (hz : 1 + wth p0 1024 = z) (h32 : z ≤ 32) :
    Calls Tryd.prog 4 #[.int .i64 n0, .int .i64 p0] w fun e w' => e = .returned (.bool true) ∧ Out 0 0 w w' := by
  have z1 : 1 ≤ z := by have := wth_ge p0 1024 (by decide); omega
  have z2 : z ≤ 1024 := by have := wth_lt p0 1024 (by decide); omega
  have N1 : 1 ≤ N ∧ N ≤ 12 := by have := wth_ge n0 12 (by decide); have := wth_lt n0 12 (by decide); omega
  obtain ⟨M, hM⟩ : ∃ M, mostN N z = M := ⟨_, rfl⟩
  obtain ⟨q, hq⟩ : ∃ q, roomN z = q := ⟨_, rfl⟩
  have hml := most_le N1.1 N1.2 z1 z2
  have hus := use_some N1.1 N1.2 (most_room (n := N) z1 z2)
  have hbd : M ≤ 384 ∧ M * q ≤ 768 ∧ q ≤ 1024 ∧ 1 ≤ q := by rw [← hM, ← hq]; exact hml
  have n5 : (1 : Int) ≤ (N : Int) := by clear hus hml; omega
  have n6 : (N : Int) ≤ 12 := by clear hus hml; omega
  have m5 : (0 : Int) ≤ (M : Int) := by clear hus hml; omega
  have m6 : (M : Int) ≤ 384 := by clear hus hml; omega
  have q5 : (1 : Int) ≤ (q : Int) := by clear hus hml; omega
  have q6 : (q : Int) ≤ 1024 := by clear hus hml; omega
  rw [hM, hq] at hus
  obtain ⟨v, hv, hvv⟩ := hus
  obtain ⟨y, hy⟩ : ∃ y : Nat, 64 / wN (ofV z) = y := ⟨_, rfl⟩
  have hcl : clsT z = (ofV z, (q : Int), (y : Int)) := by unfold clsT; rw [if_pos h32, ← hq, room_small h32, hy]
  have hM2 : mostN N z = N * y := by unfold mostN; rw [if_neg (by omega), hy]
  have y0 : 0 < y := by
    have hc := of_small z1 h32
    have := wN_pos hc.1 hc.2.1
    rw [← hy]; exact Nat.div_pos (by omega) (by omega)
  have y1 : (y : Int) ≠ 0 := by omega
  have y2 : ((y : Int) == 0) = false := by rw [beq_eq_false_iff_ne]; exact y1
  have hP : (N : Int) * (y : Int) = (M : Int) := by rw [← hM, hM2]; push_cast; rfl
  have hPw : wrap64 ((N : Int) * (y : Int)) = (M : Int) := by rw [hP]; unfold wrap64; omega
  have HCl := hid_mk (fun w' (hT' : Tab w') => classOf_any hT' z z1 z2 hcl)
  obtain ⟨m, hm, hm2⟩ := wth_nat p0 1024 (by decide)
  have HW2 := hid_mk (fun w' => within_any p0 1024 w' hp.1 hp.2 (by decide) (by decide))
  rw [hm] at HW2 hz
  have HBg := hid_mk (begun_any hT n0 hn.1 hn.2 hN)
  have HT := hid_mk hT
  have HZ := hid_mk (And.intro z1 z2)
  have HN1 := hid_mk N1
  have HM := hid_mk hM
  have HQ := hid_mk hq
  have HV := hid_mk hv
  have HB3 := hid_mk hbd
  clear hT hn hp hN hM hq hml hbd hcl hm hm2 N1 hv hy hM2 y0 h32
  go_enter Tryd.func4, Tryd.ntmps4
  go_wp2_with fail
  refine HBg.out.mono ?_
  rintro e w1 ⟨b, lo, hi, s, cap, rfl, hw1, hs1, hb1, hb2, ho1⟩
  have HAl := hid_mk (alive_any (HT.out.quiet ho1))
  have HW1 := hid_mk (And.intro hw1 hs1)
  have HL := hid_mk (And.intro hb1 hb2)
  have HO1 := hid_mk ho1
  clear hw1 hs1 hb1 hb2 ho1 HBg
  go_wp2_with fail
  refine HAl.out.mono ?_
  rintro e w2 ⟨rfl, ho⟩
  have HW3 := hid_mk (And.intro (HW1.out.1.kept ho (.inr (Nat.zero_le _))) (HW1.out.2.quiet ho))
  have HO2 := hid_mk (HO1.out.trans ho)
  clear ho
  go_wp2_with (go_at_call 15; refine calls_same (HW2.out _) ?_)
  refine (HCl.out _ (HT.out.quiet HO2.out)).mono ?_
  rintro e w3 ⟨rfl, ho⟩
  have HW4 := hid_mk (And.intro (HW3.out.1.kept ho (.inr (Nat.zero_le _))) (HW3.out.2.quiet ho))
  have HO3 := hid_mk (HO2.out.trans ho)
  obtain ⟨g0, g1, g2, g3, g4⟩ := HW4.out.1.cells
  clear ho g1 g2 g3 g4
  go_wp2_with fail
  clear g0 hP hPw y1 y2 HW1 HW3 HCl HW2 HAl HO1 HO2
  go_loopw [11] (fun u wr => ∃ (k : Nat) (st : Sp), u = .int .i64 (k : Int) ∧ k ≤ 2 ∧ WAt wr b N (s 14) (.slice none 0 0) 0 ∧ SpAt wr lo hi s N cap st ∧ Bare N st ∧ st.last = (k : Int) * (M : Int) ∧ Out 0 0 w wr) (fun u _ => (2 - intOf u).toNat)
  case atStart => exact ⟨0, newSp, rfl, by omega, HW4.out.1, HW4.out.2, bare_new N, by show (0 : Int) = _; simp, HO3.out⟩
  case round =>
    clear HW4 HO3
    obtain ⟨k, st, rfl, k2, hw, hs, hbr, hl, ho⟩ := hrel
    have k0 : (0 : Int) ≤ (k : Int) := by omega
    have k2' : (k : Int) ≤ 2 := by omega
    have HKM : Hid (0 ≤ (k : Int) * (M : Int) ∧ (k : Int) * (M : Int) ≤ 768) := by
      show _ ∧ _
      have : k = 0 ∨ k = 1 ∨ k = 2 := by omega
      rcases this with rfl | rfl | rfl <;> simp <;> omega
    have H0 := hid_mk (And.intro hw (And.intro hs (And.intro hbr (And.intro hl ho))))
    clear hw hs hbr hl ho
    by_cases hk : k < 2
    · have k1 : (k : Int) < 2 := by omega
      go_wp2_with fail
      go_loopw [12] (fun u wr => ∃ (i : Nat) (st : Sp), u = .int .i64 (i : Int) ∧ i ≤ M ∧ WAt wr b N (s 14) (.slice none 0 0) 0 ∧ SpAt wr lo hi s N cap st ∧ Rt N st ∧ Fill N z i st ∧ st.last = (k : Int) * (M : Int) + (i : Int) ∧ usedTo (rawOf N st) (64 * N) = i * q ∧ freedTo (rawOf N st) (fun _ => false) (64 * N) = i ∧ Out 0 0 w wr) (fun u _ => M - (intOf u).toNat)
      case atStart => exact ⟨0, st, rfl, Nat.zero_le _, H0.out.1, H0.out.2.1, bare_rt H0.out.2.2.1, bare_fill H0.out.2.2.1 z, by rw [H0.out.2.2.2.1]; simp, by rw [used_bare H0.out.2.2.1]; simp, freed_bare H0.out.2.2.1 _, H0.out.2.2.2.2⟩
      case round =>
        clear H0
        obtain ⟨i, st', rfl, i1, jw, js, jr, jf, jl, ju, jd, jo⟩ := hrel
        have hst := fill_step z1 z2 js.2 jr jf
        rw [HM.out, HQ.out] at hst
        have i0 : (0 : Int) ≤ (i : Int) := by omega
        have hll : st'.last < 4611686018427387904 := by have := HKM.out; rw [jl]; omega
        obtain ⟨g0, g1, g2, g3, g4⟩ := jw.cells
        clear g2 g3 g4
        have HJ := hid_mk (And.intro jw (And.intro js (And.intro jl (And.intro ju (And.intro jd jo)))))
        by_cases hi : i < M
        · have i2 : (i : Int) < (M : Int) := by omega
          obtain ⟨a, st2, e1, e2, e3, e4, e5, e6, e7⟩ := hst.1 hi
          have HAc := hid_mk (alloc_is js (by omega) (by omega) hll e1)
          have HE := hid_mk (And.intro e2 (And.intro e3 (And.intro e4 (And.intro e5 (And.intro e6 e7)))))
          clear hst jw js jr jf jl ju jd jo hll e1 e2 e3 e4 e5 e6 e7
          go_wp2_with fail
          refine HAc.out.mono ?_
          rintro e w5 ⟨rfl, hs5, ho5⟩
          have H5 := hid_mk (And.intro hs5 ho5)
          clear hs5 ho5 g0 g1 HAc
          go_wp2
          go_roundw
          case rel =>
            have hA := (Out.refl 0 0 w5).alloc (.cells #[.int .i64 0, .int .i64 0] 43)
            have hLb := HL.out
            refine ⟨i + 1, st2, by go_num, by omega, (HJ.out.1.kept H5.out.2 (.inl hLb.2)).kept hA (.inr (Nat.zero_le _)), H5.out.1.quiet hA, HE.out.2.1, HE.out.2.2.1, ?_, ?_, ?_, (HJ.out.2.2.2.2.2.past H5.out.2 (by omega)).trans hA⟩
            · rw [HE.out.2.2.2.1, HJ.out.2.2.1]; push_cast; omega
            · rw [HE.out.2.2.2.2.1, HJ.out.2.2.2.1, Nat.succ_mul]
            · rw [HE.out.2.2.2.2.2, HJ.out.2.2.2.2.1]
          case measure => simp [intOf]; omega
        · have e : M = i := by omega
          obtain ⟨e1, e2⟩ := hst.2 (by omega)
          have HAc := hid_mk (alloc_is js (by omega) (by omega) hll e1)
          have HE := hid_mk e2
          have hMM : ((i : Int) != (i : Int)) = false := by simp
          have hlt : decide ((i : Int) < (i : Int)) = false := by simp
          subst e
          clear hst jw js jr jf jl ju jd jo hll e1 e2 hi
          go_wp2_with fail
          refine HAc.out.mono ?_
          rintro e w5 ⟨rfl, hs5, ho5⟩
          have H5 := hid_mk (And.intro hs5 ho5)
          clear hs5 ho5 HAc g0 g1
          go_wp2_with fail
          obtain ⟨W6, hW6⟩ : ∃ W, w5.alloc (.cells #[.int .i64 20, .int .i64 0] 43) = W := ⟨_, rfl⟩
          obtain ⟨B5, hB5⟩ : ∃ B, w5.heap.size = B := ⟨_, rfl⟩
          have hA : Out 0 0 w5 W6 := by rw [← hW6]; exact (Out.refl 0 0 w5).alloc _
          have hF : W6.heap[B5]? = some (.cells #[.int .i64 20, .int .i64 0] 43 (0, 0)) := by rw [← hW6, ← hB5]; exact heap_alloc_new _ _
          have hLb := HL.out
          have HW6 := hid_mk ((HJ.out.1.kept H5.out.2 (.inl hLb.2)).kept hA (.inr (Nat.zero_le _)))
          have HS6 := hid_mk (H5.out.1.quiet hA)
          have HO6 := hid_mk ((HJ.out.2.2.2.2.2.past H5.out.2 (by omega)).trans hA)
          obtain ⟨f0, f1, f2, f3⟩ := flt_facts hF
          obtain ⟨g0, g1, _, _, _⟩ := HW6.out.cells
          have HJ2 := hid_mk HJ.out.2.2
          rw [hW6, hB5]
          clear hA hLb HJ f1 f2 f3 hF hW6 hB5 H5
          obtain ⟨u, hu⟩ : ∃ u, M * q = u := ⟨_, rfl⟩
          have hub : u ≤ 768 := by rw [← hu]; exact HB3.out.2.1
          have huI : (M : Int) * (q : Int) = (u : Int) := by rw [← hu]; push_cast; rfl
          have hwu : IntKind.i64.wrap ((M : Int) * (q : Int)) = (u : Int) := by rw [huI]; exact wrap_small (by omega) (by omega)
          have hwn : IntKind.i64.wrap (64 * (N : Int)) = 64 * (N : Int) := wrap_small (by omega) (by omega)
          have hv := HV.out
          rw [hu] at hv
          have HUs := hid_mk (fun W (o : Out 0 0 W6 W) => use_any (HS6.out.quiet o).1 (told_of _) (rooms_of HS6.out.2) (v := v) (by rw [HJ2.out.2.1, hu]; exact hv))
          have hcv1 : ∀ wx, (convert 3 50 (.int .i64 (u : Int))).run Tryd.prog wx = .ok (.float .f64 (floatOfInt .f64 (u : Int))) wx := fun wx => run_convert_int_float wx _ _ _ _ _ (by rw [Tryd.underlying3]; rfl) Tryd.underlying50
          have hcv2 : ∀ wx, (convert 3 50 (.int .i64 (64 * (N : Int)))).run Tryd.prog wx = .ok (.float .f64 (floatOfInt .f64 (64 * (N : Int)))) wx := fun wx => run_convert_int_float wx _ _ _ _ _ (by rw [Tryd.underlying3]; rfl) Tryd.underlying50
          have hdv : ∀ wx, (binOp .quo 50 (.float .f64 (floatOfInt .f64 (u : Int))) (.float .f64 (floatOfInt .f64 (64 * (N : Int))))).run Tryd.prog wx = .ok (.float .f64 v) wx := fun wx => run_float_arith wx _ _ _ _ _ _ hv
          have hnv : (FloatKind.f64.format.order v v != some Ordering.eq) = false := by rw [hvv]; rfl
          have HUB := hid_mk (And.intro hub huI)
          clear hv hub huI
          generalize floatOfInt .f64 (u : Int) = x1 at hcv1 hdv
          generalize floatOfInt .f64 (64 * (N : Int)) = x2 at hcv2 hdv
          refine wp_region_held_drew (S := fun w' => w'.cell? ⟨B5, 0, none⟩ = some (.int .i64 20) ∧ w'.cell? ⟨b, 0, none⟩ = some (.int .i64 (N : Int)) ∧ w'.cell? ⟨b, 1, none⟩ = some (.pointer (some ⟨s 14, 0, none⟩))) (by kernel_rfl) ?hS1 (fun hHeld => ?rest1)
          case hS1 => exact ⟨f0, g0, g1⟩
          obtain ⟨Z, hZ⟩ : ∃ Z, W6.drew = Z := ⟨_, rfl⟩
          have OZ : Out 0 0 W6 Z := by rw [← hZ]; exact (Out.refl 0 0 W6).drew
          rw [hZ] at hHeld ⊢
          clear hZ
          refine wpAnyH_take (i := 0) (v := ?v2) rfl (by kernel_rfl) (by kernel_rfl) (by kernel_rfl) (fun _ _ _ h => h) (Or.inl ⟨by rfl, ?hy2⟩) (by assumption) ?rest2
          case hy2 => (intro w hSw; (try dsimp only at hSw); simp only [List.getElem_toArray, List.getElem_cons_zero, List.getElem_cons_succ]; go_simp; (try with_reducible rfl))
          (try simp only [Act.put, List.getElem_toArray, List.getElem_cons_zero, List.getElem_cons_succ, List.setIfInBounds_toArray, List.set_cons_zero, List.set_cons_succ])
          refine wpAnyH_take (i := 1) (v := ?v3) rfl (by kernel_rfl) (by kernel_rfl) (by kernel_rfl) (fun _ _ _ h => h) (Or.inl ⟨by rfl, ?hy3⟩) (by assumption) ?rest3
          case hy3 => (intro w hSw; (try dsimp only at hSw); simp only [List.getElem_toArray, List.getElem_cons_zero, List.getElem_cons_succ]; go_simp; (try with_reducible rfl))
          (try simp only [Act.put, List.getElem_toArray, List.getElem_cons_zero, List.getElem_cons_succ, List.setIfInBounds_toArray, List.set_cons_zero, List.set_cons_succ])
          refine wpAnyH_take (i := 2) (v := ?v4) rfl (by kernel_rfl) (by kernel_rfl) (by kernel_rfl) (fun _ _ _ h => h) (Or.inl ⟨by rfl, ?hy4⟩) (by assumption) ?rest4
          case hy4 => (intro w hSw; (try dsimp only at hSw); simp only [List.getElem_toArray, List.getElem_cons_zero, List.getElem_cons_succ]; go_simp; (try with_reducible rfl))
          (try simp only [Act.put, List.getElem_toArray, List.getElem_cons_zero, List.getElem_cons_succ, List.setIfInBounds_toArray, List.set_cons_zero, List.set_cons_succ])
          refine wpAnyH_take (i := 3) (v := ?v5) rfl (by kernel_rfl) (by kernel_rfl) (by kernel_rfl) (fun _ _ _ h => h) (Or.inl ⟨by rfl, ?hy5⟩) (by assumption) ?rest5
          case hy5 => (intro w hSw; (try dsimp only at hSw); simp only [List.getElem_toArray, List.getElem_cons_zero, List.getElem_cons_succ]; go_simp; (try with_reducible rfl))
          (try simp only [Act.put, List.getElem_toArray, List.getElem_cons_zero, List.getElem_cons_succ, List.setIfInBounds_toArray, List.set_cons_zero, List.set_cons_succ])
          refine wpAnyH_take (i := 4) (v := ?v6) rfl (by kernel_rfl) (by kernel_rfl) (by kernel_rfl) (fun _ _ _ h => h) (Or.inl ⟨by rfl, ?hy6⟩) (by assumption) ?rest6
          case hy6 => (intro w hSw; (try dsimp only at hSw); simp only [List.getElem_toArray, List.getElem_cons_zero, List.getElem_cons_succ]; go_simp; (try with_reducible rfl))
          (try simp only [Act.put, List.getElem_toArray, List.getElem_cons_zero, List.getElem_cons_succ, List.setIfInBounds_toArray, List.set_cons_zero, List.set_cons_succ])
          refine wpAnyH_take (i := 5) (v := ?v7) rfl (by kernel_rfl) (by kernel_rfl) (by kernel_rfl) (fun _ _ _ h => h) (Or.inl ⟨by rfl, ?hy7⟩) (by assumption) ?rest7
          case hy7 => (intro w hSw; (try dsimp only at hSw); simp only [List.getElem_toArray, List.getElem_cons_zero, List.getElem_cons_succ]; go_simp; (try with_reducible rfl))
          (try simp only [Act.put, List.getElem_toArray, List.getElem_cons_zero, List.getElem_cons_succ, List.setIfInBounds_toArray, List.set_cons_zero, List.set_cons_succ])
          refine wpAnyH_take (i := 6) (v := ?v8) rfl (by kernel_rfl) (by kernel_rfl) (by kernel_rfl) (fun _ _ _ h => h) (Or.inl ⟨by rfl, ?hy8⟩) (by assumption) ?rest8
          case hy8 => (intro w hSw; (try dsimp only at hSw); simp only [List.getElem_toArray, List.getElem_cons_zero, List.getElem_cons_succ]; go_simp; (try with_reducible rfl))
          (try simp only [Act.put, List.getElem_toArray, List.getElem_cons_zero, List.getElem_cons_succ, List.setIfInBounds_toArray, List.set_cons_zero, List.set_cons_succ])
          refine wpAnyH_take (i := 7) (v := ?v9) rfl (by kernel_rfl) (by kernel_rfl) (by kernel_rfl) (fun _ _ _ h => h) (Or.inl ⟨by rfl, ?hy9⟩) (by assumption) ?rest9
          case hy9 => (intro w hSw; (try dsimp only at hSw); simp only [List.getElem_toArray, List.getElem_cons_zero, List.getElem_cons_succ]; go_simp; (try with_reducible rfl))
          (try simp only [Act.put, List.getElem_toArray, List.getElem_cons_zero, List.getElem_cons_succ, List.setIfInBounds_toArray, List.set_cons_zero, List.set_cons_succ])
          refine wpAnyH_take (i := 8) (v := ?v10) rfl (by kernel_rfl) (by kernel_rfl) (by kernel_rfl) (fun _ _ _ h => h) (Or.inl ⟨by rfl, ?hy10⟩) (by assumption) ?rest10
          case hy10 => (intro w hSw; (try dsimp only at hSw); simp only [List.getElem_toArray, List.getElem_cons_zero, List.getElem_cons_succ]; go_simp; (try with_reducible rfl))
          (try simp only [Act.put, List.getElem_toArray, List.getElem_cons_zero, List.getElem_cons_succ, List.setIfInBounds_toArray, List.set_cons_zero, List.set_cons_succ])
          refine wpAnyH_ready (rs := [9]) (by kernel_rfl) (by simp) ?_
          refine AllReadyH.cons rfl (fun KK hK => ?_) AllReadyH.nil
          simp only [List.getElem_toArray, List.getElem_cons_zero, List.getElem_cons_succ]
          go_simp
          obtain ⟨W7, hW7⟩ : ∃ W, Z.alloc (.cells #[.int .i64 z] 3) = W := ⟨_, rfl⟩
          obtain ⟨B7, hB7⟩ : ∃ B, Z.heap.size = B := ⟨_, rfl⟩
          have o1 : Out 0 0 Z W7 := by rw [← hW7]; exact (Out.refl 0 0 _).alloc _
          have hF7 : W7.heap[B7]? = some (.cells #[.int .i64 z] 3 (0, 0)) := by rw [← hW7, ← hB7]; exact heap_alloc_new _ _
          have O7 : Out 0 0 W6 W7 := OZ.trans o1
          (try rw [hW7])
          (try rw [hB7])
          clear hW7 hB7
          refine hK.out _ _ ?hS11 (fun hHeld2 => ?rest11)
          case hS11 => exact ⟨o1.cell hHeld.1 (.inr (Nat.zero_le _)), o1.cell hHeld.2.1 (.inr (Nat.zero_le _)), o1.cell hHeld.2.2 (.inr (Nat.zero_le _))⟩
          clear o1
          clear hK KK
          (try clear hHeld)
          have hHeld := hHeld2
          clear hHeld2
          (try simp only [Act.put, List.getElem_toArray, List.getElem_cons_zero, List.getElem_cons_succ, List.setIfInBounds_toArray, List.set_cons_zero, List.set_cons_succ])
          refine wpAnyH_ready (rs := [10]) (by kernel_rfl) (by simp) ?_
          refine AllReadyH.cons rfl (fun KK hK => ?_) AllReadyH.nil
          simp only [List.getElem_toArray, List.getElem_cons_zero, List.getElem_cons_succ]
          go_simp
          refine (fitsNo (HS6.out.quiet O7) HZ.out.1 HZ.out.2 HE.out hF7).mono ?_
          rintro e W8 ⟨rfl, o1⟩
          have O8 : Out 0 0 W6 W8 := O7.trans o1
          clear O7 hF7
          refine hK.out _ _ ?hS12 (fun hHeld2 => ?rest12)
          case hS12 => exact ⟨o1.cell hHeld.1 (.inr (Nat.zero_le _)), o1.cell hHeld.2.1 (.inr (Nat.zero_le _)), o1.cell hHeld.2.2 (.inr (Nat.zero_le _))⟩
          clear o1
          clear hK KK
          (try clear hHeld)
          have hHeld := hHeld2
          clear hHeld2
          (try simp only [Act.put, List.getElem_toArray, List.getElem_cons_zero, List.getElem_cons_succ, List.setIfInBounds_toArray, List.set_cons_zero, List.set_cons_succ])
          refine wpAnyH_take (i := 11) (v := ?v13) rfl (by kernel_rfl) (by kernel_rfl) (by kernel_rfl) (fun _ _ _ h => h) (Or.inl ⟨by rfl, ?hy13⟩) (by assumption) ?rest13
          case hy13 => (intro w hSw; (try dsimp only at hSw); simp only [List.getElem_toArray, List.getElem_cons_zero, List.getElem_cons_succ]; go_simp; (try with_reducible rfl))
          (try simp only [Act.put, List.getElem_toArray, List.getElem_cons_zero, List.getElem_cons_succ, List.setIfInBounds_toArray, List.set_cons_zero, List.set_cons_succ])
          refine wpAnyH_take (i := 12) (v := ?v14) rfl (by kernel_rfl) (by kernel_rfl) (by kernel_rfl) (fun _ _ _ h => h) (Or.inl ⟨by rfl, ?hy14⟩) (by assumption) ?rest14
          case hy14 => (intro w hSw; (try dsimp only at hSw); simp only [List.getElem_toArray, List.getElem_cons_zero, List.getElem_cons_succ]; go_simp; (try with_reducible rfl))
          (try simp only [Act.put, List.getElem_toArray, List.getElem_cons_zero, List.getElem_cons_succ, List.setIfInBounds_toArray, List.set_cons_zero, List.set_cons_succ])
          refine wpAnyH_take (i := 13) (v := ?v15) rfl (by kernel_rfl) (by kernel_rfl) (by kernel_rfl) (fun _ _ _ h => h) (Or.inl ⟨by rfl, ?hy15⟩) (by assumption) ?rest15
          case hy15 => (intro w hSw; (try dsimp only at hSw); simp only [List.getElem_toArray, List.getElem_cons_zero, List.getElem_cons_succ]; go_simp; (try with_reducible rfl))
          (try simp only [Act.put, List.getElem_toArray, List.getElem_cons_zero, List.getElem_cons_succ, List.setIfInBounds_toArray, List.set_cons_zero, List.set_cons_succ])
          refine wpAnyH_take (i := 14) (v := ?v16) rfl (by kernel_rfl) (by kernel_rfl) (by kernel_rfl) (fun _ _ _ h => h) (Or.inl ⟨by rfl, ?hy16⟩) (by assumption) ?rest16
          case hy16 => (intro w hSw; (try dsimp only at hSw); simp only [List.getElem_toArray, List.getElem_cons_zero, List.getElem_cons_succ]; go_simp; (try with_reducible rfl))
          (try simp only [Act.put, List.getElem_toArray, List.getElem_cons_zero, List.getElem_cons_succ, List.setIfInBounds_toArray, List.set_cons_zero, List.set_cons_succ])
          refine wpAnyH_take (i := 15) (v := ?v17) rfl (by kernel_rfl) (by kernel_rfl) (by kernel_rfl) (fun _ _ _ h => h) (Or.inl ⟨by rfl, ?hy17⟩) (by assumption) ?rest17
          case hy17 => (intro w hSw; (try dsimp only at hSw); simp only [List.getElem_toArray, List.getElem_cons_zero, List.getElem_cons_succ]; go_simp; (try with_reducible rfl))
          (try simp only [Act.put, List.getElem_toArray, List.getElem_cons_zero, List.getElem_cons_succ, List.setIfInBounds_toArray, List.set_cons_zero, List.set_cons_succ])
          refine wpAnyH_take (i := 16) (v := ?v18) rfl (by kernel_rfl) (by kernel_rfl) (by kernel_rfl) (fun _ _ _ h => h) (Or.inl ⟨by rfl, ?hy18⟩) (by assumption) ?rest18
          case hy18 => (intro w hSw; (try dsimp only at hSw); simp only [List.getElem_toArray, List.getElem_cons_zero, List.getElem_cons_succ]; go_simp; (try with_reducible rfl))
          (try simp only [Act.put, List.getElem_toArray, List.getElem_cons_zero, List.getElem_cons_succ, List.setIfInBounds_toArray, List.set_cons_zero, List.set_cons_succ])
          refine wpAnyH_take (i := 18) (v := ?v19) rfl (by kernel_rfl) (by kernel_rfl) (by kernel_rfl) (fun _ _ _ h => h) (Or.inl ⟨by rfl, ?hy19⟩) (by assumption) ?rest19
          case hy19 => (intro w hSw; (try dsimp only at hSw); simp only [List.getElem_toArray, List.getElem_cons_zero, List.getElem_cons_succ]; go_simp; (try with_reducible rfl))
          (try simp only [Act.put, List.getElem_toArray, List.getElem_cons_zero, List.getElem_cons_succ, List.setIfInBounds_toArray, List.set_cons_zero, List.set_cons_succ])
          refine wpAnyH_take (i := 19) (v := ?v20) rfl (by kernel_rfl) (by kernel_rfl) (by kernel_rfl) (fun _ _ _ h => h) (Or.inl ⟨by rfl, ?hy20⟩) (by assumption) ?rest20
          case hy20 => (intro w hSw; (try dsimp only at hSw); simp only [List.getElem_toArray, List.getElem_cons_zero, List.getElem_cons_succ]; go_simp; (try with_reducible rfl))
          (try simp only [Act.put, List.getElem_toArray, List.getElem_cons_zero, List.getElem_cons_succ, List.setIfInBounds_toArray, List.set_cons_zero, List.set_cons_succ])
          refine wpAnyH_take (i := 20) (v := ?v21) rfl (by kernel_rfl) (by kernel_rfl) (by kernel_rfl) (fun _ _ _ h => h) (Or.inl ⟨by rfl, ?hy21⟩) (by assumption) ?rest21
          case hy21 => (intro w hSw; (try dsimp only at hSw); simp only [List.getElem_toArray, List.getElem_cons_zero, List.getElem_cons_succ]; go_simp; (try with_reducible rfl))
          (try simp only [Act.put, List.getElem_toArray, List.getElem_cons_zero, List.getElem_cons_succ, List.setIfInBounds_toArray, List.set_cons_zero, List.set_cons_succ])
          refine wpAnyH_take (i := 21) (v := ?v22) rfl (by kernel_rfl) (by kernel_rfl) (by kernel_rfl) (fun _ _ _ h => h) (Or.inl ⟨by rfl, ?hy22⟩) (by assumption) ?rest22
          case hy22 => (intro w hSw; (try dsimp only at hSw); simp only [List.getElem_toArray, List.getElem_cons_zero, List.getElem_cons_succ]; go_simp; (try with_reducible rfl))
          (try simp only [Act.put, List.getElem_toArray, List.getElem_cons_zero, List.getElem_cons_succ, List.setIfInBounds_toArray, List.set_cons_zero, List.set_cons_succ])
          refine wpAnyH_take (i := 22) (v := ?v23) rfl (by kernel_rfl) (by kernel_rfl) (by kernel_rfl) (fun _ _ _ h => h) (Or.inl ⟨by rfl, ?hy23⟩) (by assumption) ?rest23
          case hy23 => (intro w hSw; (try dsimp only at hSw); simp only [List.getElem_toArray, List.getElem_cons_zero, List.getElem_cons_succ]; go_simp; (try with_reducible rfl))
          (try simp only [Act.put, List.getElem_toArray, List.getElem_cons_zero, List.getElem_cons_succ, List.setIfInBounds_toArray, List.set_cons_zero, List.set_cons_succ])
          refine wpAnyH_take (i := 23) (v := ?v24) rfl (by kernel_rfl) (by kernel_rfl) (by kernel_rfl) (fun _ _ _ h => h) (Or.inl ⟨by rfl, ?hy24⟩) (by assumption) ?rest24
          case hy24 => (intro w hSw; (try dsimp only at hSw); simp only [List.getElem_toArray, List.getElem_cons_zero, List.getElem_cons_succ]; go_simp; (try with_reducible rfl))
          (try simp only [Act.put, List.getElem_toArray, List.getElem_cons_zero, List.getElem_cons_succ, List.setIfInBounds_toArray, List.set_cons_zero, List.set_cons_succ])
          refine wpAnyH_take (i := 24) (v := ?v25) rfl (by kernel_rfl) (by kernel_rfl) (by kernel_rfl) (fun _ _ _ h => h) (Or.inl ⟨by rfl, ?hy25⟩) (by assumption) ?rest25
          case hy25 => (intro w hSw; (try dsimp only at hSw); simp only [List.getElem_toArray, List.getElem_cons_zero, List.getElem_cons_succ]; go_simp; (try with_reducible rfl))
          (try simp only [Act.put, List.getElem_toArray, List.getElem_cons_zero, List.getElem_cons_succ, List.setIfInBounds_toArray, List.set_cons_zero, List.set_cons_succ])
          refine wpAnyH_take (i := 25) (v := ?v26) rfl (by kernel_rfl) (by kernel_rfl) (by kernel_rfl) (fun _ _ _ h => h) (Or.inl ⟨by rfl, ?hy26⟩) (by assumption) ?rest26
          case hy26 => (intro w hSw; (try dsimp only at hSw); simp only [List.getElem_toArray, List.getElem_cons_zero, List.getElem_cons_succ]; go_simp; (try with_reducible rfl))
          (try simp only [Act.put, List.getElem_toArray, List.getElem_cons_zero, List.getElem_cons_succ, List.setIfInBounds_toArray, List.set_cons_zero, List.set_cons_succ])
          refine wpAnyH_take (i := 26) (v := ?v27) rfl (by kernel_rfl) (by kernel_rfl) (by kernel_rfl) (fun _ _ _ h => h) (Or.inl ⟨by rfl, ?hy27⟩) (by assumption) ?rest27
          case hy27 => (intro w hSw; (try dsimp only at hSw); simp only [List.getElem_toArray, List.getElem_cons_zero, List.getElem_cons_succ]; go_simp; (try with_reducible rfl))
          (try simp only [Act.put, List.getElem_toArray, List.getElem_cons_zero, List.getElem_cons_succ, List.setIfInBounds_toArray, List.set_cons_zero, List.set_cons_succ])
          refine wpAnyH_take (i := 27) (v := ?v28) rfl (by kernel_rfl) (by kernel_rfl) (by kernel_rfl) (fun _ _ _ h => h) (Or.inl ⟨by rfl, ?hy28⟩) (by assumption) ?rest28
          case hy28 => (intro w hSw; (try dsimp only at hSw); simp only [List.getElem_toArray, List.getElem_cons_zero, List.getElem_cons_succ]; go_simp; (try with_reducible rfl))
          (try simp only [Act.put, List.getElem_toArray, List.getElem_cons_zero, List.getElem_cons_succ, List.setIfInBounds_toArray, List.set_cons_zero, List.set_cons_succ])
          refine wpAnyH_take (i := 28) (v := ?v29) rfl (by kernel_rfl) (by kernel_rfl) (by kernel_rfl) (fun _ _ _ h => h) (Or.inl ⟨by rfl, ?hy29⟩) (by assumption) ?rest29
          case hy29 => (intro w hSw; (try dsimp only at hSw); simp only [List.getElem_toArray, List.getElem_cons_zero, List.getElem_cons_succ]; go_simp; (try with_reducible rfl))
          (try simp only [Act.put, List.getElem_toArray, List.getElem_cons_zero, List.getElem_cons_succ, List.setIfInBounds_toArray, List.set_cons_zero, List.set_cons_succ])
          refine wpAnyH_ready (rs := [17]) (by kernel_rfl) (by simp) ?_
          refine AllReadyH.cons rfl (fun KK hK => ?_) AllReadyH.nil
          simp only [List.getElem_toArray, List.getElem_cons_zero, List.getElem_cons_succ]
          go_simp
          refine (HUs.out _ O8).mono ?_
          rintro e W9 ⟨rfl, o1⟩
          have O9 : Out 0 0 W6 W9 := O8.trans o1
          clear O8
          refine hK.out _ _ ?hS30 (fun hHeld2 => ?rest30)
          case hS30 => exact ⟨o1.cell hHeld.1 (.inr (Nat.zero_le _)), o1.cell hHeld.2.1 (.inr (Nat.zero_le _)), o1.cell hHeld.2.2 (.inr (Nat.zero_le _))⟩
          clear o1
          clear hK KK
          (try clear hHeld)
          have hHeld := hHeld2
          clear hHeld2
          (try simp only [Act.put, List.getElem_toArray, List.getElem_cons_zero, List.getElem_cons_succ, List.setIfInBounds_toArray, List.set_cons_zero, List.set_cons_succ])
          refine wpAnyH_take (i := 29) (v := ?v31) rfl (by kernel_rfl) (by kernel_rfl) (by kernel_rfl) (fun _ _ _ h => h) (Or.inl ⟨by rfl, ?hy31⟩) (by assumption) ?rest31
          case hy31 => (intro w hSw; (try dsimp only at hSw); simp only [List.getElem_toArray, List.getElem_cons_zero, List.getElem_cons_succ]; go_simp; (try with_reducible rfl))
          (try simp only [Act.put, List.getElem_toArray, List.getElem_cons_zero, List.getElem_cons_succ, List.setIfInBounds_toArray, List.set_cons_zero, List.set_cons_succ])
          refine wpAnyH_take (i := 30) (v := ?v32) rfl (by kernel_rfl) (by kernel_rfl) (by kernel_rfl) (fun _ _ _ h => h) (Or.inl ⟨by rfl, ?hy32⟩) (by assumption) ?rest32
          case hy32 => (intro w hSw; (try dsimp only at hSw); simp only [List.getElem_toArray, List.getElem_cons_zero, List.getElem_cons_succ]; go_simp; (try with_reducible rfl))
          (try simp only [Act.put, List.getElem_toArray, List.getElem_cons_zero, List.getElem_cons_succ, List.setIfInBounds_toArray, List.set_cons_zero, List.set_cons_succ])
          refine wpAnyH_done (by kernel_rfl) ?_ _
          clear hHeld
          have HW9 := hid_mk (HW6.out.kept O9 (.inr (Nat.zero_le _)))
          have HKp := hid_mk (keepNil (HS6.out.quiet O9) HJ2.out.2.2.1)
          have HO9 := hid_mk (HO6.out.trans O9)
          obtain ⟨g0, g1, _, _, _⟩ := HW9.out.cells
          have hbk := bare_keep HS6.out.2
          have HBk := hid_mk hbk
          clear O9 OZ HUs hcv1 hcv2 hdv hnv hwu hwn HW6 f0 hbk
          go_wp2_with fail
          refine HKp.out.mono ?_
          rintro e wa ⟨rfl, hsa, hoa⟩
          have hLb := HL.out
          have HWa := hid_mk (HW9.out.kept hoa (.inl hLb.2))
          have HSa := hid_mk hsa
          have HOa := hid_mk (HO9.out.past hoa (by omega))
          have HUa := hid_mk (use_any hsa.1 (told_of _) (rooms_of hsa.2) (v := 0) (by rw [used_bare HBk.out.1]; exact use_zero HN1.out.1 HN1.out.2))
          have ga := HWa.out.cells.2.1
          have hoz := order_zero
          have hMM2 : ((M : Int) != (M : Int)) = false := by simp
          clear hsa hoa hLb HKp g0 g1
          go_wp2_with (go_at_call 17; refine HUa.out.mono ?_; rintro e wb ⟨rfl, ho⟩; have HWb := hid_mk (And.intro (HWa.out.kept ho (.inr (Nat.zero_le _))) (And.intro (HSa.out.quiet ho) (HOa.out.trans ho))); clear ho)
          go_roundw
          case rel => exact ⟨k + 1, _, by go_num, by omega, HWb.out.1, HWb.out.2.1, HBk.out.1, by rw [HBk.out.2, HJ2.out.1]; push_cast; rw [Int.add_mul]; omega, HWb.out.2.2⟩
          case measure => simp [intOf]; omega
    · have e : k = 2 := by omega
      subst e
      have HD := hid_mk (dump_any H0.out.2.1.1 (told_of _))
      rw [show (rawOf N st).last = 2 * (M : Int) from H0.out.2.2.2.1] at HD
      have g1 := H0.out.1.cells.2.1
      clear hk k2
      go_wp2_with fail
      refine HD.out.mono ?_
      rintro e w5 ⟨gw, cw, gp, cp, vb, rfl, hdm, ho⟩
      have HO5 := hid_mk (H0.out.2.2.2.2.trans ho)
      have hEE : ((2 * (M : Int)) == 2 * (M : Int)) = true := by simp
      have hfs := field_ser
      clear hdm ho HD
      go_wp2
      go_ret
      exact ⟨rfl, HO5.out⟩
set_option maxRecDepth 100000 in
set_option maxHeartbeats 16000000 in
theorem fills_great {w : World} (hT : Tab w) (n0 p0 : Int) (hn : -9223372036854775808 ≤ n0 ∧ n0 ≤ 9223372036854775807) (hp : -9223372036854775808 ≤ p0 ∧ p0 ≤ 9223372036854775807) {N : Nat} (hN : 1 + wth n0 12 = (N : Int)) {z : Int} (hz : 1 + wth p0 1024 = z) (h32 : 32 < z) :
    Calls Tryd.prog 4 #[.int .i64 n0, .int .i64 p0] w fun e w' => e = .returned (.bool true) ∧ Out 0 0 w w' := by
  have z1 : 1 ≤ z := by have := wth_ge p0 1024 (by decide); omega
  have z2 : z ≤ 1024 := by have := wth_lt p0 1024 (by decide); omega
  have N1 : 1 ≤ N ∧ N ≤ 12 := by have := wth_ge n0 12 (by decide); have := wth_lt n0 12 (by decide); omega
  obtain ⟨M, hM⟩ : ∃ M, mostN N z = M := ⟨_, rfl⟩
  obtain ⟨q, hq⟩ : ∃ q, roomN z = q := ⟨_, rfl⟩
  have hml := most_le N1.1 N1.2 z1 z2
  have hus := use_some N1.1 N1.2 (most_room (n := N) z1 z2)
  have hbd : M ≤ 384 ∧ M * q ≤ 768 ∧ q ≤ 1024 ∧ 1 ≤ q := by rw [← hM, ← hq]; exact hml
  have n5 : (1 : Int) ≤ (N : Int) := by clear hus hml; omega
  have n6 : (N : Int) ≤ 12 := by clear hus hml; omega
  have m5 : (0 : Int) ≤ (M : Int) := by clear hus hml; omega
  have m6 : (M : Int) ≤ 384 := by clear hus hml; omega
  have q5 : (1 : Int) ≤ (q : Int) := by clear hus hml; omega
  have q6 : (q : Int) ≤ 1024 := by clear hus hml; omega
  rw [hM, hq] at hus
  obtain ⟨v, hv, hvv⟩ := hus
  have hk := run_k h32 z2
  have hq2 : (q : Int) = (z + 63) / 64 * 64 := by rw [← hq, room_great h32]; push_cast; rw [hk.2.2]
  have hcl : clsT z = (8, (q : Int), 0) := by unfold clsT; rw [if_neg (by omega), hq2]
  have hQ : (q : Int) / 64 = (z + 63) / 64 := by omega
  obtain ⟨x, hx⟩ : ∃ x : Nat, (z + 63) / 64 = (x : Int) := ⟨((z + 63) / 64).toNat, by omega⟩
  rw [hx] at hQ
  have x0 : (0 : Int) < (x : Int) := by omega
  have x1 : (x : Int) ≠ 0 := by omega
  have hM2 : mostN N z = N / x := by unfold mostN; rw [if_pos h32, show ((z + 63) / 64).toNat = x from by omega]
  have hD : (N : Int) / (x : Int) = (M : Int) := by rw [← hM, hM2]; push_cast; rfl
  have HCl := hid_mk (fun w' (hT' : Tab w') => classOf_any hT' z z1 z2 hcl)
  obtain ⟨m, hm, hm2⟩ := wth_nat p0 1024 (by decide)
  have HW2 := hid_mk (fun w' => within_any p0 1024 w' hp.1 hp.2 (by decide) (by decide))
  rw [hm] at HW2 hz
  have HBg := hid_mk (begun_any hT n0 hn.1 hn.2 hN)
  have HT := hid_mk hT
  have HZ := hid_mk (And.intro z1 z2)
  have HN1 := hid_mk N1
  have HM := hid_mk hM
  have HQ := hid_mk hq
  have HV := hid_mk hv
  have HB3 := hid_mk hbd
  clear hT hn hp hN hM hq hml hbd hcl hm hm2 N1 hv hk hq2 hx hM2 h32
  go_enter Tryd.func4, Tryd.ntmps4
  go_wp2_with fail
  refine HBg.out.mono ?_
  rintro e w1 ⟨b, lo, hi, s, cap, rfl, hw1, hs1, hb1, hb2, ho1⟩
  have HAl := hid_mk (alive_any (HT.out.quiet ho1))
  have HW1 := hid_mk (And.intro hw1 hs1)
  have HL := hid_mk (And.intro hb1 hb2)
  have HO1 := hid_mk ho1
  clear hw1 hs1 hb1 hb2 ho1 HBg
  go_wp2_with fail
  refine HAl.out.mono ?_
  rintro e w2 ⟨rfl, ho⟩
  have HW3 := hid_mk (And.intro (HW1.out.1.kept ho (.inr (Nat.zero_le _))) (HW1.out.2.quiet ho))
  have HO2 := hid_mk (HO1.out.trans ho)
  clear ho
  go_wp2_with (go_at_call 15; refine calls_same (HW2.out _) ?_)
  refine (HCl.out _ (HT.out.quiet HO2.out)).mono ?_
  rintro e w3 ⟨rfl, ho⟩
  have HW4 := hid_mk (And.intro (HW3.out.1.kept ho (.inr (Nat.zero_le _))) (HW3.out.2.quiet ho))
  have HO3 := hid_mk (HO2.out.trans ho)
  obtain ⟨g0, g1, g2, g3, g4⟩ := HW4.out.1.cells
  clear ho g1 g2 g3 g4
  go_wp2_with fail
  clear g0 hQ x0 x1 hD HW1 HW3 HCl HW2 HAl HO1 HO2
  go_loopw [11] (fun u wr => ∃ (k : Nat) (st : Sp), u = .int .i64 (k : Int) ∧ k ≤ 2 ∧ WAt wr b N (s 14) (.slice none 0 0) 0 ∧ SpAt wr lo hi s N cap st ∧ Bare N st ∧ st.last = (k : Int) * (M : Int) ∧ Out 0 0 w wr) (fun u _ => (2 - intOf u).toNat)
  case atStart => exact ⟨0, newSp, rfl, by omega, HW4.out.1, HW4.out.2, bare_new N, by show (0 : Int) = _; simp, HO3.out⟩
  case round =>
    clear HW4 HO3
    obtain ⟨k, st, rfl, k2, hw, hs, hbr, hl, ho⟩ := hrel
    have k0 : (0 : Int) ≤ (k : Int) := by omega
    have k2' : (k : Int) ≤ 2 := by omega
    have HKM : Hid (0 ≤ (k : Int) * (M : Int) ∧ (k : Int) * (M : Int) ≤ 768) := by
      show _ ∧ _
      have : k = 0 ∨ k = 1 ∨ k = 2 := by omega
      rcases this with rfl | rfl | rfl <;> simp <;> omega
    have H0 := hid_mk (And.intro hw (And.intro hs (And.intro hbr (And.intro hl ho))))
    clear hw hs hbr hl ho
    by_cases hk : k < 2
    · have k1 : (k : Int) < 2 := by omega
      go_wp2_with fail
      go_loopw [12] (fun u wr => ∃ (i : Nat) (st : Sp), u = .int .i64 (i : Int) ∧ i ≤ M ∧ WAt wr b N (s 14) (.slice none 0 0) 0 ∧ SpAt wr lo hi s N cap st ∧ Rt N st ∧ Fill N z i st ∧ st.last = (k : Int) * (M : Int) + (i : Int) ∧ usedTo (rawOf N st) (64 * N) = i * q ∧ freedTo (rawOf N st) (fun _ => false) (64 * N) = i ∧ Out 0 0 w wr) (fun u _ => M - (intOf u).toNat)
      case atStart => exact ⟨0, st, rfl, Nat.zero_le _, H0.out.1, H0.out.2.1, bare_rt H0.out.2.2.1, bare_fill H0.out.2.2.1 z, by rw [H0.out.2.2.2.1]; simp, by rw [used_bare H0.out.2.2.1]; simp, freed_bare H0.out.2.2.1 _, H0.out.2.2.2.2⟩
      case round =>
        clear H0
        obtain ⟨i, st', rfl, i1, jw, js, jr, jf, jl, ju, jd, jo⟩ := hrel
        have hst := fill_step z1 z2 js.2 jr jf
        rw [HM.out, HQ.out] at hst
        have i0 : (0 : Int) ≤ (i : Int) := by omega
        have hll : st'.last < 4611686018427387904 := by have := HKM.out; rw [jl]; omega
        obtain ⟨g0, g1, g2, g3, g4⟩ := jw.cells
        clear g2 g3 g4
        have HJ := hid_mk (And.intro jw (And.intro js (And.intro jl (And.intro ju (And.intro jd jo)))))
        by_cases hi : i < M
        · have i2 : (i : Int) < (M : Int) := by omega
          obtain ⟨a, st2, e1, e2, e3, e4, e5, e6, e7⟩ := hst.1 hi
          have HAc := hid_mk (alloc_is js (by omega) (by omega) hll e1)
          have HE := hid_mk (And.intro e2 (And.intro e3 (And.intro e4 (And.intro e5 (And.intro e6 e7)))))
          clear hst jw js jr jf jl ju jd jo hll e1 e2 e3 e4 e5 e6 e7
          go_wp2_with fail
          refine HAc.out.mono ?_
          rintro e w5 ⟨rfl, hs5, ho5⟩
          have H5 := hid_mk (And.intro hs5 ho5)
          clear hs5 ho5 g0 g1 HAc
          go_wp2
          go_roundw
          case rel =>
            have hA := (Out.refl 0 0 w5).alloc (.cells #[.int .i64 0, .int .i64 0] 43)
            have hLb := HL.out
            refine ⟨i + 1, st2, by go_num, by omega, (HJ.out.1.kept H5.out.2 (.inl hLb.2)).kept hA (.inr (Nat.zero_le _)), H5.out.1.quiet hA, HE.out.2.1, HE.out.2.2.1, ?_, ?_, ?_, (HJ.out.2.2.2.2.2.past H5.out.2 (by omega)).trans hA⟩
            · rw [HE.out.2.2.2.1, HJ.out.2.2.1]; push_cast; omega
            · rw [HE.out.2.2.2.2.1, HJ.out.2.2.2.1, Nat.succ_mul]
            · rw [HE.out.2.2.2.2.2, HJ.out.2.2.2.2.1]
          case measure => simp [intOf]; omega
        · have e : M = i := by omega
          obtain ⟨e1, e2⟩ := hst.2 (by omega)
          have HAc := hid_mk (alloc_is js (by omega) (by omega) hll e1)
          have HE := hid_mk e2
          have hMM : ((i : Int) != (i : Int)) = false := by simp
          have hlt : decide ((i : Int) < (i : Int)) = false := by simp
          subst e
          clear hst jw js jr jf jl ju jd jo hll e1 e2 hi
          go_wp2_with fail
          refine HAc.out.mono ?_
          rintro e w5 ⟨rfl, hs5, ho5⟩
          have H5 := hid_mk (And.intro hs5 ho5)
          clear hs5 ho5 HAc g0 g1
          go_wp2_with fail
          obtain ⟨W6, hW6⟩ : ∃ W, w5.alloc (.cells #[.int .i64 20, .int .i64 0] 43) = W := ⟨_, rfl⟩
          obtain ⟨B5, hB5⟩ : ∃ B, w5.heap.size = B := ⟨_, rfl⟩
          have hA : Out 0 0 w5 W6 := by rw [← hW6]; exact (Out.refl 0 0 w5).alloc _
          have hF : W6.heap[B5]? = some (.cells #[.int .i64 20, .int .i64 0] 43 (0, 0)) := by rw [← hW6, ← hB5]; exact heap_alloc_new _ _
          have hLb := HL.out
          have HW6 := hid_mk ((HJ.out.1.kept H5.out.2 (.inl hLb.2)).kept hA (.inr (Nat.zero_le _)))
          have HS6 := hid_mk (H5.out.1.quiet hA)
          have HO6 := hid_mk ((HJ.out.2.2.2.2.2.past H5.out.2 (by omega)).trans hA)
          obtain ⟨f0, f1, f2, f3⟩ := flt_facts hF
          obtain ⟨g0, g1, _, _, _⟩ := HW6.out.cells
          have HJ2 := hid_mk HJ.out.2.2
          rw [hW6, hB5]
          clear hA hLb HJ f1 f2 f3 hF hW6 hB5 H5
          obtain ⟨u, hu⟩ : ∃ u, M * q = u := ⟨_, rfl⟩
          have hub : u ≤ 768 := by rw [← hu]; exact HB3.out.2.1
          have huI : (M : Int) * (q : Int) = (u : Int) := by rw [← hu]; push_cast; rfl
          have hwu : IntKind.i64.wrap ((M : Int) * (q : Int)) = (u : Int) := by rw [huI]; exact wrap_small (by omega) (by omega)
          have hwn : IntKind.i64.wrap (64 * (N : Int)) = 64 * (N : Int) := wrap_small (by omega) (by omega)
          have hv := HV.out
          rw [hu] at hv
          have HUs := hid_mk (fun W (o : Out 0 0 W6 W) => use_any (HS6.out.quiet o).1 (told_of _) (rooms_of HS6.out.2) (v := v) (by rw [HJ2.out.2.1, hu]; exact hv))
          have hcv1 : ∀ wx, (convert 3 50 (.int .i64 (u : Int))).run Tryd.prog wx = .ok (.float .f64 (floatOfInt .f64 (u : Int))) wx := fun wx => run_convert_int_float wx _ _ _ _ _ (by rw [Tryd.underlying3]; rfl) Tryd.underlying50
          have hcv2 : ∀ wx, (convert 3 50 (.int .i64 (64 * (N : Int)))).run Tryd.prog wx = .ok (.float .f64 (floatOfInt .f64 (64 * (N : Int)))) wx := fun wx => run_convert_int_float wx _ _ _ _ _ (by rw [Tryd.underlying3]; rfl) Tryd.underlying50
          have hdv : ∀ wx, (binOp .quo 50 (.float .f64 (floatOfInt .f64 (u : Int))) (.float .f64 (floatOfInt .f64 (64 * (N : Int))))).run Tryd.prog wx = .ok (.float .f64 v) wx := fun wx => run_float_arith wx _ _ _ _ _ _ hv
          have hnv : (FloatKind.f64.format.order v v != some Ordering.eq) = false := by rw [hvv]; rfl
          have HUB := hid_mk (And.intro hub huI)
          clear hv hub huI
          generalize floatOfInt .f64 (u : Int) = x1 at hcv1 hdv
          generalize floatOfInt .f64 (64 * (N : Int)) = x2 at hcv2 hdv
          refine wp_region_held_drew (S := fun w' => w'.cell? ⟨B5, 0, none⟩ = some (.int .i64 20) ∧ w'.cell? ⟨b, 0, none⟩ = some (.int .i64 (N : Int)) ∧ w'.cell? ⟨b, 1, none⟩ = some (.pointer (some ⟨s 14, 0, none⟩))) (by kernel_rfl) ?hS33 (fun hHeld => ?rest33)
          case hS33 => exact ⟨f0, g0, g1⟩
          obtain ⟨Z, hZ⟩ : ∃ Z, W6.drew = Z := ⟨_, rfl⟩
          have OZ : Out 0 0 W6 Z := by rw [← hZ]; exact (Out.refl 0 0 W6).drew
          rw [hZ] at hHeld ⊢
          clear hZ
          refine wpAnyH_take (i := 0) (v := ?v34) rfl (by kernel_rfl) (by kernel_rfl) (by kernel_rfl) (fun _ _ _ h => h) (Or.inl ⟨by rfl, ?hy34⟩) (by assumption) ?rest34
          case hy34 => (intro w hSw; (try dsimp only at hSw); simp only [List.getElem_toArray, List.getElem_cons_zero, List.getElem_cons_succ]; go_simp; (try with_reducible rfl))
          (try simp only [Act.put, List.getElem_toArray, List.getElem_cons_zero, List.getElem_cons_succ, List.setIfInBounds_toArray, List.set_cons_zero, List.set_cons_succ])
          refine wpAnyH_take (i := 1) (v := ?v35) rfl (by kernel_rfl) (by kernel_rfl) (by kernel_rfl) (fun _ _ _ h => h) (Or.inl ⟨by rfl, ?hy35⟩) (by assumption) ?rest35
          case hy35 => (intro w hSw; (try dsimp only at hSw); simp only [List.getElem_toArray, List.getElem_cons_zero, List.getElem_cons_succ]; go_simp; (try with_reducible rfl))
          (try simp only [Act.put, List.getElem_toArray, List.getElem_cons_zero, List.getElem_cons_succ, List.setIfInBounds_toArray, List.set_cons_zero, List.set_cons_succ])
          refine wpAnyH_take (i := 2) (v := ?v36) rfl (by kernel_rfl) (by kernel_rfl) (by kernel_rfl) (fun _ _ _ h => h) (Or.inl ⟨by rfl, ?hy36⟩) (by assumption) ?rest36
          case hy36 => (intro w hSw; (try dsimp only at hSw); simp only [List.getElem_toArray, List.getElem_cons_zero, List.getElem_cons_succ]; go_simp; (try with_reducible rfl))
          (try simp only [Act.put, List.getElem_toArray, List.getElem_cons_zero, List.getElem_cons_succ, List.setIfInBounds_toArray, List.set_cons_zero, List.set_cons_succ])
          refine wpAnyH_take (i := 3) (v := ?v37) rfl (by kernel_rfl) (by kernel_rfl) (by kernel_rfl) (fun _ _ _ h => h) (Or.inl ⟨by rfl, ?hy37⟩) (by assumption) ?rest37
          case hy37 => (intro w hSw; (try dsimp only at hSw); simp only [List.getElem_toArray, List.getElem_cons_zero, List.getElem_cons_succ]; go_simp; (try with_reducible rfl))
          (try simp only [Act.put, List.getElem_toArray, List.getElem_cons_zero, List.getElem_cons_succ, List.setIfInBounds_toArray, List.set_cons_zero, List.set_cons_succ])
          refine wpAnyH_take (i := 4) (v := ?v38) rfl (by kernel_rfl) (by kernel_rfl) (by kernel_rfl) (fun _ _ _ h => h) (Or.inl ⟨by rfl, ?hy38⟩) (by assumption) ?rest38
          case hy38 => (intro w hSw; (try dsimp only at hSw); simp only [List.getElem_toArray, List.getElem_cons_zero, List.getElem_cons_succ]; go_simp; (try with_reducible rfl))
          (try simp only [Act.put, List.getElem_toArray, List.getElem_cons_zero, List.getElem_cons_succ, List.setIfInBounds_toArray, List.set_cons_zero, List.set_cons_succ])
          refine wpAnyH_take (i := 5) (v := ?v39) rfl (by kernel_rfl) (by kernel_rfl) (by kernel_rfl) (fun _ _ _ h => h) (Or.inl ⟨by rfl, ?hy39⟩) (by assumption) ?rest39
          case hy39 => (intro w hSw; (try dsimp only at hSw); simp only [List.getElem_toArray, List.getElem_cons_zero, List.getElem_cons_succ]; go_simp; (try with_reducible rfl))
          (try simp only [Act.put, List.getElem_toArray, List.getElem_cons_zero, List.getElem_cons_succ, List.setIfInBounds_toArray, List.set_cons_zero, List.set_cons_succ])
          refine wpAnyH_take (i := 6) (v := ?v40) rfl (by kernel_rfl) (by kernel_rfl) (by kernel_rfl) (fun _ _ _ h => h) (Or.inl ⟨by rfl, ?hy40⟩) (by assumption) ?rest40
          case hy40 => (intro w hSw; (try dsimp only at hSw); simp only [List.getElem_toArray, List.getElem_cons_zero, List.getElem_cons_succ]; go_simp; (try with_reducible rfl))
          (try simp only [Act.put, List.getElem_toArray, List.getElem_cons_zero, List.getElem_cons_succ, List.setIfInBounds_toArray, List.set_cons_zero, List.set_cons_succ])
          refine wpAnyH_take (i := 7) (v := ?v41) rfl (by kernel_rfl) (by kernel_rfl) (by kernel_rfl) (fun _ _ _ h => h) (Or.inl ⟨by rfl, ?hy41⟩) (by assumption) ?rest41
          case hy41 => (intro w hSw; (try dsimp only at hSw); simp only [List.getElem_toArray, List.getElem_cons_zero, List.getElem_cons_succ]; go_simp; (try with_reducible rfl))
          (try simp only [Act.put, List.getElem_toArray, List.getElem_cons_zero, List.getElem_cons_succ, List.setIfInBounds_toArray, List.set_cons_zero, List.set_cons_succ])
          refine wpAnyH_take (i := 8) (v := ?v42) rfl (by kernel_rfl) (by kernel_rfl) (by kernel_rfl) (fun _ _ _ h => h) (Or.inl ⟨by rfl, ?hy42⟩) (by assumption) ?rest42
          case hy42 => (intro w hSw; (try dsimp only at hSw); simp only [List.getElem_toArray, List.getElem_cons_zero, List.getElem_cons_succ]; go_simp; (try with_reducible rfl))
          (try simp only [Act.put, List.getElem_toArray, List.getElem_cons_zero, List.getElem_cons_succ, List.setIfInBounds_toArray, List.set_cons_zero, List.set_cons_succ])
          refine wpAnyH_ready (rs := [9]) (by kernel_rfl) (by simp) ?_
          refine AllReadyH.cons rfl (fun KK hK => ?_) AllReadyH.nil
          simp only [List.getElem_toArray, List.getElem_cons_zero, List.getElem_cons_succ]
          go_simp
          obtain ⟨W7, hW7⟩ : ∃ W, Z.alloc (.cells #[.int .i64 z] 3) = W := ⟨_, rfl⟩
          obtain ⟨B7, hB7⟩ : ∃ B, Z.heap.size = B := ⟨_, rfl⟩
          have o1 : Out 0 0 Z W7 := by rw [← hW7]; exact (Out.refl 0 0 _).alloc _
          have hF7 : W7.heap[B7]? = some (.cells #[.int .i64 z] 3 (0, 0)) := by rw [← hW7, ← hB7]; exact heap_alloc_new _ _
          have O7 : Out 0 0 W6 W7 := OZ.trans o1
          (try rw [hW7])
          (try rw [hB7])
          clear hW7 hB7
          refine hK.out _ _ ?hS43 (fun hHeld2 => ?rest43)
          case hS43 => exact ⟨o1.cell hHeld.1 (.inr (Nat.zero_le _)), o1.cell hHeld.2.1 (.inr (Nat.zero_le _)), o1.cell hHeld.2.2 (.inr (Nat.zero_le _))⟩
          clear o1
          clear hK KK
          (try clear hHeld)
          have hHeld := hHeld2
          clear hHeld2
          (try simp only [Act.put, List.getElem_toArray, List.getElem_cons_zero, List.getElem_cons_succ, List.setIfInBounds_toArray, List.set_cons_zero, List.set_cons_succ])
          refine wpAnyH_ready (rs := [10]) (by kernel_rfl) (by simp) ?_
          refine AllReadyH.cons rfl (fun KK hK => ?_) AllReadyH.nil
          simp only [List.getElem_toArray, List.getElem_cons_zero, List.getElem_cons_succ]
          go_simp
          refine (fitsNo (HS6.out.quiet O7) HZ.out.1 HZ.out.2 HE.out hF7).mono ?_
          rintro e W8 ⟨rfl, o1⟩
          have O8 : Out 0 0 W6 W8 := O7.trans o1
          clear O7 hF7
          refine hK.out _ _ ?hS44 (fun hHeld2 => ?rest44)
          case hS44 => exact ⟨o1.cell hHeld.1 (.inr (Nat.zero_le _)), o1.cell hHeld.2.1 (.inr (Nat.zero_le _)), o1.cell hHeld.2.2 (.inr (Nat.zero_le _))⟩
          clear o1
          clear hK KK
          (try clear hHeld)
          have hHeld := hHeld2
          clear hHeld2
          (try simp only [Act.put, List.getElem_toArray, List.getElem_cons_zero, List.getElem_cons_succ, List.setIfInBounds_toArray, List.set_cons_zero, List.set_cons_succ])
          refine wpAnyH_take (i := 11) (v := ?v45) rfl (by kernel_rfl) (by kernel_rfl) (by kernel_rfl) (fun _ _ _ h => h) (Or.inl ⟨by rfl, ?hy45⟩) (by assumption) ?rest45
          case hy45 => (intro w hSw; (try dsimp only at hSw); simp only [List.getElem_toArray, List.getElem_cons_zero, List.getElem_cons_succ]; go_simp; (try with_reducible rfl))
          (try simp only [Act.put, List.getElem_toArray, List.getElem_cons_zero, List.getElem_cons_succ, List.setIfInBounds_toArray, List.set_cons_zero, List.set_cons_succ])
          refine wpAnyH_take (i := 12) (v := ?v46) rfl (by kernel_rfl) (by kernel_rfl) (by kernel_rfl) (fun _ _ _ h => h) (Or.inl ⟨by rfl, ?hy46⟩) (by assumption) ?rest46
          case hy46 => (intro w hSw; (try dsimp only at hSw); simp only [List.getElem_toArray, List.getElem_cons_zero, List.getElem_cons_succ]; go_simp; (try with_reducible rfl))
          (try simp only [Act.put, List.getElem_toArray, List.getElem_cons_zero, List.getElem_cons_succ, List.setIfInBounds_toArray, List.set_cons_zero, List.set_cons_succ])
          refine wpAnyH_take (i := 13) (v := ?v47) rfl (by kernel_rfl) (by kernel_rfl) (by kernel_rfl) (fun _ _ _ h => h) (Or.inl ⟨by rfl, ?hy47⟩) (by assumption) ?rest47
          case hy47 => (intro w hSw; (try dsimp only at hSw); simp only [List.getElem_toArray, List.getElem_cons_zero, List.getElem_cons_succ]; go_simp; (try with_reducible rfl))
          (try simp only [Act.put, List.getElem_toArray, List.getElem_cons_zero, List.getElem_cons_succ, List.setIfInBounds_toArray, List.set_cons_zero, List.set_cons_succ])
          refine wpAnyH_take (i := 14) (v := ?v48) rfl (by kernel_rfl) (by kernel_rfl) (by kernel_rfl) (fun _ _ _ h => h) (Or.inl ⟨by rfl, ?hy48⟩) (by assumption) ?rest48
          case hy48 => (intro w hSw; (try dsimp only at hSw); simp only [List.getElem_toArray, List.getElem_cons_zero, List.getElem_cons_succ]; go_simp; (try with_reducible rfl))
          (try simp only [Act.put, List.getElem_toArray, List.getElem_cons_zero, List.getElem_cons_succ, List.setIfInBounds_toArray, List.set_cons_zero, List.set_cons_succ])
          refine wpAnyH_take (i := 15) (v := ?v49) rfl (by kernel_rfl) (by kernel_rfl) (by kernel_rfl) (fun _ _ _ h => h) (Or.inl ⟨by rfl, ?hy49⟩) (by assumption) ?rest49
          case hy49 => (intro w hSw; (try dsimp only at hSw); simp only [List.getElem_toArray, List.getElem_cons_zero, List.getElem_cons_succ]; go_simp; (try with_reducible rfl))
          (try simp only [Act.put, List.getElem_toArray, List.getElem_cons_zero, List.getElem_cons_succ, List.setIfInBounds_toArray, List.set_cons_zero, List.set_cons_succ])
          refine wpAnyH_take (i := 16) (v := ?v50) rfl (by kernel_rfl) (by kernel_rfl) (by kernel_rfl) (fun _ _ _ h => h) (Or.inl ⟨by rfl, ?hy50⟩) (by assumption) ?rest50
          case hy50 => (intro w hSw; (try dsimp only at hSw); simp only [List.getElem_toArray, List.getElem_cons_zero, List.getElem_cons_succ]; go_simp; (try with_reducible rfl))
          (try simp only [Act.put, List.getElem_toArray, List.getElem_cons_zero, List.getElem_cons_succ, List.setIfInBounds_toArray, List.set_cons_zero, List.set_cons_succ])
          refine wpAnyH_take (i := 18) (v := ?v51) rfl (by kernel_rfl) (by kernel_rfl) (by kernel_rfl) (fun _ _ _ h => h) (Or.inl ⟨by rfl, ?hy51⟩) (by assumption) ?rest51
          case hy51 => (intro w hSw; (try dsimp only at hSw); simp only [List.getElem_toArray, List.getElem_cons_zero, List.getElem_cons_succ]; go_simp; (try with_reducible rfl))
          (try simp only [Act.put, List.getElem_toArray, List.getElem_cons_zero, List.getElem_cons_succ, List.setIfInBounds_toArray, List.set_cons_zero, List.set_cons_succ])
          refine wpAnyH_take (i := 19) (v := ?v52) rfl (by kernel_rfl) (by kernel_rfl) (by kernel_rfl) (fun _ _ _ h => h) (Or.inl ⟨by rfl, ?hy52⟩) (by assumption) ?rest52
          case hy52 => (intro w hSw; (try dsimp only at hSw); simp only [List.getElem_toArray, List.getElem_cons_zero, List.getElem_cons_succ]; go_simp; (try with_reducible rfl))
          (try simp only [Act.put, List.getElem_toArray, List.getElem_cons_zero, List.getElem_cons_succ, List.setIfInBounds_toArray, List.set_cons_zero, List.set_cons_succ])
          refine wpAnyH_take (i := 20) (v := ?v53) rfl (by kernel_rfl) (by kernel_rfl) (by kernel_rfl) (fun _ _ _ h => h) (Or.inl ⟨by rfl, ?hy53⟩) (by assumption) ?rest53
          case hy53 => (intro w hSw; (try dsimp only at hSw); simp only [List.getElem_toArray, List.getElem_cons_zero, List.getElem_cons_succ]; go_simp; (try with_reducible rfl))
          (try simp only [Act.put, List.getElem_toArray, List.getElem_cons_zero, List.getElem_cons_succ, List.setIfInBounds_toArray, List.set_cons_zero, List.set_cons_succ])
          refine wpAnyH_take (i := 21) (v := ?v54) rfl (by kernel_rfl) (by kernel_rfl) (by kernel_rfl) (fun _ _ _ h => h) (Or.inl ⟨by rfl, ?hy54⟩) (by assumption) ?rest54
          case hy54 => (intro w hSw; (try dsimp only at hSw); simp only [List.getElem_toArray, List.getElem_cons_zero, List.getElem_cons_succ]; go_simp; (try with_reducible rfl))
          (try simp only [Act.put, List.getElem_toArray, List.getElem_cons_zero, List.getElem_cons_succ, List.setIfInBounds_toArray, List.set_cons_zero, List.set_cons_succ])
          refine wpAnyH_take (i := 22) (v := ?v55) rfl (by kernel_rfl) (by kernel_rfl) (by kernel_rfl) (fun _ _ _ h => h) (Or.inl ⟨by rfl, ?hy55⟩) (by assumption) ?rest55
          case hy55 => (intro w hSw; (try dsimp only at hSw); simp only [List.getElem_toArray, List.getElem_cons_zero, List.getElem_cons_succ]; go_simp; (try with_reducible rfl))
          (try simp only [Act.put, List.getElem_toArray, List.getElem_cons_zero, List.getElem_cons_succ, List.setIfInBounds_toArray, List.set_cons_zero, List.set_cons_succ])
          refine wpAnyH_take (i := 23) (v := ?v56) rfl (by kernel_rfl) (by kernel_rfl) (by kernel_rfl) (fun _ _ _ h => h) (Or.inl ⟨by rfl, ?hy56⟩) (by assumption) ?rest56
          case hy56 => (intro w hSw; (try dsimp only at hSw); simp only [List.getElem_toArray, List.getElem_cons_zero, List.getElem_cons_succ]; go_simp; (try with_reducible rfl))
          (try simp only [Act.put, List.getElem_toArray, List.getElem_cons_zero, List.getElem_cons_succ, List.setIfInBounds_toArray, List.set_cons_zero, List.set_cons_succ])
          refine wpAnyH_take (i := 24) (v := ?v57) rfl (by kernel_rfl) (by kernel_rfl) (by kernel_rfl) (fun _ _ _ h => h) (Or.inl ⟨by rfl, ?hy57⟩) (by assumption) ?rest57
          case hy57 => (intro w hSw; (try dsimp only at hSw); simp only [List.getElem_toArray, List.getElem_cons_zero, List.getElem_cons_succ]; go_simp; (try with_reducible rfl))
          (try simp only [Act.put, List.getElem_toArray, List.getElem_cons_zero, List.getElem_cons_succ, List.setIfInBounds_toArray, List.set_cons_zero, List.set_cons_succ])
          refine wpAnyH_take (i := 25) (v := ?v58) rfl (by kernel_rfl) (by kernel_rfl) (by kernel_rfl) (fun _ _ _ h => h) (Or.inl ⟨by rfl, ?hy58⟩) (by assumption) ?rest58
          case hy58 => (intro w hSw; (try dsimp only at hSw); simp only [List.getElem_toArray, List.getElem_cons_zero, List.getElem_cons_succ]; go_simp; (try with_reducible rfl))
          (try simp only [Act.put, List.getElem_toArray, List.getElem_cons_zero, List.getElem_cons_succ, List.setIfInBounds_toArray, List.set_cons_zero, List.set_cons_succ])
          refine wpAnyH_take (i := 26) (v := ?v59) rfl (by kernel_rfl) (by kernel_rfl) (by kernel_rfl) (fun _ _ _ h => h) (Or.inl ⟨by rfl, ?hy59⟩) (by assumption) ?rest59
          case hy59 => (intro w hSw; (try dsimp only at hSw); simp only [List.getElem_toArray, List.getElem_cons_zero, List.getElem_cons_succ]; go_simp; (try with_reducible rfl))
          (try simp only [Act.put, List.getElem_toArray, List.getElem_cons_zero, List.getElem_cons_succ, List.setIfInBounds_toArray, List.set_cons_zero, List.set_cons_succ])
          refine wpAnyH_take (i := 27) (v := ?v60) rfl (by kernel_rfl) (by kernel_rfl) (by kernel_rfl) (fun _ _ _ h => h) (Or.inl ⟨by rfl, ?hy60⟩) (by assumption) ?rest60
          case hy60 => (intro w hSw; (try dsimp only at hSw); simp only [List.getElem_toArray, List.getElem_cons_zero, List.getElem_cons_succ]; go_simp; (try with_reducible rfl))
          (try simp only [Act.put, List.getElem_toArray, List.getElem_cons_zero, List.getElem_cons_succ, List.setIfInBounds_toArray, List.set_cons_zero, List.set_cons_succ])
          refine wpAnyH_take (i := 28) (v := ?v61) rfl (by kernel_rfl) (by kernel_rfl) (by kernel_rfl) (fun _ _ _ h => h) (Or.inl ⟨by rfl, ?hy61⟩) (by assumption) ?rest61
          case hy61 => (intro w hSw; (try dsimp only at hSw); simp only [List.getElem_toArray, List.getElem_cons_zero, List.getElem_cons_succ]; go_simp; (try with_reducible rfl))
          (try simp only [Act.put, List.getElem_toArray, List.getElem_cons_zero, List.getElem_cons_succ, List.setIfInBounds_toArray, List.set_cons_zero, List.set_cons_succ])
          refine wpAnyH_ready (rs := [17]) (by kernel_rfl) (by simp) ?_
          refine AllReadyH.cons rfl (fun KK hK => ?_) AllReadyH.nil
          simp only [List.getElem_toArray, List.getElem_cons_zero, List.getElem_cons_succ]
          go_simp
          refine (HUs.out _ O8).mono ?_
          rintro e W9 ⟨rfl, o1⟩
          have O9 : Out 0 0 W6 W9 := O8.trans o1
          clear O8
          refine hK.out _ _ ?hS62 (fun hHeld2 => ?rest62)
          case hS62 => exact ⟨o1.cell hHeld.1 (.inr (Nat.zero_le _)), o1.cell hHeld.2.1 (.inr (Nat.zero_le _)), o1.cell hHeld.2.2 (.inr (Nat.zero_le _))⟩
          clear o1
          clear hK KK
          (try clear hHeld)
          have hHeld := hHeld2
          clear hHeld2
          (try simp only [Act.put, List.getElem_toArray, List.getElem_cons_zero, List.getElem_cons_succ, List.setIfInBounds_toArray, List.set_cons_zero, List.set_cons_succ])
          refine wpAnyH_take (i := 29) (v := ?v63) rfl (by kernel_rfl) (by kernel_rfl) (by kernel_rfl) (fun _ _ _ h => h) (Or.inl ⟨by rfl, ?hy63⟩) (by assumption) ?rest63
          case hy63 => (intro w hSw; (try dsimp only at hSw); simp only [List.getElem_toArray, List.getElem_cons_zero, List.getElem_cons_succ]; go_simp; (try with_reducible rfl))
          (try simp only [Act.put, List.getElem_toArray, List.getElem_cons_zero, List.getElem_cons_succ, List.setIfInBounds_toArray, List.set_cons_zero, List.set_cons_succ])
          refine wpAnyH_take (i := 30) (v := ?v64) rfl (by kernel_rfl) (by kernel_rfl) (by kernel_rfl) (fun _ _ _ h => h) (Or.inl ⟨by rfl, ?hy64⟩) (by assumption) ?rest64
          case hy64 => (intro w hSw; (try dsimp only at hSw); simp only [List.getElem_toArray, List.getElem_cons_zero, List.getElem_cons_succ]; go_simp; (try with_reducible rfl))
          (try simp only [Act.put, List.getElem_toArray, List.getElem_cons_zero, List.getElem_cons_succ, List.setIfInBounds_toArray, List.set_cons_zero, List.set_cons_succ])
          refine wpAnyH_done (by kernel_rfl) ?_ _
          clear hHeld
          have HW9 := hid_mk (HW6.out.kept O9 (.inr (Nat.zero_le _)))
          have HKp := hid_mk (keepNil (HS6.out.quiet O9) HJ2.out.2.2.1)
          have HO9 := hid_mk (HO6.out.trans O9)
          obtain ⟨g0, g1, _, _, _⟩ := HW9.out.cells
          have hbk := bare_keep HS6.out.2
          have HBk := hid_mk hbk
          clear O9 OZ HUs hcv1 hcv2 hdv hnv hwu hwn HW6 f0 hbk
          go_wp2_with fail
          refine HKp.out.mono ?_
          rintro e wa ⟨rfl, hsa, hoa⟩
          have hLb := HL.out
          have HWa := hid_mk (HW9.out.kept hoa (.inl hLb.2))
          have HSa := hid_mk hsa
          have HOa := hid_mk (HO9.out.past hoa (by omega))
          have HUa := hid_mk (use_any hsa.1 (told_of _) (rooms_of hsa.2) (v := 0) (by rw [used_bare HBk.out.1]; exact use_zero HN1.out.1 HN1.out.2))
          have ga := HWa.out.cells.2.1
          have hoz := order_zero
          have hMM2 : ((M : Int) != (M : Int)) = false := by simp
          clear hsa hoa hLb HKp g0 g1
          go_wp2_with (go_at_call 17; refine HUa.out.mono ?_; rintro e wb ⟨rfl, ho⟩; have HWb := hid_mk (And.intro (HWa.out.kept ho (.inr (Nat.zero_le _))) (And.intro (HSa.out.quiet ho) (HOa.out.trans ho))); clear ho)
          go_roundw
          case rel => exact ⟨k + 1, _, by go_num, by omega, HWb.out.1, HWb.out.2.1, HBk.out.1, by rw [HBk.out.2, HJ2.out.1]; push_cast; rw [Int.add_mul]; omega, HWb.out.2.2⟩
          case measure => simp [intOf]; omega
    · have e : k = 2 := by omega
      subst e
      have HD := hid_mk (dump_any H0.out.2.1.1 (told_of _))
      rw [show (rawOf N st).last = 2 * (M : Int) from H0.out.2.2.2.1] at HD
      have g1 := H0.out.1.cells.2.1
      clear hk k2
      go_wp2_with fail
      refine HD.out.mono ?_
      rintro e w5 ⟨gw, cw, gp, cp, vb, rfl, hdm, ho⟩
      have HO5 := hid_mk (H0.out.2.2.2.2.trans ho)
      have hEE : ((2 * (M : Int)) == 2 * (M : Int)) = true := by simp
      have hfs := field_ser
      clear hdm ho HD
      go_wp2
      go_ret
      exact ⟨rfl, HO5.out⟩
theorem fills_any {w : World} (hT : Tab w) (n0 p0 : Int) (hn : -9223372036854775808 ≤ n0 ∧ n0 ≤ 9223372036854775807) (hp : -9223372036854775808 ≤ p0 ∧ p0 ≤ 9223372036854775807) :
    Calls Tryd.prog 4 #[.int .i64 n0, .int .i64 p0] w fun e w' => e = .returned (.bool true) ∧ Below w.heap.size w w' := by
  obtain ⟨m, hm, _⟩ := wth_nat n0 12 (by decide)
  have hN : 1 + wth n0 12 = ((1 + m : Nat) : Int) := by rw [hm]; push_cast; rfl
  by_cases h : 1 + wth p0 1024 ≤ 32
  · exact (fills_small hT n0 p0 hn hp hN rfl h).mono fun e w' h => ⟨h.1, h.2.all⟩
  · exact (fills_great hT n0 p0 hn hp hN rfl (by omega)).mono fun e w' h => ⟨h.1, h.2.all⟩
end Go.Proofs.YtjbbkeoolodeaacDoor
