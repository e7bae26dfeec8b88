/- the walks of Fe -/
import Derived.Test.YteepkghjphmegabWFq
import Derived.Test.YteepkghjphmegabM4
namespace Go.Proofs.Yteepkghjphmegab
open Go.ChangeShapes Go.WideShapes Go.ChangeAt Go.RowKit
set_option linter.unusedVariables false
set_option linter.unusedSimpArgs false

/-- block g: n bits, those of Q from k on, zeros below -/
def DL (W : World) (g n k : Nat) (Q : Int) : Prop := ∃ cur : Array Value, W.heap[g]? = some (.cells cur 3 (0, 0)) ∧ cur.size = n ∧ ∀ j, j < n → cur[j]? = some (.int .i64 (if j < k then 0 else bit Q j))
theorem DL.frozen {W : World} {g n k : Nat} {Q : Int} (h : DL W g n k Q) (j : Nat) : W.frozen? ⟨g, j, none⟩ = false := by
  obtain ⟨cur, h1, _⟩ := h; simp [World.frozen?, h1]
theorem DL.lt {W : World} {g n k : Nat} {Q : Int} (h : DL W g n k Q) : g < W.heap.size := by
  obtain ⟨cur, h1, _⟩ := h; exact heap_lt h1
theorem DL.cell {W : World} {g n k : Nat} {Q : Int} (h : DL W g n (k + 1) Q) (hk : k < n) : W.cell? ⟨g, k, none⟩ = some (.int .i64 0) := by
  obtain ⟨cur, h1, h2, h3⟩ := h
  have := h3 k hk
  rw [if_pos (by omega)] at this
  simp [World.cell?, h1, this]
theorem DL.zero {W : World} {g n k : Nat} {Q : Int} (h : DL W g n (k + 1) Q) (hb : bit Q k = 0) : DL W g n k Q := by
  obtain ⟨cur, h1, h2, h3⟩ := h
  refine ⟨cur, h1, h2, fun j hj => ?_⟩
  rw [h3 j hj]
  by_cases e : j = k
  · subst e; rw [if_pos (by omega), if_neg (by omega), hb]
  · by_cases l : j < k
    · rw [if_pos (by omega), if_pos l]
    · rw [if_neg (by omega), if_neg l]
theorem DL.one {W : World} {g n k : Nat} {Q : Int} (h : DL W g n (k + 1) Q) (hk : k < n) (hb : bit Q k = 1) : DL (W.setCell ⟨g, k, none⟩ (.int .i64 1)) g n k Q := by
  obtain ⟨cur, h1, h2, h3⟩ := h
  refine ⟨cur.setIfInBounds k (.int .i64 1), ?_, by simpa using h2, fun j hj => ?_⟩
  · rw [setCell_eq_setRow W g k cur 3 (0, 0) _ h1]; exact setRow_heap W g _ _ _ _ h1
  · by_cases e : j = k
    · subst e
      rw [if_neg (by omega), hb]
      simp [Array.getElem?_setIfInBounds, h2, hj]
    · have : ¬ k = j := fun q => e q.symm
      rw [Array.getElem?_setIfInBounds, if_neg this, h3 j hj]
      by_cases l : j < k
      · rw [if_pos (by omega), if_pos l]
      · rw [if_neg (by omega), if_neg l]
theorem DL.done {W : World} {g n : Nat} {Q : Int} (h : DL W g n 0 Q) (h0 : 0 ≤ Q) (h1 : Q < 2 ^ n) (hn : n ≤ 100000) : BL W 0 (.slice (some ⟨g, 0, none⟩) n n) Q n := by
  obtain ⟨cur, e1, e2, e3⟩ := h
  refine ⟨h0, h1, ⟨_, _, rfl⟩, by rw [rowL_length]; omega, .inr ⟨g, n, cur, rfl, Nat.zero_le _, e1, Nat.le_refl _, by unfold maxLen; omega, by omega, ?_⟩⟩
  apply List.ext_getElem?
  intro j
  by_cases hj : j < n
  · rw [rowL_get _ _ _ hj, List.getElem?_take_of_lt (by omega), Array.getElem?_toList, e3 j hj, if_neg (by omega)]
  · rw [List.getElem?_eq_none (by simp; omega), List.getElem?_eq_none (by rw [rowL_length]; omega)]
theorem DL.made {W : World} {B g n : Nat} {Q : Int} (h : W.ownsRow B 3 1 (.slice (some ⟨g, 0, none⟩) n n) n (madeCells (Value.int .i64 0).cells (n * 1)).toList) : DL W g n n Q := by
  rcases h.2 with ⟨e, _⟩ | ⟨g', cap, cur, e, hB, hg, h1, h2, h3, h4⟩
  · cases e
  · cases e
    refine ⟨cur, hg, by omega, fun j hj => ?_⟩
    rw [if_pos hj]
    have hq : (cur.toList.take (n * 1))[j]? = (madeCells (Value.int .i64 0).cells (n * 1)).toList[j]? := by rw [h4]
    rw [List.getElem?_take_of_lt (by omega), Array.getElem?_toList] at hq
    rw [hq, Nat.mul_one]
    show (madeCells #[Value.int .i64 0] n).toList[j]? = _
    rw [toList_madeCells_one]; simp [hj]
theorem BL.setOther {W : World} {B : Nat} {g len cap : Nat} {N : Int} (h : BL W B (.slice (Option.some ⟨g, 0, none⟩) len cap) N len) {a : Addr} (hn : g ≠ a.block) (x : Value) : BL (W.setCell a x) B (.slice (Option.some ⟨g, 0, none⟩) len cap) N len := by
  refine ⟨h.lo, h.hi, h.some, h.own.1, ?_⟩
  rcases h.own.2 with hn | ⟨g', cap', cur, e, hB, hg, r⟩
  · exact .inl hn
  · have eg : g' = g := by injection e with e1; injection e1 with e2; injection e2 with e3; exact e3.symm
    exact .inr ⟨g', cap', cur, e, hB, by rw [Below.heap_setCell _ _ _ _ (by rw [eg]; exact hn)]; exact hg, r⟩
theorem div_bit (N y : Int) (i : Nat) (hy : 0 < y) : bit (N / y) i = N / 2 ^ i / y % 2 := by
  have hp := pow_pos' i
  unfold bit
  rw [Int.ediv_ediv_of_nonneg (by omega), Int.ediv_ediv_of_nonneg (by omega), Int.mul_comm]

theorem div_step' (x : Int) (i : Nat) (y : Int) (hy : 0 < y) :
    (x / 2 ^ i / y) = 2 * (x / 2 ^ (i + 1) / y) + (if y ≤ 2 * (x / 2 ^ (i + 1) % y) + x / 2 ^ i % 2 then 1 else 0) ∧
    (x / 2 ^ i % y) = 2 * (x / 2 ^ (i + 1) % y) + x / 2 ^ i % 2 - (if y ≤ 2 * (x / 2 ^ (i + 1) % y) + x / 2 ^ i % 2 then y else 0) := by
  rw [div_succ]
  generalize x / 2 ^ i = z
  have h1 := Int.mul_ediv_add_emod (z / 2) y
  have h2 := Int.emod_nonneg (z / 2) (Int.ne_of_gt hy)
  have h3 := Int.emod_lt_of_pos (z / 2) hy
  generalize hq : z / 2 / y = q at *
  generalize hr : z / 2 % y = r at *
  have hz : z = y * (2 * q) + (2 * r + z % 2) := by
    have : y * (2 * q) = 2 * (y * q) := by rw [Int.mul_left_comm]
    omega
  by_cases hc : y ≤ 2 * r + z % 2
  · have e : z = (2 * r + z % 2 - y) + y * (2 * q + 1) := by rw [Int.mul_add]; omega
    rw [if_pos hc, if_pos hc]
    constructor
    · conv => lhs; rw [e]
      rw [Int.add_mul_ediv_left _ _ (Int.ne_of_gt hy), Int.ediv_eq_zero_of_lt (by omega) (by omega)]; omega
    · conv => lhs; rw [e]
      rw [Int.add_mul_emod_self_left, Int.emod_eq_of_lt (by omega) (by omega)]
  · rw [if_neg hc, if_neg hc]
    have e : z = (2 * r + z % 2) + y * (2 * q) := by omega
    constructor
    · conv => lhs; rw [e]
      rw [Int.add_mul_ediv_left _ _ (Int.ne_of_gt hy), Int.ediv_eq_zero_of_lt (by omega) (by omega)]; omega
    · conv => lhs; rw [e]
      rw [Int.add_mul_emod_self_left, Int.emod_eq_of_lt (by omega) (by omega)]; omega

set_option maxHeartbeats 8000000 in
theorem refFloDiv_fin (a b : Int) (w : World) (ha1 : -9223372036854775808 ≤ a) (ha2 : a ≤ 9223372036854775807) (hb1 : -9223372036854775808 ≤ b) (hb2 : b ≤ 9223372036854775807)
    (na : pNone a = false) (nb : pNone b = false) (ia : pInf a = false) (ib : pInf b = false) (zb : pWhole b ≠ 0) :
    Calls Try.prog 59 #[.int .i64 a, .int .i64 b] w fun e w' => e = .returned (.int .i64 (rndV (pNeg a != pNeg b) (pWhole a * 2 ^ 120 / pWhole b) (pExp a - pExp b - 120) (decide (0 < pWhole a * 2 ^ 120 % pWhole b)))) ∧ Below w.heap.size w w' := by
  obtain ⟨i0, hi, hz0, hz1, hz2⟩ := info_parts info3
  obtain ⟨wa0, wa1⟩ := pWhole_bounds a
  obtain ⟨wb0, wb1⟩ := pWhole_bounds b
  obtain ⟨ea0, ea1⟩ := pExp_bounds a
  obtain ⟨eb0, eb1⟩ := pExp_bounds b
  have hbp : 0 < pWhole b := by omega
  have hbz : (pWhole b == 0) = false := by simpa using zb
  obtain ⟨gA, hgA⟩ : ∃ x, x = pNeg a := ⟨_, rfl⟩
  obtain ⟨gB, hgB⟩ : ∃ x, x = pNeg b := ⟨_, rfl⟩
  have HfA := hid_mk (flo_as hgA ia.symm na.symm)
  have HfB := hid_mk (flo_as hgB ib.symm nb.symm)
  rw [← hgA, ← hgB]
  clear hgA hgB na nb ia ib zb
  go_enter Try.func59, Try.ntmps59
  go_wp2_with fail
  refine (refParts_any a _ ha1 ha2).mono ?_
  rintro e w1 ⟨rfl, hg1⟩
  rw [HfA.out]
  go_wp2_with fail
  refine (refParts_any b _ hb1 hb2).mono ?_
  rintro e w2 ⟨rfl, hg2⟩
  rw [HfB.out]
  have hA2 : w2.heap[w1.heap.size]? = some (.cells #[.bool gA, .bool false, .bool false, .int .i64 (pWhole a), .int .i64 (pExp a)] 51 (0, 0)) := heap_below (heap_alloc_new w1 _) hg2
  have hW2 : Below w.heap.size w w2 := (hg1.alloc hg1.size _).trans (hg2.mono (by have := hg1.size; simp; omega))
  have hA3 := (heap_alloc_old w2 (.cells #[.bool gB, .bool false, .bool false, .int .i64 (pWhole b), .int .i64 (pExp b)] 51) (heap_lt hA2)).trans hA2
  have hB3 := heap_alloc_new w2 (.cells #[.bool gB, .bool false, .bool false, .int .i64 (pWhole b), .int .i64 (pExp b)] 51)
  have hW3 := hW2.alloc hW2.size (.cells #[.bool gB, .bool false, .bool false, .int .i64 (pWhole b), .int .i64 (pExp b)] 51)
  clear hg1 hg2 hA2 hW2 HfA HfB
  obtain ⟨x0, x1, x2, x3, x4⟩ := cells5 hA3
  by_cases hz : (pWhole a == 0) = true
  case' neg => have hz' := Bool.eq_false_iff.mpr hz; clear hz
  all_goals
    go_wp2_with fail
    refine (refListI_any _ _ _ (by omega) (by omega) (by omega) (by omega)).mono ?_
    rintro e w5 ⟨v1, len1, rfl, hl1, hl1', hp1, hb5⟩
    have hp5 := hp1.cast (N' := pWhole a * 2 ^ 120) (by rfl)
    have hA5 := heap_below hA3 hb5
    have hB5 := heap_below hB3 hb5
    have hW5 := below_seq hW3 hb5
    have hl : len1 ≤ 183 := by simp at hl1'; omega
    clear hA3 hB3 hW3 hb5 hp1 hl1 hl1' x0 x1 x2 x3 x4
    obtain ⟨g1, cap1, rfl⟩ := hp5.some
    have hN0 := hp5.lo
    have HN1 := hid_mk hp5.hi
    generalize hNN : pWhole a * 2 ^ 120 = N at hp5 hN0 HN1
    have HNe := hid_mk hNN
    clear hNN
    go_wp2_with (at_make; refine wpList_make_full _ rfl _ _ 37 rfl 0 3 i0 (.int .i64 0) 1 Try.underlying37 hi hz0 hz1 _ _ _ _ len1 rfl rfl rfl rfl (by rw [hz2]; omega) (by unfold maxLen; omega) (Nat.zero_le _) ?_; intro w6 hown hgrow)
    have hb6 : Below w5.heap.size w5 w6 := (Below.refl _ _).grown hgrow (Nat.le_refl _) (fun k hk => by cases hk)
    have hD6 : DL w6 w5.heap.size len1 len1 (N / pWhole b) := DL.made hown
    have hA6 := heap_below hA5 hb6
    have hB6 := heap_below hB5 hb6
    have hW6 := below_seq hW5 hb6
    have hp6 := hp5.kept hb6
    have hlt1 : w1.heap.size < w5.heap.size := heap_lt hA5
    have hlt2 : w2.heap.size < w5.heap.size := heap_lt hB5
    have hltp : g1 < w5.heap.size := (hp5.own.lt g1 rfl).2
    have hs5 := hW5.size
    clear hown hgrow hb6 hA5 hB5 hW5 hp5
    go_loopw [10, 11] (fun r i wr => ∃ k : Nat, k ≤ len1 ∧ i = .int .i64 ((k : Int) - 1) ∧ r = .int .i64 (N / 2 ^ k % pWhole b) ∧ DL wr w5.heap.size len1 k (N / pWhole b) ∧ (∃ Bp, BL wr Bp (.slice (some ⟨g1, 0, none⟩) len1 cap1) N len1) ∧
        wr.heap[w1.heap.size]? = some (.cells #[.bool gA, .bool false, .bool false, .int .i64 (pWhole a), .int .i64 (pExp a)] 51 (0, 0)) ∧ wr.heap[w2.heap.size]? = some (.cells #[.bool gB, .bool false, .bool false, .int .i64 (pWhole b), .int .i64 (pExp b)] 51 (0, 0)) ∧ Below w.heap.size w wr) (fun _ i _ => (intOf i + 1).toNat)
    case atStart => exact ⟨len1, Nat.le_refl _, rfl, by rw [Int.ediv_eq_zero_of_lt hN0 HN1.out]; simp, hD6, ⟨_, hp6⟩, hA6, hB6, hW6⟩
    case round =>
      clear hD6 hp6 hA6 hB6 hW6
      obtain ⟨k, hk, rfl, rfl, hD, ⟨Bp, hP⟩, hA, hB, hW⟩ := hrel
      obtain ⟨x0, x1, x2, x3, x4⟩ := cells5 hA
      obtain ⟨y0, y1, y2, y3, y4⟩ := cells5 hB
      by_cases hpos : 1 ≤ k
      · obtain ⟨n, rfl⟩ : ∃ n, k = n + 1 := ⟨k - 1, by omega⟩
        have ei : ((n + 1 : Nat) : Int) - 1 = (n : Int) := by omega
        rw [ei]
        clear ei
        have hc := hP.own.cellAt n (by omega)
        rw [rowL_get _ len1 n (by omega)] at hc
        have cD := hD.cell (by omega)
        have fD := hD.frozen n
        have hS := div_step' N n (pWhole b) hbp
        have hR0 := Int.emod_nonneg (N / 2 ^ (n + 1)) (Int.ne_of_gt hbp)
        have hR1 := Int.emod_lt_of_pos (N / 2 ^ (n + 1)) hbp
        have hdb := div_bit N (pWhole b) n hbp
        obtain ⟨b0, b1⟩ := bit_01 N n
        have hbe : N / 2 ^ n % 2 = bit N n := rfl
        rw [hbe] at hS
        obtain ⟨R, hR⟩ : ∃ R, R = N / 2 ^ (n + 1) % pWhole b := ⟨_, rfl⟩
        rw [← hR] at hS hR0 hR1 ⊢
        obtain ⟨t, ht⟩ : ∃ t, t = bit N n := ⟨_, rfl⟩
        rw [← ht] at hS b0 b1 hc
        have HS := hid_mk hS
        have HD := hid_mk hdb
        clear hS hR hdb ht hbe
        by_cases hge : pWhole b ≤ R + R + t
        · have HB1 : Hid (bit (N / pWhole b) n = 1 ∧ N / 2 ^ n % pWhole b = R + R + t - pWhole b) := by
            obtain ⟨e1, e2⟩ := HS.out
            rw [if_pos (by omega)] at e1 e2
            exact ⟨by rw [HD.out, e1]; omega, by rw [e2]; omega⟩
          go_wp2
          go_roundw
          case rel => exact ⟨n, by omega, by go_num, congrArg (Value.int .i64) HB1.out.2.symm, hD.one (by omega) HB1.out.1, ⟨_, hP.setOther (by simp; omega) _⟩, (Below.heap_setCell _ _ _ _ (by simp; omega)).trans hA, (Below.heap_setCell _ _ _ _ (by simp; omega)).trans hB, hW.setCell (by show w.heap.size ≤ w5.heap.size; omega) _⟩
          case measure => simp [intOf] <;> omega
        · have HB1 : Hid (bit (N / pWhole b) n = 0 ∧ N / 2 ^ n % pWhole b = R + R + t) := by
            obtain ⟨e1, e2⟩ := HS.out
            rw [if_neg (by omega)] at e1 e2
            exact ⟨by rw [HD.out, e1]; omega, by rw [e2]; omega⟩
          go_wp2
          go_roundw
          case rel => exact ⟨n, by omega, by go_num, congrArg (Value.int .i64) HB1.out.2.symm, hD.zero HB1.out.1, ⟨_, hP⟩, hA, hB, hW⟩
          case measure => simp [intOf] <;> omega
      · have hk0 : k = 0 := by omega
        have hneg : ¬ (0 : Int) ≤ (k : Int) - 1 := by omega
        have hQ : BL wr 0 (.slice (some ⟨w5.heap.size, 0, none⟩) len1 len1) (N / pWhole b) len1 :=
          (hk0 ▸ hD).done (Int.ediv_nonneg hN0 (by omega)) (Int.lt_of_le_of_lt (Int.ediv_le_self _ hN0) HN1.out) (by omega)
        have HR : Hid (N / 2 ^ k % pWhole b = N % pWhole b) := by show _ = _; rw [hk0]; simp
        have hr0 := Int.emod_nonneg (N / 2 ^ k) (Int.ne_of_gt hbp)
        have heq : (!gA == gB) = (gA != gB) := by cases gA <;> cases gB <;> rfl
        clear hk0 hD
        go_wp2_with (go_at_call 26; refine calls_same (refRnd_any _ _ _ _ _ _ _ _ hQ (by omega) (by omega) (by omega)) ?_)
        go_ret
        refine ⟨ret_int ?_, hW⟩
        rw [HNe.out, ← HR.out]
end Go.Proofs.Yteepkghjphmegab
