/- an All gone over; gone -/
import Derived.Test.YtnkobcldagajeaaDoorLe
namespace Go.Proofs.YtnkobcldagajeaaDoor
open Go.RowKit
set_option linter.unusedVariables false
set_option linter.unusedSimpArgs false

def meas (n : Nat) (x : Value) : Nat := if intOf x < 0 then 0 else ((n : Int) - intOf x).toNat
theorem meas_lt {n : Nat} {i j : Int} (h0 : 0 ≤ i) (h1 : i < n) (h2 : j < 0 ∨ i < j) : meas n (.int .i64 j) < meas n (.int .i64 i) := by
  have e : ∀ k : Int, meas n (.int .i64 k) = if k < 0 then 0 else ((n : Int) - k).toNat := fun _ => rfl
  rw [e, e, if_neg (show ¬ i < 0 by omega)]
  by_cases h : j < 0
  · rw [if_pos h]; omega
  · rw [if_neg h]; omega
def yieldV (B : Nat) : Value := .func (.func 52) #[] #[.pointer (some ⟨B + 6, 0, none⟩), .pointer (some ⟨B + 4, 0, none⟩), .pointer (some ⟨B + 1, 0, none⟩), .pointer (some ⟨B + 5, 0, none⟩), .pointer (some ⟨B + 2, 0, none⟩), .pointer (some ⟨B, 0, none⟩), .pointer (some ⟨B + 3, 0, none⟩)]
theorem nxr_next {S : Nat → Bool} {n : Nat} {i : Int} (h0 : 0 ≤ i) (h : 0 ≤ nxr S n (i + 1).toNat) : i < nxr S n (i + 1).toNat := by
  unfold nxr at *
  by_cases hz : nx S n (i + 1).toNat < n
  · rw [if_pos hz] at *
    by_cases hx : (i + 1).toNat ≤ n
    · have := nx_ge S n _ hx; omega
    · rw [nx_end _ _ _ (by omega)] at hz; omega
  · rw [if_neg hz] at h; omega
set_option maxRecDepth 100000 in
set_option maxHeartbeats 4000000 in
theorem allGone {w0 w : World} {lo hi p n : Nat} {S : Nat → Bool} {b r g l1 h1 l2 h2 g' : Nat} {stop at_ : Int} {z kd x y c : Int} (h : GoneAt w0 w lo hi p n S b r g l1 h1 l2 h2 g' (nxr S n 0) 0 stop at_ (z, kd, x, y, c)) (hst : stop ≠ 0) :
    Calls Tryd.prog 30 #[yieldV w0.heap.size, .pointer (some ⟨g', 0, none⟩)] w fun e w' => e = .returned (.tuple #[]) ∧ ∃ S' want told, GoneAt w0 w' lo hi p n S' b r g l1 h1 l2 h2 g' want told stop at_ (z, kd, x, y, c) ∧ (want < 0 ∨ (0 ≤ stop ∧ told = stop)) := by
  have HG := hid_mk h
  have HN : Hid (n ≤ 262144) := h.pair.lim.2.2.2.2.2.2.2
  have HS := hid_mk hst
  have c0 := h.2.2.2.2.2.2.2.2.2.2.1.cell
  have HX0 := hid_mk (next_any h.pair.map 0)
  rw [show (0 : Int).toNat = 0 from rfl] at HX0
  clear h hst
  unfold yieldV
  go_enter Tryd.func30, Tryd.ntmps30
  go_wp2_with fail
  refine HX0.out.mono ?_
  rintro e w1 ⟨rfl, ho⟩
  have HG1 := hid_mk (HG.out.quiet ho)
  clear ho c0 HX0 HG
  go_wp2_with fail
  go_loopw [3] (fun v wr => ∃ (S : Nat → Bool) (i told : Int), v = .int .i64 i ∧ GoneAt w0 wr lo hi p n S b r g l1 h1 l2 h2 g' i told stop at_ (z, kd, x, y, c) ∧ -1 ≤ i ∧ i < n ∧ 0 ≤ told ∧ told ≤ n ∧ (0 ≤ i → told ≤ i) ∧ (stop < 0 ∨ told < stop)) (fun v _ => meas n v)
  case atStart => exact ⟨S, _, 0, rfl, HG1.out, nxr_ge _ _ _, nxr_lt _ _ _, by omega, by omega, fun h => h, by have := HS.out; omega⟩
  case round =>
    clear HG1
    obtain ⟨S, i, told, rfl, a1, a2, a3, a4, a5, a6, a7⟩ := hrel
    have HG := hid_mk a1
    have c0 := a1.2.2.2.2.2.2.2.2.2.2.1.cell
    by_cases hi0 : 0 ≤ i
    · have HY := hid_mk (gone1_any a1 hi0 a3 a7 a4 a5)
      have hti := a6 hi0
      obtain ⟨k1, m1, m2⟩ : ∃ k1 : Int, i < 64 * k1 ∧ k1 ≤ 4096 := ⟨4096, by have := HN.out; omega, by omega⟩
      have HA7 := hid_mk a7
      have HA3 := hid_mk a3
      clear a1 a6 a7 a3 a5
      by_cases hgo : stop < 0 ∨ told + 1 < stop
      · have e1 : (decide (stop < 0) || decide (told + 1 < stop)) = true := by simpa using hgo
        rw [e1] at HY
        have HGo := hid_mk hgo
        clear e1 hgo
        go_wp2_with fail
        refine HY.out.mono ?_
        rintro e w2 ⟨rfl, hg2⟩
        have HG2 := hid_mk hg2
        have c2 := hg2.2.2.2.2.2.2.2.2.2.2.1.cell
        have HX := hid_mk (next_any hg2.pair.map (i + 1))
        clear hg2 c0 HY
        go_wp2_with fail
        refine HX.out.mono ?_
        rintro e w3 ⟨rfl, ho3⟩
        have HG3 := hid_mk (HG2.out.quiet ho3)
        clear ho3 c2 HX HG2
        go_wp2
        go_roundw
        case rel =>
          refine ⟨goneS S n told at_ (z, kd, x, y, c), _, told + 1, rfl, HG3.out, nxr_ge _ _ _, nxr_lt _ _ _, by omega, by have := HA3.out; omega, fun h => ?_, HGo.out⟩
          have := nxr_next hi0 h; omega
        case measure =>
          refine meas_lt hi0 HA3.out ?_
          by_cases hz : nxr (goneS S n told at_ (z, kd, x, y, c)) n (i + 1).toNat < 0
          · exact .inl hz
          · exact .inr (nxr_next hi0 (by omega))
      · have e1 : (decide (stop < 0) || decide (told + 1 < stop)) = false := by simpa using hgo
        rw [e1] at HY
        have HGo := hid_mk hgo
        clear e1 hgo
        go_wp2_with fail
        refine HY.out.mono ?_
        rintro e w2 ⟨rfl, hg2⟩
        have HG2 := hid_mk hg2
        clear hg2 c0 HY
        go_wp2
        exact bodyPost_ret (results_none Tryd.results30 _ _ _) rfl ⟨rfl, _, _, _, HG2.out, .inr (by have := HGo.out; have := HA7.out; omega)⟩
    · have hi1 : i < 0 := by omega
      clear hi0 a1 a6 a7 a3
      go_wp2
      exact bodyPost_end (results_none Tryd.results30 _ _ _) rfl ⟨rfl, S, i, told, HG.out, .inl hi1⟩
theorem eqIn_nilFunc (d : Nat) (f : Fn) (x y : Array Value) (w : World) : (Op.equalIn (d + 1) 40 (.func f x y) .nilFunc).run Tryd.prog w = .ok false w := by
  simp [Op.equalIn, run_underlying Tryd.underlying40]
theorem eq_nilFunc (f : Fn) (x y : Array Value) (w : World) : (binOp .eql 40 (.func f x y) .nilFunc).run Tryd.prog w = .ok (.bool false) w := by
  simp only [binOp]
  simp [Op.equal, Op.maxDepth, eqIn_nilFunc 9999]
set_option maxRecDepth 100000 in
set_option maxHeartbeats 4000000 in
theorem gone_any {w : World} {lo hi p n : Nat} {S : Nat → Bool} {b r g l1 h1 l2 h2 g' : Nat} {stop at_ : Int} {z kd x y c : Int} (h : PairIn w lo hi p n S S b r g l1 h1 l2 h2) (hb' : Box w g' 30 (.pointer (some ⟨b, 0, none⟩))) (hg' : g' = g ∨ hi ≤ g') (hst : stop ≠ 0) :
    Calls Tryd.prog 44 #[.pointer (some ⟨p, 0, none⟩), allV g', .int .i64 stop, .int .i64 at_, .agg #[.int .i64 z, .int .i64 kd, .int .i64 x, .int .i64 y, .int .i64 c]] w
      fun e w' => e = .returned (.bool true) ∧ ∃ S', PairIn w' lo hi p n S' S' b r g l1 h1 l2 h2 ∧ Out lo hi w w' := by
  have hlim := h.lim
  have HP := hid_mk h
  have HB := hid_mk hb'
  have HL := hid_mk hlim
  have HS := hid_mk hst
  obtain ⟨d0, d1, _⟩ := h.cells
  have hp1 : p < w.heap.size := by omega
  clear h hb' hst hlim
  have heq := eq_nilFunc (.func 30) #[] #[.pointer (some ⟨g', 0, none⟩)]
  -- the four boxes
  obtain ⟨W4, hW4⟩ : ∃ W4, ((((w.alloc (.cells #[.pointer (some ⟨p, 0, none⟩)] 23)).alloc (.cells #[.int .i64 stop] 3)).alloc (.cells #[.int .i64 at_] 3)).alloc (.cells #[.int .i64 z, .int .i64 kd, .int .i64 x, .int .i64 y, .int .i64 c] 52)) = W4 := ⟨_, rfl⟩
  have o4 : Out 0 0 w W4 := by rw [← hW4]; exact ((((Out.refl _ _ _).alloc _).alloc _).alloc _).alloc _
  have z4 : W4.heap.size = w.heap.size + 4 := by rw [← hW4]; simp
  have b0 : Box W4 w.heap.size 23 (.pointer (some ⟨p, 0, none⟩)) := by rw [← hW4]; exact (((Box.new w _ _).alloc _).alloc _).alloc _
  have b1 : Box W4 (w.heap.size + 1) 3 (.int .i64 stop) := by rw [← hW4]; exact (Box.alloc (Box.alloc (show Box _ _ _ _ from heap_alloc2_new _ _ _) _) _)
  have b2 : Box W4 (w.heap.size + 2) 3 (.int .i64 at_) := by
    rw [← hW4]
    have := Box.new ((w.alloc (.cells #[.pointer (some ⟨p, 0, none⟩)] 23)).alloc (.cells #[.int .i64 stop] 3)) 3 (.int .i64 at_)
    simp only [World.size_alloc] at this
    exact this.alloc _
  have b3 : OpAt W4 (w.heap.size + 3) (z, kd, x, y, c) := by
    rw [← hW4]
    have : OpAt (((((w.alloc (.cells #[.pointer (some ⟨p, 0, none⟩)] 23)).alloc (.cells #[.int .i64 stop] 3)).alloc (.cells #[.int .i64 at_] 3))).alloc (.cells #[.int .i64 z, .int .i64 kd, .int .i64 x, .int .i64 y, .int .i64 c] 52)) _ (z, kd, x, y, c) := heap_alloc_new _ _
    simp only [World.size_alloc] at this
    exact this
  have HP4 := hid_mk (HP.out.quiet o4)
  have HX := hid_mk (refNext_any HP4.out.ref 0)
  rw [show (0 : Int).toNat = 0 from rfl] at HX
  obtain ⟨W7, hW7⟩ : ∃ W7, ((W4.alloc (.cells #[.int .i64 (nxr S n 0)] 3)).alloc (.cells #[.int .i64 0] 3)).alloc (.cells #[.bool true] 4) = W7 := ⟨_, rfl⟩
  have o7 : Out 0 0 W4 W7 := by rw [← hW7]; exact (((Out.refl _ _ _).alloc _).alloc _).alloc _
  have b4 : Box W7 (w.heap.size + 4) 3 (.int .i64 (nxr S n 0)) := by rw [← hW7, ← z4]; exact ((Box.new W4 _ _).alloc _).alloc _
  have b5 : Box W7 (w.heap.size + 5) 3 (.int .i64 0) := by
    rw [← hW7, show w.heap.size + 5 = W4.heap.size + 1 from by omega]
    exact Box.alloc (show Box _ _ _ _ from heap_alloc2_new _ _ _) _
  have b6 : Box W7 (w.heap.size + 6) 4 (.bool true) := by
    rw [← hW7, show w.heap.size + 6 = W4.heap.size + 2 from by omega]
    have := Box.new ((W4.alloc (.cells #[.int .i64 (nxr S n 0)] 3)).alloc (.cells #[.int .i64 0] 3)) 4 (.bool true)
    simp only [World.size_alloc] at this
    exact this
  have hlim := HL.out
  have HG : Hid (GoneAt w W7 lo hi p n S b r g l1 h1 l2 h2 g' (nxr S n 0) 0 stop at_ (z, kd, x, y, c)) := by
    refine ⟨b0.kept o7 (.inr (Nat.zero_le _)), b1.kept o7 (.inr (Nat.zero_le _)), b2.kept o7 (.inr (Nat.zero_le _)), b3.kept o7 (.inr (Nat.zero_le _)), b4, b5, b6, HP4.out.quiet o7, (o4.trans o7).any _ _, by omega, HB.out.kept (o4.trans o7) (.inr (Nat.zero_le _)), ?_⟩
    rcases hg' with e | e
    · exact .inl e
    · exact .inr ⟨e, HB.out.lt⟩
  have HA := hid_mk (allGone HG.out HS.out)
  unfold yieldV at HA
  obtain ⟨d0, d1, _⟩ := HP4.out.cells
  have x0 := b0.cell
  have x1 := b1.cell
  have hsz : W4.heap.size = w.heap.size + 4 := z4
  clear b0 b1 b2 b3 b4 b5 b6 o4 o7 hlim hg' hp1
  unfold allV
  go_enter Tryd.func44, Tryd.ntmps44
  go_wp2_with fail
  refine calls_same HX.out ?_
  go_wp2_with fail
  refine HA.out.mono ?_
  rintro e w8 ⟨rfl, S', want, told, hG, hor⟩
  have HG8 := hid_mk hG
  obtain ⟨c1, c2, c3, c4, c5, c6, c7, c8, c9, c10⟩ := hG.cells
  clear hG d0 d1 x0 x1 hW4 hW7 HA HX
  rcases hor with hw | ⟨hw1, hw2⟩
  · go_wp2
    go_ret
    exact ⟨rfl, S', HG8.out.pair, HG8.out.2.2.2.2.2.2.2.2.1⟩
  · subst hw2
    have hss : (told == told) = true := by simp
    by_cases hw : want < 0
    · go_wp2
      go_ret
      exact ⟨rfl, S', HG8.out.pair, HG8.out.2.2.2.2.2.2.2.2.1⟩
    · have hw' : 0 ≤ want := by omega
      clear hw
      go_wp2
      go_ret
      exact ⟨rfl, S', HG8.out.pair, HG8.out.2.2.2.2.2.2.2.2.1⟩
end Go.Proofs.YtnkobcldagajeaaDoor
