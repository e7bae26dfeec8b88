/- a pair: made, same -/
import Derived.Test.YtnkobcldagajeaaDoorLa
import Derived.Test.YtnkobcldagajeaaDoorRc
import Derived.Test.YtnkobcldagajeaaDoorRd
namespace Go.Proofs.YtnkobcldagajeaaDoor
open Go.RowKit
set_option linter.unusedVariables false
set_option linter.unusedSimpArgs false

def allV (g : Nat) : Value := .func (.func 30) #[] #[.pointer (some ⟨g, 0, none⟩)]
/-- block p is a pair: the map b (l1 .. h1) with the numbers of S, the document's r (l2 .. h2) with those of R, an All over g -/
def PairIn (w : World) (lo hi p n : Nat) (S R : Nat → Bool) (b r g l1 h1 l2 h2 : Nat) : Prop :=
  w.heap[p]? = some (.cells #[.pointer (some ⟨b, 0, none⟩), .pointer (some ⟨r, 0, none⟩), allV g] 44 (0, 0)) ∧ Box w g 30 (.pointer (some ⟨b, 0, none⟩)) ∧ MapAt w l1 h1 b n S ∧ RefAt w l2 h2 r n R ∧
    lo ≤ l1 ∧ h1 ≤ l2 ∧ h2 ≤ p ∧ h2 ≤ g ∧ p < hi ∧ g < hi ∧ hi ≤ w.heap.size ∧ l1 < h1 ∧ l2 < h2
def PairAt (w : World) (lo hi p n : Nat) (S : Nat → Bool) : Prop := ∃ b r g l1 h1 l2 h2, PairIn w lo hi p n S S b r g l1 h1 l2 h2
section
variable {w w' : World} {lo hi p n : Nat} {S R S' : Nat → Bool} {b r g l1 h1 l2 h2 : Nat}
theorem PairIn.cells (h : PairIn w lo hi p n S R b r g l1 h1 l2 h2) : w.cell? ⟨p, 0, none⟩ = some (.pointer (some ⟨b, 0, none⟩)) ∧ w.cell? ⟨p, 1, none⟩ = some (.pointer (some ⟨r, 0, none⟩)) ∧ w.cell? ⟨p, 2, none⟩ = some (allV g) := by
  have hb := h.1
  refine ⟨?_, ?_, ?_⟩ <;> simp [World.cell?, hb]
theorem PairIn.map (h : PairIn w lo hi p n S R b r g l1 h1 l2 h2) : MapAt w l1 h1 b n S := h.2.2.1
theorem PairIn.ref (h : PairIn w lo hi p n S R b r g l1 h1 l2 h2) : RefAt w l2 h2 r n R := h.2.2.2.1
theorem PairIn.box (h : PairIn w lo hi p n S R b r g l1 h1 l2 h2) : Box w g 30 (.pointer (some ⟨b, 0, none⟩)) := h.2.1
theorem PairIn.kept {lo' hi' : Nat} (h : PairIn w lo hi p n S R b r g l1 h1 l2 h2) (o : Out lo' hi' w w') (hd : hi ≤ lo' ∨ hi' ≤ lo) (hp : 0 < lo' ∨ hi' = 0) : PairIn w' lo hi p n S R b r g l1 h1 l2 h2 := by
  obtain ⟨a1, a2, a3, a4, a5, a6, a7, a8, a9, a10, a11, a12, a13⟩ := h
  exact ⟨o.heap a1 (by omega), a2.kept o (by omega), a3.kept o (by omega) hp, a4.kept o (by omega), a5, a6, a7, a8, a9, a10, Nat.le_trans a11 o.size, a12, a13⟩
theorem PairIn.quiet (h : PairIn w lo hi p n S R b r g l1 h1 l2 h2) (o : Out 0 0 w w') : PairIn w' lo hi p n S R b r g l1 h1 l2 h2 := h.kept o (.inr (Nat.zero_le _)) (.inr rfl)
theorem PairIn.setMap (h : PairIn w lo hi p n S R b r g l1 h1 l2 h2) (hm : MapAt w' l1 h1 b n S') (o : Out l1 h1 w w') : PairIn w' lo hi p n S' R b r g l1 h1 l2 h2 := by
  obtain ⟨a1, a2, a3, a4, a5, a6, a7, a8, a9, a10, a11, a12, a13⟩ := h
  exact ⟨o.heap a1 (by omega), a2.kept o (by omega), hm, a4.kept o (by omega), a5, a6, a7, a8, a9, a10, Nat.le_trans a11 o.size, a12, a13⟩
theorem PairIn.setRef (h : PairIn w lo hi p n S R b r g l1 h1 l2 h2) (hm : RefAt w' l2 h2 r n S') (o : Out l2 h2 w w') : PairIn w' lo hi p n S S' b r g l1 h1 l2 h2 := by
  obtain ⟨a1, a2, a3, a4, a5, a6, a7, a8, a9, a10, a11, a12, a13⟩ := h
  have := a3.bounds
  exact ⟨o.heap a1 (by omega), a2.kept o (by omega), a3.kept o (by omega) (by omega), hm, a5, a6, a7, a8, a9, a10, Nat.le_trans a11 o.size, a12, a13⟩
theorem PairIn.lim (h : PairIn w lo hi p n S R b r g l1 h1 l2 h2) : lo ≤ l1 ∧ h1 ≤ hi ∧ lo ≤ l2 ∧ h2 ≤ hi ∧ lo < p ∧ p < hi ∧ hi ≤ w.heap.size ∧ n ≤ 262144 := by
  obtain ⟨a1, a2, a3, a4, a5, a6, a7, a8, a9, a10, a11, a12, a13⟩ := h
  have := a3.bounds
  omega
theorem PairAt.kept {lo' hi' : Nat} (h : PairAt w lo hi p n S) (o : Out lo' hi' w w') (hd : hi ≤ lo' ∨ hi' ≤ lo) (hp : 0 < lo' ∨ hi' = 0) : PairAt w' lo hi p n S := by
  obtain ⟨b, r, g, l1, h1, l2, h2, hh⟩ := h
  exact ⟨b, r, g, l1, h1, l2, h2, hh.kept o hd hp⟩
theorem PairAt.quiet (h : PairAt w lo hi p n S) (o : Out 0 0 w w') : PairAt w' lo hi p n S := h.kept o (.inr (Nat.zero_le _)) (.inr rfl)
end
theorem none_nx (n k : Nat) : nxr (fun _ => false) n k = -1 := by
  unfold nxr
  by_cases h : nx (fun _ => false) n k < n
  · have := nx_in _ _ _ h
    simp at this
  · rw [if_neg h]
theorem none_cnt (n : Nat) : cnt (fun _ => false) n = 0 := cnt_zero fun _ _ => rfl
set_option maxHeartbeats 1000000 in
theorem made_no (n : Int) (w : World) (h : n < 0 ∨ 262144 < n) :
    Calls Tryd.prog 10 #[.int .i64 n] w fun e w' => e = .returned (.tuple #[.pointer none, .bool true]) ∧ w' = w := by
  have H1 := hid_mk (new_no n w h)
  have H2 := hid_mk (refNew_no n w h)
  clear h
  go_enter Tryd.func10, Tryd.ntmps10
  go_wp2_with (first | (go_at_call 13; refine calls_same H1.out ?_) | (go_at_call 19; refine calls_same H2.out ?_))
  go_ret2
  exact ⟨rfl, rfl⟩
set_option maxHeartbeats 2000000 in
theorem made_yes (n : Nat) (w : World) (h : n ≤ 262144) (hT : Tab w) :
    Calls Tryd.prog 10 #[.int .i64 n] w fun e w' => ∃ p, e = .returned (.tuple #[.pointer (some ⟨p, 0, none⟩), .bool true]) ∧ PairAt w' w.heap.size w'.heap.size p n (fun _ => false) ∧ Out 0 0 w w' := by
  have HN := hid_mk (new_any n w h hT)
  have HR := hid_mk (fun w => refNew_any n w h)
  have hnn : ((n : Int) == (n : Int)) = true := by simp
  clear hT
  go_enter Tryd.func10, Tryd.ntmps10
  go_wp2_with fail
  refine HN.out.mono ?_
  rintro e w1 ⟨b, rfl, hm, ho⟩
  have HM := hid_mk hm
  have HO := hid_mk ho
  clear hm ho HN
  go_wp2_with fail
  refine (HR.out w1).mono ?_
  rintro e w2 ⟨r, rfl, hr, ho⟩
  have HM2 := hid_mk (HM.out.quiet ho)
  have HO2 := hid_mk (HO.out.trans ho)
  have HR2 := hid_mk hr
  have HZ : Hid (w.heap.size ≤ w1.heap.size ∧ w1.heap.size ≤ w2.heap.size) := ⟨HO.out.size, ho.size⟩
  clear hr ho HM HO HR
  go_wp2_with fail
  refine (all_any b w2).mono ?_
  rintro e w3 ⟨rfl, rfl⟩
  have o3 : Out 0 0 w2 ((w2.alloc (.cells #[.pointer (some ⟨b, 0, none⟩)] 30)).alloc (.cells #[.pointer (some ⟨b, 0, none⟩), .pointer (some ⟨r, 0, none⟩), allV w2.heap.size] 44)) := ((Out.refl _ _ _).alloc _).alloc _
  have hP : PairIn ((w2.alloc (.cells #[.pointer (some ⟨b, 0, none⟩)] 30)).alloc (.cells #[.pointer (some ⟨b, 0, none⟩), .pointer (some ⟨r, 0, none⟩), allV w2.heap.size] 44)) w.heap.size (w2.heap.size + 2) (w2.heap.size + 1) n (fun _ => false) (fun _ => false) b r w2.heap.size w.heap.size w1.heap.size w1.heap.size w2.heap.size := by
    have q1 := HM2.out.bounds
    have q2 := HR2.out.bounds
    exact ⟨heap_alloc2_new _ _ _, (Box.new w2 30 _).alloc _, HM2.out.quiet o3, HR2.out.quiet o3, Nat.le_refl _, Nat.le_refl _, by omega, Nat.le_refl _, by omega, by omega, by simp, by omega, by omega⟩
  have HP := hid_mk hP
  have HL := hid_mk (len_any hP.map)
  have HC := hid_mk (count_any hP.map)
  rw [none_cnt] at HC
  have HX := hid_mk (fun w' (o : Out 0 0 _ w') => next_any (hP.map.quiet o) (-1))
  rw [none_nx] at HX
  have HO3 := hid_mk (HO2.out.trans o3)
  clear o3 hP HO2 HM2 HR2
  unfold allV at *
  go_wp2_with fail
  refine calls_same HL.out ?_
  go_wp2_with fail
  refine HC.out.mono ?_
  rintro e w4 ⟨rfl, ho⟩
  have HO4 := hid_mk ho
  clear ho
  go_wp2_with fail
  refine (HX.out w4 HO4.out).mono ?_
  rintro e w5 ⟨rfl, ho⟩
  have HO5 := hid_mk ho
  clear ho
  go_wp2
  go_ret2
  have o5 := HO4.out.trans HO5.out
  refine ⟨_, rfl, ?_, HO3.out.trans o5⟩
  have hp := HP.out.quiet o5
  obtain ⟨a1, a2, a3, a4, a5, a6, a7, a8, a9, a10, a11, a12, a13⟩ := hp
  exact ⟨_, _, _, _, _, _, _, a1, a2, a3, a4, a5, a6, a7, a8, by omega, by omega, Nat.le_refl _, a12, a13⟩
end Go.Proofs.YtnkobcldagajeaaDoor
