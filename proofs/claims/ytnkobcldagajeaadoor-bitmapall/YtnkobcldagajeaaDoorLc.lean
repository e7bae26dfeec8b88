/- same -/
import Derived.Test.YtnkobcldagajeaaDoorLb
namespace Go.Proofs.YtnkobcldagajeaaDoor
open Go.RowKit
set_option linter.unusedVariables false
set_option linter.unusedSimpArgs false

theorem own_slice {w : World} {base n : Nat} {e : TypeId} {v : Value} {xs : List Value} (h : w.ownsRow base e 1 v n xs) :
    (n = 0 ∧ v = .slice none 0 0) ∨ ∃ g cap, v = .slice (some ⟨g, 0, none⟩) n cap ∧ base ≤ g ∧ g < w.heap.size ∧ ∀ i, i < n → ∃ u, xs[i]? = some u ∧ w.cell? ⟨g, i, none⟩ = some u := by
  have h' := h
  obtain ⟨hl, hc⟩ := h
  rcases hc with ⟨rfl, h0⟩ | ⟨g, cap, cur, rfl, h1, h2, h3, h4, h5, h6⟩
  · exact .inl ⟨h0, rfl⟩
  · refine .inr ⟨g, cap, rfl, h1, heap_lt h2, fun i hi => ?_⟩
    have e := h'.cellAt i (by omega)
    have hlt : i < xs.length := by omega
    exact ⟨xs[i], List.getElem?_eq_getElem hlt, by rw [e]; exact List.getElem?_eq_getElem hlt⟩
theorem lst_step {S : Nat → Bool} {n i p : Nat} (h : (lst S n 0).drop i = lst S n p) (hi : i < (lst S n 0).length) :
    ∃ z : Nat, nxr S n p = (z : Int) ∧ z < n ∧ S z = true ∧ (ints (lst S n 0))[i]? = some (.int .i64 z) ∧ (lst S n 0).drop (i + 1) = lst S n (z + 1) ∧ p ≤ z := by
  have e := lst_nx S n p
  have hne : lst S n p ≠ [] := by
    rw [← h]
    intro hh
    have := congrArg List.length hh
    simp at this; omega
  by_cases hz : nx S n p < n
  · rw [if_pos hz] at e
    have hp : p ≤ n := by
      by_cases hp : p ≤ n
      · exact hp
      · rw [nx_end _ _ _ (by omega)] at hz; omega
    refine ⟨nx S n p, by unfold nxr; rw [if_pos hz], hz, nx_in S n p hz, ?_, ?_, nx_ge S n p hp⟩
    · have h1 : (lst S n 0)[i]? = some (nx S n p) := by
        have := congrArg (fun l => l[0]?) (h.trans e)
        simpa using this
      simp [ints, h1]
    · have := congrArg (fun l => l.drop 1) (h.trans e)
      simpa [Nat.add_comm] using this
  · rw [if_neg hz] at e
    exact absurd e hne
theorem lst_stop {S : Nat → Bool} {n i p : Nat} (h : (lst S n 0).drop i = lst S n p) (hi : i = (lst S n 0).length) : nxr S n p = -1 := by
  have e := lst_nx S n p
  rw [← h, hi, List.drop_length] at e
  by_cases hz : nx S n p < n
  · rw [if_pos hz] at e; cases e
  · unfold nxr; rw [if_neg hz]
set_option maxRecDepth 100000 in
set_option maxHeartbeats 4000000 in
theorem same_any {w : World} {lo hi p n : Nat} {S : Nat → Bool} (h : PairAt w lo hi p n S) :
    Calls Tryd.prog 11 #[.pointer (some ⟨p, 0, none⟩)] w fun e w' => e = .returned (.bool true) ∧ Out 0 0 w w' := by
  obtain ⟨b, r, g, l1, h1, l2, h2, hP⟩ := h
  obtain ⟨c0, c1, _⟩ := hP.cells
  have HP := hid_mk hP
  have HL := hid_mk (list_any hP.ref)
  have hlim := hP.lim
  have HN : Hid (n ≤ 262144) := hlim.2.2.2.2.2.2.2
  have HCn := hid_mk (lst_cnt S n)
  have HCl := hid_mk (cnt_le S n)
  clear hP hlim
  go_enter Tryd.func11, Tryd.ntmps11
  go_wp2_with fail
  refine HL.out.mono ?_
  rintro e w1 ⟨v, rfl, hown, ho⟩
  have HP1 := hid_mk (HP.out.quiet ho)
  obtain ⟨d0, d1, _⟩ := HP1.out.cells
  obtain ⟨ao, cap, d2⟩ := HP1.out.ref.field
  have HO := hid_mk ho
  clear c0 c1 ho HL HP
  have hn1 : ((n : Int) != (n : Int)) = false := by simp
  have HLen := hid_mk (fun w (h : MapAt w l1 h1 b n S) => len_any h)
  have HCt := hid_mk (fun w (h : MapAt w l1 h1 b n S) => count_any h)
  rcases own_slice hown with ⟨hl0, rfl⟩ | ⟨gl, capl, rfl, hg1, hg2, hcell⟩
  · have e0 : cnt S n = 0 := by rw [← HCn.out]; exact hl0
    rw [e0, show ((0 : Nat) : Int) = 0 from rfl] at HCt
    have HZ : Hid (nxr S n 0 = -1) := lst_stop (i := 0) rfl hl0.symm
    clear hown hl0 e0
    go_wp2_with fail
    go_region_held3 (fun w' => w'.cell? ⟨p, 0, none⟩ = some (.pointer (some ⟨b, 0, none⟩)) ∧ w'.cell? ⟨p, 1, none⟩ = some (.pointer (some ⟨r, 0, none⟩)) ∧ w'.cell? ⟨r, 0, none⟩ = some (.slice ao n cap)) (first | go_keep | (refine ⟨?_, ?_, ?_⟩ <;> exact hOO.cell (by assumption) (.inr (Nat.zero_le _))))
      (first | (go_at_call 18; refine calls_same (HLen.out _ (by exact HP1.out.map)) ?_) | (go_at_call 17; refine (HCt.out _ (by exact HP1.out.map)).mono ?_; rintro e w2 ⟨rfl, hOO⟩))
    have HP2 : Hid (PairIn w2 lo hi p n S S b r g l1 h1 l2 h2) := HP1.out.quiet (show Out 0 0 w1 w2 from hOO)
    have HO2 : Hid (Out 0 0 w w2) := HO.out.trans (show Out 0 0 w1 w2 from hOO)
    obtain ⟨x0, _, _⟩ := HP2.out.cells
    have HX := hid_mk (next_any HP2.out.map 0)
    rw [show (0 : Int).toNat = 0 from rfl, HZ.out] at HX
    clear d0 d1 d2 hOO HP1 HO
    go_wp2_with fail
    go_loopw [4, 5] (fun x y wr => x = .int .i64 (-1) ∧ y = .int .i64 0 ∧ wr = w2) (fun _ _ _ => 0)
    case atStart => exact ⟨rfl, rfl, rfl⟩
    case round =>
      obtain ⟨rfl, rfl, rfl⟩ := hrel
      go_wp2_with (go_at_call 16; refine HX.out.mono ?_; rintro e w3 ⟨rfl, ho3⟩)
      go_ret
      exact ⟨rfl, HO2.out.trans ho3⟩
  · obtain ⟨L, hL⟩ : ∃ L, (lst S n 0).length = L := ⟨_, rfl⟩
    have eL : cnt S n = L := by rw [← HCn.out]; exact hL
    rw [eL] at HCt
    rw [hL] at hcell ⊢
    have hn2 : ((L : Int) != (L : Int)) = false := by simp
    have HLn : Hid (L ≤ n) := by show L ≤ n; have := HCl.out; omega
    have HLL := hid_mk hL
    have HCe := hid_mk hcell
    have HG : Hid (gl < w1.heap.size) := hg2
    clear hown hL eL hcell hg2
    go_wp2_with fail
    go_region_held3 (fun w' => w'.cell? ⟨p, 0, none⟩ = some (.pointer (some ⟨b, 0, none⟩)) ∧ w'.cell? ⟨p, 1, none⟩ = some (.pointer (some ⟨r, 0, none⟩)) ∧ w'.cell? ⟨r, 0, none⟩ = some (.slice ao n cap)) (first | go_keep | (refine ⟨?_, ?_, ?_⟩ <;> exact hOO.cell (by assumption) (.inr (Nat.zero_le _))))
      (first | (go_at_call 18; refine calls_same (HLen.out _ (by exact HP1.out.map)) ?_) | (go_at_call 17; refine (HCt.out _ (by exact HP1.out.map)).mono ?_; rintro e w2 ⟨rfl, hOO⟩))
    have HP2 : Hid (PairIn w2 lo hi p n S S b r g l1 h1 l2 h2) := HP1.out.quiet (show Out 0 0 w1 w2 from hOO)
    have HO2 : Hid (Out 0 0 w w2) := HO.out.trans (show Out 0 0 w1 w2 from hOO)
    have HCe2 : Hid (∀ wr, Out 0 0 w2 wr → ∀ i z, i < L → (ints (lst S n 0))[i]? = some (.int .i64 z) → wr.cell? ⟨gl, i, none⟩ = some (.int .i64 z)) := fun wr o i z hi hz => by
      obtain ⟨u, hu1, hu2⟩ := HCe.out i hi
      rw [hz] at hu1
      cases hu1
      exact ((show Out 0 0 w1 w2 from hOO).trans o).cell hu2 (.inr (Nat.zero_le _))
    clear d0 d1 d2 hOO HP1 HO HCe
    go_wp2_with fail
    go_loopw [4, 5] (fun x y wr => ∃ (i q : Nat) (t : Int), i ≤ L ∧ x = .int .i64 t ∧ y = .int .i64 i ∧ t + 1 = q ∧ (lst S n 0).drop i = lst S n q ∧ q ≤ n ∧ Out 0 0 w2 wr) (fun _ y _ => L - (intOf y).toNat)
    case atStart => exact ⟨0, 0, -1, Nat.zero_le _, rfl, rfl, rfl, rfl, Nat.zero_le _, Out.refl _ _ _⟩
    case round =>
      obtain ⟨i, q, t, a1, rfl, rfl, a2, a3, a4, a5⟩ := hrel
      have A2 := hid_mk a2
      have A3 := hid_mk a3
      have A5 := hid_mk a5
      obtain ⟨k1, m1, m2⟩ : ∃ k1 : Int, t < 64 * k1 ∧ k1 ≤ 4096 := ⟨4096, by have := HN.out; omega, by omega⟩
      obtain ⟨k2, m3, m4⟩ : ∃ k1 : Int, (i : Int) < 64 * k1 ∧ k1 ≤ 4097 := ⟨4097, by have := HN.out; have := HLn.out; omega, by omega⟩
      have m5 : -1 ≤ t := by omega
      have HP3 : Hid (PairIn wr lo hi p n S S b r g l1 h1 l2 h2) := HP2.out.quiet a5
      obtain ⟨x0, _, _⟩ := HP3.out.cells
      clear a2 a3 a4 a5
      by_cases hi' : i < L
      · obtain ⟨z, z1, z2, z3, z4, z5, z6⟩ := lst_step A3.out (by rw [HLL.out]; exact hi')
        have y0 := HCe2.out wr A5.out i z hi' z4
        have HX := hid_mk (fun w (h : MapAt w l1 h1 b n S) => next_any h (t + 1))
        rw [show (t + 1).toNat = q from by have := A2.out; omega, z1] at HX
        have HGt := hid_mk (fun w (h : MapAt w l1 h1 b n S) => get_any h z)
        rw [show getB S n (z : Int) = true from by simp [getB, inB, z3]; omega] at HGt
        have hzz : ((z : Int) != (z : Int)) = false := by simp
        have hw : IntKind.i64.wrap (t + 1) = t + 1 := by simp [IntKind.wrap, IntKind.signed, IntKind.bits]; omega
        have j1 : (0 : Int) ≤ (i : Int) := by omega
        have j2 : (i : Int) < (L : Int) := by omega
        have Z5 := hid_mk z5
        have Z2 := hid_mk z2
        clear z1 z2 z3 z4 z5 z6
        go_wp2_with fail
        go_region_held3 (fun w' => w'.cell? ⟨p, 0, none⟩ = some (.pointer (some ⟨b, 0, none⟩)) ∧ w'.cell? ⟨gl, i, none⟩ = some (.int .i64 z)) (first | go_keep | (refine ⟨?_, ?_⟩ <;> exact hOO.cell (by assumption) (.inr (Nat.zero_le _))) | (refine ⟨?_, ?_⟩ <;> exact hO4.cell (hOO.cell (by assumption) (.inr (Nat.zero_le _))) (.inr (Nat.zero_le _))))
          (first | (go_at_call 16; refine (HX.out _ (by exact HP3.out.map)).mono ?_; rintro e w3 ⟨rfl, hOO⟩) | (go_at_call 15; refine (HGt.out _ (HP3.out.map.quiet (by exact hOO))).mono ?_; rintro e w4 ⟨rfl, hO4⟩))
        have HO4 : Hid (Out 0 0 w2 w4) := A5.out.trans ((show Out 0 0 wr w3 from hOO).trans hO4)
        have y4 := HCe2.out w4 HO4.out i z hi' (by
          obtain ⟨z', q1, q2, q3, q4, q5, q6⟩ := lst_step A3.out (by rw [HLL.out]; exact hi')
          have : z' = z := by
            have h1 := HCe2.out wr A5.out i z' hi' q4
            rw [y0] at h1
            simp at h1
            omega
          rw [← this]; exact q4)
        clear hOO hO4 y0 x0
        go_wp2
        go_roundw
        case rel => exact ⟨i + 1, z + 1, z, by omega, rfl, by go_num, by omega, Z5.out, by have := Z2.out; omega, HO4.out⟩
        case measure => simp [intOf]; omega
      · obtain rfl : i = L := by omega
        have HX := hid_mk (next_any HP3.out.map (t + 1))
        rw [show (t + 1).toNat = q from by have := A2.out; omega, lst_stop A3.out HLL.out.symm] at HX
        go_wp2_with (go_at_call 16; refine HX.out.mono ?_; rintro e w3 ⟨rfl, ho3⟩)
        go_ret
        exact ⟨rfl, HO2.out.trans (A5.out.trans ho3)⟩
end Go.Proofs.YtnkobcldagajeaaDoor
