/- the document's own Fits, Role, Fields -/
import Derived.Test.YtoajgbgmiionpaaDoorYg
namespace Go.Proofs.YtoajgbgmiionpaaDoor
open Go.RowKit
set_option linter.unusedVariables false
set_option linter.unusedSimpArgs false

theorem spine_wrap {s : Int} (s1 : -9223372036854775808 ≤ s) (s2 : s ≤ 9223372036854775807) : spineB (wrap64 (s - 1)) = spineB (s - 1) := by
  by_cases h : -9223372036854775808 ≤ s - 1
  · rw [show wrap64 (s - 1) = s - 1 from by unfold wrap64; omega]
  · have e : wrap64 (s - 1) = 9223372036854775807 := by unfold wrap64; omega
    have e2 : s - 1 = -9223372036854775809 := by omega
    rw [e, e2]; decide
theorem new_cell (w : World) (cs : Array Value) (T : TypeId) (i : Nat) : (w.alloc (.cells cs T)).cell? ⟨w.heap.size, i, none⟩ = cs[i]? := by
  have h := heap_alloc_new w (.cells cs T)
  simp only [World.cell?, h]
  simp
theorem low_high {j : Nat} (h1 : 1 ≤ j) (h2 : j ≤ 13) : sizeV j (leastV j) = wd j + leastV j ∧ sizeV j (mo j) = wd j + partW j (mo j) := by
  rcases kinds h1 h2 with rfl | rfl | rfl | rfl | rfl | rfl | rfl | rfl | rfl | rfl | rfl | rfl | rfl <;> decide +kernel
theorem refFitsB {j : Nat} {s : Int} (h1 : 1 ≤ j) (h2 : j ≤ 13) : fitsB j s = true ↔ (j ≠ 12 ∨ spineB (s - 1) = true) ∧ sizeV j (leastV j) ≤ s ∧ s ≤ sizeV j (mo j) := by
  obtain ⟨r1, r2, r3, r4, r5, r6, r7, r8, r9, r10⟩ := row_facts h1 h2
  obtain ⟨l1, l2⟩ := low_high h1 h2
  rw [fitsB_iff, known_iff, l1, l2]
  constructor
  · rintro ⟨_, a, b, c⟩
    have c' : j ≠ 12 ∨ spineB (s - 1) = true := by
      rcases c with c | c
      · left; omega
      · exact .inr c
    refine ⟨c', ?_, b⟩
    by_cases e : j = 12
    · rcases c' with c' | c'
      · exact absurd e c'
      · have := (spine_ge c').1
        have := (r8 e).1
        subst e
        have : wd ((12 : Nat) : Int) = 1 := rfl
        omega
    · rw [r7 e]; omega
  · rintro ⟨c, a, b⟩
    refine ⟨by omega, by omega, b, ?_⟩
    rcases c with c | c
    · left; omega
    · exact .inr c
set_option maxHeartbeats 2000000 in
theorem refFits_any (k s : Int) (w : World) (s1 : -9223372036854775808 ≤ s) (s2 : s ≤ 9223372036854775807) : Calls Tryd.prog 26 #[.int .i64 k, .int .i64 s] w fun e w' => e = .returned (.bool (fitsB k s)) ∧ Out 0 0 w w' := by
  by_cases hk : 1 ≤ k ∧ k ≤ 13
  · obtain ⟨j, rfl⟩ : ∃ j : Nat, k = j := ⟨k.toNat, by omega⟩
    have j1 : 1 ≤ j := by omega
    have j2 : j ≤ 13 := by omega
    have k1 : (1 : Int) ≤ (j : Int) := by omega
    have k2 : (j : Int) ≤ 13 := by omega
    have H := hid_mk (row_sim j1 j2)
    have B := refFitsB (s := s) j1 j2
    have HH := hid_mk (heads_any (wrap64 (s - 1)))
    rw [spine_wrap s1 s2] at HH
    have HS1 := hid_mk (refSize_any j (leastV j))
    have HS2 := hid_mk (refSize_any j (mo j))
    obtain ⟨f, hf⟩ : ∃ f, fitsB j s = f := ⟨_, rfl⟩
    obtain ⟨sb, hs⟩ : ∃ sb, spineB (s - 1) = sb := ⟨_, rfl⟩
    rw [hf, hs] at B
    rw [hs] at HH
    rw [hf]
    obtain ⟨t, ht⟩ : ∃ t, wrap64 (s - 1) = t := ⟨_, rfl⟩
    rw [ht] at HH
    clear s1 s2 hk hf hs
    generalize sizeV j (leastV j) = lo at *
    generalize sizeV j (mo j) = hi at *
    generalize sizeB j (leastV j) = b1 at *
    generalize sizeB j (mo j) = b2 at *
    generalize (firstL j).length = L at *
    generalize restV j = x at *
    generalize leastV j = y at *
    generalize mo j = z at *
    generalize perV j = u at *
    by_cases h12 : j = 12
    · subst h12
      rw [show ((12 : Nat) : Int) = 12 from rfl] at *
      cases sb
      · have : f = false := by rw [← Bool.not_eq_true, B]; simp
        subst this
        clear B j1 j2
        go_enter Tryd.func26, Tryd.ntmps26
        go_wp2_with (go_at_call 33; refine calls_same (HH.out _) ?_)
        go_ret
        exact ⟨rfl, Out.refl _ _ _⟩
      · have B' : f = true ↔ lo ≤ s ∧ s ≤ hi := by rw [B]; simp
        have HB := hid_mk B'
        clear B B' j1 j2
        go_enter Tryd.func26, Tryd.ntmps26
        go_wp2_with (first | (go_at_call 33; refine calls_same (HH.out _) ?_) | (go_at_call 32; refine (H.out _).mono ?_; rintro e w1 ⟨ao, cap, rfl, ho⟩; have HO := hid_mk ho; clear ho))
        refine (HS1.out _).mono ?_
        rintro e w2 ⟨rfl, o2⟩
        have c3 : w2.cell? ⟨w1.heap.size, 3, none⟩ = some (.int .i64 z) := o2.cell (new_cell _ _ _ 3) (.inr (Nat.zero_le _))
        have HO2 := hid_mk ((HO.out.alloc _).trans o2)
        clear o2 HO
        go_wp2_with fail
        refine (HS2.out _).mono ?_
        rintro e w3 ⟨rfl, o3⟩
        have HO3 := hid_mk (HO2.out.trans o3)
        clear o3 HO2 c3
        go_wp2
        all_goals go_ret
        all_goals refine ⟨ret_bool ?_, HO3.out⟩
        all_goals (have := HB.out; rw [Bool.eq_iff_iff, this]; simp; try omega)
    · have h12' : ((j : Int) == 12) = false := by simp; omega
      have B' : f = true ↔ lo ≤ s ∧ s ≤ hi := by rw [B]; simp [h12]
      have HB := hid_mk B'
      clear B B' j1 j2 h12
      go_enter Tryd.func26, Tryd.ntmps26
      go_wp2_with (first | (go_at_call 33; refine calls_same (HH.out _) ?_) | (go_at_call 32; refine (H.out _).mono ?_; rintro e w1 ⟨ao, cap, rfl, ho⟩; have HO := hid_mk ho; clear ho))
      refine (HS1.out _).mono ?_
      rintro e w2 ⟨rfl, o2⟩
      have c3 : w2.cell? ⟨w1.heap.size, 3, none⟩ = some (.int .i64 z) := o2.cell (new_cell _ _ _ 3) (.inr (Nat.zero_le _))
      have HO2 := hid_mk ((HO.out.alloc _).trans o2)
      clear o2 HO
      go_wp2_with fail
      refine (HS2.out _).mono ?_
      rintro e w3 ⟨rfl, o3⟩
      have HO3 := hid_mk (HO2.out.trans o3)
      clear o3 HO2 c3
      go_wp2
      all_goals go_ret
      all_goals refine ⟨ret_bool ?_, HO3.out⟩
      all_goals (have := HB.out; rw [Bool.eq_iff_iff, this]; simp; try omega)
  · have hb : fitsB k s = false := by rw [← Bool.not_eq_true, fitsB_iff, known_iff]; exact fun h => hk h.1
    rw [hb]
    clear hb
    have hk' : k < 1 ∨ 13 < k := by omega
    clear hk
    rcases hk' with hk | hk
    all_goals
      go_enter Tryd.func26, Tryd.ntmps26
      go_wp2
      go_ret
      exact ⟨rfl, Out.refl _ _ _⟩
theorem first_role {j i : Nat} (h1 : 1 ≤ j) (h2 : j ≤ 13) (i1 : 1 ≤ i) (i2 : i - 1 < (firstL j).length) : (((firstL j)[i - 1] : Nat) : Int) = roleW j i := by
  have hl := (row_facts h1 h2).2.1
  have hi : i = 1 ∨ i = 2 ∨ i = 3 ∨ i = 4 := by omega
  rcases kinds h1 h2 with rfl | rfl | rfl | rfl | rfl | rfl | rfl | rfl | rfl | rfl | rfl | rfl | rfl <;> rcases hi with rfl | rfl | rfl | rfl <;> first | rfl | (revert i2; decide)
theorem rest_role {j i : Nat} (h1 : 1 ≤ j) (h2 : j ≤ 13) (i1 : (firstL j).length < i) (hr : restV j ≠ 0) : restV j = roleW j i := by
  rcases kinds h1 h2 with rfl | rfl | rfl | rfl | rfl | rfl | rfl | rfl | rfl | rfl | rfl | rfl | rfl <;> first | (exact absurd rfl hr) | rfl | skip
  simp [firstL] at i1
  unfold roleW frameW
  simp [restV]
  have q1 : (i : Int) ≠ 2 := by omega
  have q2 : (i : Int) ≠ 3 := by omega
  have q3 : (i : Int) ≠ 4 := by omega
  have q4 : (1 : Int) < (i : Int) := by omega
  simp [q1, q2, q3]
  omega
theorem fits_rest {j i : Nat} {s : Int} (h1 : 1 ≤ j) (h2 : j ≤ 13) (hf : fitsB j s = true) (i1 : (firstL j).length < i) (i2 : (i : Int) < s) : restV j ≠ 0 := by
  obtain ⟨r1, r2, r3, r4, r5, r6, r7, r8, r9, r10⟩ := row_facts h1 h2
  obtain ⟨_, a, b, c⟩ := fitsB_iff.1 hf
  intro h
  have m := (r5 h).1
  rw [m] at b
  have : partW (j : Int) 0 = 0 := by unfold partW; split <;> decide
  omega
theorem refRole_any (k s i : Int) (w : World) (s1 : -9223372036854775808 ≤ s) (s2 : s ≤ 9223372036854775807) :
    Calls Tryd.prog 27 #[.int .i64 k, .int .i64 s, .int .i64 i] w fun e w' => e = .returned (.int .i64 (roleV k s i)) ∧ Out 0 0 w w' := by
  have HF := hid_mk (fun w => refFits_any k s w s1 s2)
  clear s1 s2
  cases hf : fitsB k s
  · rw [hf] at HF
    have e : roleV k s i = 0 := by unfold roleV; rw [hf]; simp
    rw [e]
    clear e hf
    go_enter Tryd.func27, Tryd.ntmps27
    go_wp2_with (go_at_call 26; refine (HF.out _).mono ?_; rintro e w1 ⟨rfl, ho⟩)
    go_ret
    exact ⟨rfl, ho⟩
  rw [hf] at HF
  by_cases hi : 1 ≤ i ∧ i < s
  · obtain ⟨i1, i2⟩ := hi
    have e : roleV k s i = roleW k i := by unfold roleV; rw [if_pos ⟨hf, i1, i2⟩]
    rw [e]
    obtain ⟨hk, _⟩ := fitsB_iff.1 hf
    obtain ⟨j, rfl, j1, j2⟩ := known_nat hk
    obtain ⟨p, rfl⟩ : ∃ p : Nat, i = p := ⟨i.toNat, by omega⟩
    have p1 : 1 ≤ p := by omega
    have HR := hid_mk (row_any j1 j2)
    have F1 := hid_mk (fun h => first_role j1 j2 p1 h)
    have F2 := hid_mk (fun h => rest_role j1 j2 h (fits_rest j1 j2 hf h i2))
    obtain ⟨pp, hpp⟩ : ∃ pp : Nat, p = pp + 1 := ⟨p - 1, by omega⟩
    subst hpp
    clear e hf hk
    generalize roleW j ((pp + 1 : Nat) : Int) = ro at *
    go_enter Tryd.func27, Tryd.ntmps27
    go_wp2_with (go_at_call 26; refine (HF.out _).mono ?_; rintro e w1 ⟨rfl, ho⟩)
    refine (HR.out _).mono ?_
    rintro e w2 ⟨f, rfl, hl, ho2⟩
    obtain ⟨ao, cap, rfl, hrow⟩ := own_open hl
    have HO := hid_mk ((ho.trans ho2).alloc (.cells (rowV (.slice ao (firstL j).length cap) (restV j) (leastV j) (mo j) (perV j)) 47))
    by_cases hp : pp < (firstL j).length
    · obtain ⟨g, rfl, g1, g2, g3⟩ := hrow (by omega)
      have hc := ((Out.refl 0 0 w2).alloc (.cells (rowV (.slice (some ⟨g, 0, none⟩) (firstL j).length cap) (restV j) (leastV j) (mo j) (perV j)) 47)).cell (g3 pp hp) (.inr (Nat.zero_le _))
      have e1 : (((firstL j)[pp]'hp : Nat) : Int) = ro := F1.out hp
      rw [e1] at hc
      clear e1
      have b1 : (pp : Int) < ((firstL j).length : Int) := by omega
      have b2 : ((firstL j).length : Int) ≤ 4 := by have := (row_facts j1 j2).2.1; omega
      have b0 : (0 : Int) ≤ (pp : Int) := by omega
      clear hl g3 hrow ho ho2 F1 F2 HR HF
      generalize (firstL j).length = L at *
      generalize restV j = x at *
      generalize leastV j = y at *
      generalize mo j = z at *
      generalize perV j = u at *
      unfold rowV at *
      go_wp2
      go_ret
      exact ⟨rfl, HO.out⟩
    · have e2 := F2.out (by omega)
      have b1 : ((firstL j).length : Int) ≤ (pp : Int) := by omega
      rw [e2] at HO ⊢
      clear hl hrow ho ho2 F1 F2 HR HF e2
      generalize (firstL j).length = L at *
      generalize leastV j = y at *
      generalize mo j = z at *
      generalize perV j = u at *
      unfold rowV at *
      go_wp2
      go_ret
      exact ⟨rfl, HO.out⟩
  · have e : roleV k s i = 0 := by unfold roleV; rw [if_neg (fun h => hi h.2)]
    rw [e]
    have hi' : i < 1 ∨ (1 ≤ i ∧ s ≤ i) := by omega
    clear e hf hi
    rcases hi' with h | ⟨h, h'⟩
    all_goals
      go_enter Tryd.func27, Tryd.ntmps27
      go_wp2_with (go_at_call 26; refine (HF.out _).mono ?_; rintro e w1 ⟨rfl, ho⟩)
      go_ret
      exact ⟨rfl, ho⟩
end Go.Proofs.YtoajgbgmiionpaaDoor
