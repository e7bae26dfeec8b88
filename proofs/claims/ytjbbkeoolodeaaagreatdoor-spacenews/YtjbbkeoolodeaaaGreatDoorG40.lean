import Derived.Test.YtjbbkeoolodeaaaGreatDoorG37
import Derived.Test.YtjbbkeoolodeaaaGreatDoorG39
namespace Go.Proofs.YtjbbkeoolodeaaaGreatDoor
open Go.RowKit
set_option linter.unusedVariables false
set_option linter.unusedSimpArgs false

theorem fix_mid {col col' : Nat → Nat} {w w' : World} (h : Fix col col' w w') {lo hi : Nat} (h7 : ∀ k, (k < 4 ∨ (lo ≤ k ∧ k < hi)) → col k = 7) (hg : 4 ≤ lo) (hlh : lo ≤ hi) (hs : hi ≤ w.heap.size) : ∃ m, Out 4 lo w m ∧ Out hi w'.heap.size m w' := by
  obtain ⟨⟨h1, h2, h3, h4, h5⟩, _⟩ := h
  obtain ⟨H, hH⟩ : ∃ H : Array Obj, H = Array.ofFn (n := w'.heap.size) fun i => if i.val < lo then w'.heap[i.val] else if q : i.val < w.heap.size then w.heap[i.val] else w'.heap[i.val] := ⟨_, rfl⟩
  have hsz : H.size = w'.heap.size := by rw [hH]; simp
  have hat : ∀ k, k < w'.heap.size → H[k]? = if k < lo then w'.heap[k]? else if k < w.heap.size then w.heap[k]? else w'.heap[k]? := fun k hk => by
    rw [hH, Array.getElem?_eq_getElem (by simpa using hk)]
    simp only [Array.getElem_ofFn]
    by_cases q : k < lo
    · rw [if_pos q, if_pos q, Array.getElem?_eq_getElem hk]
    · rw [if_neg q, if_neg q]
      by_cases q2 : k < w.heap.size
      · rw [dif_pos q2, if_pos q2, Array.getElem?_eq_getElem q2]
      · rw [dif_neg q2, if_neg q2, Array.getElem?_eq_getElem hk]
  have same : ∀ k, k < w.heap.size → col k = 7 → w'.heap[k]? = w.heap[k]? := fun k hk hc => h5 k hk (fun q => q hc)
  refine ⟨{ w' with heap := H }, ⟨h1, h2, h3, by show _ ≤ H.size; omega, fun k hk hk2 => ?_⟩, ⟨rfl, rfl, rfl, by show H.size ≤ _; omega, fun k hk hk2 => ?_⟩⟩
  · show H[k]? = _
    rw [hat k (by omega)]
    by_cases q : k < lo
    · rw [if_pos q]
      exact same k hk (h7 k (.inl (by omega)))
    · rw [if_neg q, if_pos hk]
  · have hk3 : k < w'.heap.size := by have : k < H.size := hk; omega
    show w'.heap[k]? = H[k]?
    rw [hat k hk3]
    by_cases q : k < lo
    · rw [if_pos q]
    · rw [if_neg q, if_pos (by omega)]
      exact same k (by omega) (h7 k (.inr (by omega)))
theorem SpAt.fix {col col' : Nat → Nat} {w w' : World} {lo hi n cap : Nat} {s : Nat → Nat} {st : Sp} (h : SpAt w lo hi s n cap st) (f : Fix col col' w w') (h7 : ∀ k, (k < 4 ∨ (lo ≤ k ∧ k < hi)) → col k = 7) (hlh : lo ≤ hi) : SpAt w' lo hi s n cap st := by
  obtain ⟨m, o1, o2⟩ := fix_mid f h7 h.1.glob hlh h.1.top
  exact (h.kept o1 (.inr (Nat.le_refl _)) (.inl (Nat.le_refl _))).kept o2 (.inl (Nat.le_refl _)) (.inl (by have := h.1.glob; omega))
theorem RfAt.fix {col col' : Nat → Nat} {w w' : World} {lo hi n cw co : Nat} {s : Nat → Nat} {st : Sp} (h : RfAt w lo hi s n cw co st) (f : Fix col col' w w') (h7 : ∀ k, (k < 4 ∨ (lo ≤ k ∧ k < hi)) → col k = 7) (hlh : lo ≤ hi) : RfAt w' lo hi s n cw co st := by
  obtain ⟨m, o1, o2⟩ := fix_mid f h7 h.glob hlh h.top
  exact (h.kept o1 (.inr (Nat.le_refl _))).kept o2 (.inl (Nat.le_refl _))
/-- a pair: two spaces that hold the same, and what is kept -/
structure PS (B : Nat) (w : World) (b lo hi lo' hi' : Nat) (s sr : Nat → Nat) (n cap cw co : Nat) (st : Sp) (col : Nat → Nat) (z : Bool) (c : Nat) : Prop where
  sp : SpAt w lo hi s n cap st
  rf : RfAt w lo' hi' sr n cw co st
  ks : KS B w b (.pointer (some ⟨s 14, 0, none⟩)) (.pointer (some ⟨sr 0, 0, none⟩)) col z c
  c7 : ∀ k, (k < 4 ∨ (lo ≤ k ∧ k < hi) ∨ (lo' ≤ k ∧ k < hi')) → col k = 7
  le : lo ≤ hi ∧ lo' ≤ hi' ∧ n ≤ 24
section
variable {B : Nat} {w w' : World} {b lo hi lo' hi' n cap cw co c c' : Nat} {s sr : Nat → Nat} {st : Sp} {col col' : Nat → Nat} {z z' : Bool}
theorem PS.quiet (h : PS B w b lo hi lo' hi' s sr n cap cw co st col z c) (o : Out 0 0 w w') : PS B w' b lo hi lo' hi' s sr n cap cw co st col z c :=
  ⟨h.sp.quiet o, h.rf.quiet o, h.ks.quiet o, h.c7, h.le⟩
theorem PS.fix (h : PS B w b lo hi lo' hi' s sr n cap cw co st col z c) (f : Fix col col' w w') (k : KS B w' b (.pointer (some ⟨s 14, 0, none⟩)) (.pointer (some ⟨sr 0, 0, none⟩)) col' z' c') : PS B w' b lo hi lo' hi' s sr n cap cw co st col' z' c' :=
  ⟨h.sp.fix f (fun k hk => h.c7 k (by omega)) h.le.1, h.rf.fix f (fun k hk => h.c7 k (by omega)) h.le.2.1, k, fun k hk => f.2 k (by have h1 := h.sp.1.top; have h2 := h.rf.top; have h3 := h.sp.1.glob; have h4 := h.le; omega) (h.c7 k hk), h.le⟩
/-- apart, of what is kept -/
theorem apart_ks {v0 v1 : Value} (h : KS B w b v0 v1 col true c) (hc : c ≤ 800) : Calls Tryz.prog 39 #[.pointer (some ⟨b, 2, none⟩)] w fun e w' => e = .returned (.bool true) ∧ ∃ col', KS B w' b v0 v1 col' false (c + 32) ∧ Fix col col' w w' := by
  obtain ⟨V, X, C, p, N0, N2, F0, F1, F2, k1, k2, k3, k4, k5⟩ := h
  have e := k5 rfl
  subst e
  refine (apart_any k1 k2 (by omega)).mono ?_
  rintro e w' ⟨rfl, V', X', col', p', r1, r2, r3, r4, r5⟩
  obtain ⟨⟨q2, q3, q4, q5, q6, q7⟩, q8, q9, q10⟩ := k2
  refine ⟨rfl, col', ⟨V', X', C, p', N0, N2, _, _, _, r1, ⟨⟨?_, ?_, ?_, ?_, ?_, ?_⟩, r4.1, r4.2.1, r4.2.2⟩, by omega, by rw [(r3 0 (by omega)).1, (r3 1 (by omega)).1]; exact k4, fun e => by cases e⟩, r5⟩
  · rw [(r3 2 (by omega)).2]; exact q2
  · rw [(r3 3 (by omega)).2]; exact q3
  · rw [(r3 4 (by omega)).2]; exact q4
  · rw [(r3 5 (by omega)).2]; exact q5
  · rw [(r3 6 (by omega)).2]; exact q6
  · rw [(r3 7 (by omega)).2]; exact q7
set_option maxRecDepth 100000 in
set_option maxHeartbeats 16000000 in
theorem looked18_any (h : PS B w b lo hi lo' hi' s sr n cap cw co st col z c) (o0 o2 o3 o4 : Int) (lp : Option Addr) (ll lc : Nat) : Calls Tryz.prog 11 #[.pointer (some ⟨b, 0, none⟩), .agg #[.int .i64 o0, .int .i64 18, .int .i64 o2, .int .i64 o3, .int .i64 o4, .slice lp ll lc]] w fun e w' => e = .returned (.bool true) ∧ Out 0 0 w w' := by
  obtain ⟨X, hX⟩ : ∃ X, s 14 = X := ⟨_, rfl⟩
  obtain ⟨Y, hY⟩ : ∃ Y, sr 0 = Y := ⟨_, rfl⟩
  obtain ⟨v, hv⟩ : ∃ v, nxr (wrTo n (rawOf n st) 8) (64 * n) 0 = v := ⟨_, rfl⟩
  have HA : Hid (∀ W, Out 0 0 w W → Calls Tryz.prog 32 #[.pointer (some ⟨X, 0, none⟩)] W fun e w' => e = .returned (.int .i64 v) ∧ Out 0 0 W w') := fun W o => by
    have q := wrong_any (h.sp.quiet o).1 (told_of st)
    rw [hX, hv] at q
    exact q
  have HB : Hid (∀ W, Out 0 0 w W → Calls Tryz.prog 33 #[.pointer (some ⟨Y, 0, none⟩)] W fun e w' => e = .returned (.int .i64 v) ∧ Out 0 0 W w') := fun W o => by
    have q := refWrong_any (h.rf.quiet o) h.sp.2
    rw [hY, hv] at q
    exact q
  obtain ⟨p0, p1⟩ := h.ks.cells
  rw [hX] at p0
  rw [hY] at p1
  clear h hX hY hv
  go_enter Tryz.func11, Tryz.ntmps11
  go_wp2_with fail
  obtain ⟨W, hW⟩ : ∃ W, w.alloc (.cells #[.int .i64 o0, .int .i64 18, .int .i64 o2, .int .i64 o3, .int .i64 o4, .slice lp ll lc] 29) = W := ⟨_, rfl⟩
  have oW : Out 0 0 w W := by rw [← hW]; exact (Out.refl 0 0 _).alloc _
  replace p0 := oW.cell p0 (.inr (Nat.zero_le _))
  replace p1 := oW.cell p1 (.inr (Nat.zero_le _))
  rw [hW]
  clear hW
  refine wp_region_held_drew (S := fun w' => w'.cell? ⟨b, 0, none⟩ = some (.pointer (some ⟨X, 0, none⟩)) ∧ w'.cell? ⟨b, 1, none⟩ = some (.pointer (some ⟨Y, 0, none⟩)) ∧ Out 0 0 w w') (by kernel_rfl) ?hS1 (fun hHeld => ?rest1)
  case hS1 => exact ⟨p0, p1, oW.drew⟩
  refine wpAnyH_take (i := 0) (v := ?v2) rfl (by kernel_rfl) (by kernel_rfl) (by kernel_rfl) (fun _ _ _ h => h) (Or.inl ⟨by rfl, ?hy2⟩) (by assumption) ?rest2
  case hy2 => (intro w hSw; (try dsimp only at hSw); simp only [List.getElem_toArray, List.getElem_cons_zero, List.getElem_cons_succ]; go_simp; (try with_reducible rfl))
  (try simp only [Act.put, List.getElem_toArray, List.getElem_cons_zero, List.getElem_cons_succ, List.setIfInBounds_toArray, List.set_cons_zero, List.set_cons_succ])
  refine wpAnyH_take (i := 1) (v := ?v3) rfl (by kernel_rfl) (by kernel_rfl) (by kernel_rfl) (fun _ _ _ h => h) (Or.inl ⟨by rfl, ?hy3⟩) (by assumption) ?rest3
  case hy3 => (intro w hSw; (try dsimp only at hSw); simp only [List.getElem_toArray, List.getElem_cons_zero, List.getElem_cons_succ]; go_simp; (try with_reducible rfl))
  (try simp only [Act.put, List.getElem_toArray, List.getElem_cons_zero, List.getElem_cons_succ, List.setIfInBounds_toArray, List.set_cons_zero, List.set_cons_succ])
  refine wpAnyH_take (i := 2) (v := ?v4) rfl (by kernel_rfl) (by kernel_rfl) (by kernel_rfl) (fun _ _ _ h => h) (Or.inl ⟨by rfl, ?hy4⟩) (by assumption) ?rest4
  case hy4 => (intro w hSw; (try dsimp only at hSw); simp only [List.getElem_toArray, List.getElem_cons_zero, List.getElem_cons_succ]; go_simp; (try with_reducible rfl))
  (try simp only [Act.put, List.getElem_toArray, List.getElem_cons_zero, List.getElem_cons_succ, List.setIfInBounds_toArray, List.set_cons_zero, List.set_cons_succ])
  refine wpAnyH_take (i := 3) (v := ?v5) rfl (by kernel_rfl) (by kernel_rfl) (by kernel_rfl) (fun _ _ _ h => h) (Or.inl ⟨by rfl, ?hy5⟩) (by assumption) ?rest5
  case hy5 => (intro w hSw; (try dsimp only at hSw); simp only [List.getElem_toArray, List.getElem_cons_zero, List.getElem_cons_succ]; go_simp; (try with_reducible rfl))
  (try simp only [Act.put, List.getElem_toArray, List.getElem_cons_zero, List.getElem_cons_succ, List.setIfInBounds_toArray, List.set_cons_zero, List.set_cons_succ])
  refine wpAnyH_take (i := 5) (v := ?v6) rfl (by kernel_rfl) (by kernel_rfl) (by kernel_rfl) (fun _ _ _ h => h) (Or.inl ⟨by rfl, ?hy6⟩) (by assumption) ?rest6
  case hy6 => (intro w hSw; (try dsimp only at hSw); simp only [List.getElem_toArray, List.getElem_cons_zero, List.getElem_cons_succ]; go_simp; (try with_reducible rfl))
  (try simp only [Act.put, List.getElem_toArray, List.getElem_cons_zero, List.getElem_cons_succ, List.setIfInBounds_toArray, List.set_cons_zero, List.set_cons_succ])
  refine wpAnyH_take (i := 6) (v := ?v7) rfl (by kernel_rfl) (by kernel_rfl) (by kernel_rfl) (fun _ _ _ h => h) (Or.inl ⟨by rfl, ?hy7⟩) (by assumption) ?rest7
  case hy7 => (intro w hSw; (try dsimp only at hSw); simp only [List.getElem_toArray, List.getElem_cons_zero, List.getElem_cons_succ]; go_simp; (try with_reducible rfl))
  (try simp only [Act.put, List.getElem_toArray, List.getElem_cons_zero, List.getElem_cons_succ, List.setIfInBounds_toArray, List.set_cons_zero, List.set_cons_succ])
  refine wpAnyH_take (i := 7) (v := ?v8) rfl (by kernel_rfl) (by kernel_rfl) (by kernel_rfl) (fun _ _ _ h => h) (Or.inl ⟨by rfl, ?hy8⟩) (by assumption) ?rest8
  case hy8 => (intro w hSw; (try dsimp only at hSw); simp only [List.getElem_toArray, List.getElem_cons_zero, List.getElem_cons_succ]; go_simp; (try with_reducible rfl))
  (try simp only [Act.put, List.getElem_toArray, List.getElem_cons_zero, List.getElem_cons_succ, List.setIfInBounds_toArray, List.set_cons_zero, List.set_cons_succ])
  refine wpAnyH_take (i := 8) (v := ?v9) rfl (by kernel_rfl) (by kernel_rfl) (by kernel_rfl) (fun _ _ _ h => h) (Or.inl ⟨by rfl, ?hy9⟩) (by assumption) ?rest9
  case hy9 => (intro w hSw; (try dsimp only at hSw); simp only [List.getElem_toArray, List.getElem_cons_zero, List.getElem_cons_succ]; go_simp; (try with_reducible rfl))
  (try simp only [Act.put, List.getElem_toArray, List.getElem_cons_zero, List.getElem_cons_succ, List.setIfInBounds_toArray, List.set_cons_zero, List.set_cons_succ])
  refine wpAnyH_ready (rs := [4]) (by kernel_rfl) (by simp) ?_
  refine AllReadyH.cons rfl (fun KK hK => ?_) AllReadyH.nil
  simp only [List.getElem_toArray, List.getElem_cons_zero, List.getElem_cons_succ]
  go_simp
  refine (HA.out _ hHeld.2.2).mono ?_
  rintro e V1 ⟨rfl, q1⟩
  refine hK.out _ _ ?hS10 (fun hHeld2 => ?rest10)
  case hS10 => exact ⟨q1.cell hHeld.1 (.inr (Nat.zero_le _)), q1.cell hHeld.2.1 (.inr (Nat.zero_le _)), hHeld.2.2.trans q1⟩
  clear hK KK
  (try clear hHeld)
  have hHeld := hHeld2
  clear hHeld2
  (try simp only [Act.put, List.getElem_toArray, List.getElem_cons_zero, List.getElem_cons_succ, List.setIfInBounds_toArray, List.set_cons_zero, List.set_cons_succ])
  refine wpAnyH_ready (rs := [9]) (by kernel_rfl) (by simp) ?_
  refine AllReadyH.cons rfl (fun KK hK => ?_) AllReadyH.nil
  simp only [List.getElem_toArray, List.getElem_cons_zero, List.getElem_cons_succ]
  go_simp
  refine (HB.out _ hHeld.2.2).mono ?_
  rintro e V2 ⟨rfl, q2⟩
  refine hK.out _ _ ?hS11 (fun hHeld2 => ?rest11)
  case hS11 => exact ⟨q2.cell hHeld.1 (.inr (Nat.zero_le _)), q2.cell hHeld.2.1 (.inr (Nat.zero_le _)), hHeld.2.2.trans q2⟩
  clear hK KK
  (try clear hHeld)
  have hHeld := hHeld2
  clear hHeld2
  (try simp only [Act.put, List.getElem_toArray, List.getElem_cons_zero, List.getElem_cons_succ, List.setIfInBounds_toArray, List.set_cons_zero, List.set_cons_succ])
  refine wpAnyH_take (i := 10) (v := ?v12) rfl (by kernel_rfl) (by kernel_rfl) (by kernel_rfl) (fun _ _ _ h => h) (Or.inl ⟨by rfl, ?hy12⟩) (by assumption) ?rest12
  case hy12 => (intro w hSw; (try dsimp only at hSw); simp only [List.getElem_toArray, List.getElem_cons_zero, List.getElem_cons_succ]; go_simp; (try with_reducible rfl))
  (try simp only [Act.put, List.getElem_toArray, List.getElem_cons_zero, List.getElem_cons_succ, List.setIfInBounds_toArray, List.set_cons_zero, List.set_cons_succ])
  refine wpAnyH_take (i := 11) (v := ?v13) rfl (by kernel_rfl) (by kernel_rfl) (by kernel_rfl) (fun _ _ _ h => h) (Or.inl ⟨by rfl, ?hy13⟩) (by assumption) ?rest13
  case hy13 => (intro w hSw; (try dsimp only at hSw); simp only [List.getElem_toArray, List.getElem_cons_zero, List.getElem_cons_succ]; go_simp; (try with_reducible rfl))
  (try simp only [Act.put, List.getElem_toArray, List.getElem_cons_zero, List.getElem_cons_succ, List.setIfInBounds_toArray, List.set_cons_zero, List.set_cons_succ])
  refine wpAnyH_done (by kernel_rfl) ?_ _
  have hE := hHeld.2.2
  clear hHeld
  go_wp2
  go_ret
  exact ⟨rfl, hE⟩
set_option maxRecDepth 100000 in
set_option maxHeartbeats 16000000 in
theorem looked20_any (h : PS B w b lo hi lo' hi' s sr n cap cw co st col z c) (hc : c ≤ 800) (o0 o2 o3 o4 : Int) (lp : Option Addr) (ll lc : Nat) : Calls Tryz.prog 11 #[.pointer (some ⟨b, 0, none⟩), .agg #[.int .i64 o0, .int .i64 20, .int .i64 o2, .int .i64 o3, .int .i64 o4, .slice lp ll lc]] w fun e w' => e = .returned (.bool true) ∧ ∃ col', PS B w' b lo hi lo' hi' s sr n cap cw co st col' z (c + 2) ∧ Fix col col' w w' := by
  have HP := hid_mk h
  have Hc := hid_mk hc
  obtain ⟨p0, p1⟩ := h.ks.cells
  clear h hc
  go_enter Tryz.func11, Tryz.ntmps11
  go_wp2_with fail
  obtain ⟨W, hW⟩ : ∃ W, w.alloc (.cells #[.int .i64 o0, .int .i64 20, .int .i64 o2, .int .i64 o3, .int .i64 o4, .slice lp ll lc] 29) = W := ⟨_, rfl⟩
  have oW : Out 0 0 w W := by rw [← hW]; exact (Out.refl 0 0 _).alloc _
  replace p0 := oW.cell p0 (.inr (Nat.zero_le _))
  replace p1 := oW.cell p1 (.inr (Nat.zero_le _))
  rw [hW]
  clear hW
  have P1 := HP.out.quiet oW
  refine wp_region_held_drew (S := fun w' => w'.cell? ⟨b, 0, none⟩ = some (.pointer (some ⟨s 14, 0, none⟩)) ∧ w'.cell? ⟨b, 1, none⟩ = some (.pointer (some ⟨sr 0, 0, none⟩))) (by kernel_rfl) ?hS14 (fun hHeld => ?rest14)
  case hS14 => exact ⟨p0, p1⟩
  obtain ⟨Z, hZ⟩ : ∃ Z, W.drew = Z := ⟨_, rfl⟩
  have oZ : Out 0 0 W Z := by rw [← hZ]; exact (Out.refl 0 0 _).drew
  replace P1 := P1.quiet oZ
  rw [hZ] at hHeld ⊢
  clear hZ p0 p1
  refine wpAnyH_take (i := 0) (v := ?v15) rfl (by kernel_rfl) (by kernel_rfl) (by kernel_rfl) (fun _ _ _ h => h) (Or.inl ⟨by rfl, ?hy15⟩) (by assumption) ?rest15
  case hy15 => (intro w hSw; (try dsimp only at hSw); simp only [List.getElem_toArray, List.getElem_cons_zero, List.getElem_cons_succ]; go_simp; (try with_reducible rfl))
  (try simp only [Act.put, List.getElem_toArray, List.getElem_cons_zero, List.getElem_cons_succ, List.setIfInBounds_toArray, List.set_cons_zero, List.set_cons_succ])
  refine wpAnyH_take (i := 1) (v := ?v16) rfl (by kernel_rfl) (by kernel_rfl) (by kernel_rfl) (fun _ _ _ h => h) (Or.inl ⟨by rfl, ?hy16⟩) (by assumption) ?rest16
  case hy16 => (intro w hSw; (try dsimp only at hSw); simp only [List.getElem_toArray, List.getElem_cons_zero, List.getElem_cons_succ]; go_simp; (try with_reducible rfl))
  (try simp only [Act.put, List.getElem_toArray, List.getElem_cons_zero, List.getElem_cons_succ, List.setIfInBounds_toArray, List.set_cons_zero, List.set_cons_succ])
  refine wpAnyH_take (i := 2) (v := ?v17) rfl (by kernel_rfl) (by kernel_rfl) (by kernel_rfl) (fun _ _ _ h => h) (Or.inl ⟨by rfl, ?hy17⟩) (by assumption) ?rest17
  case hy17 => (intro w hSw; (try dsimp only at hSw); simp only [List.getElem_toArray, List.getElem_cons_zero, List.getElem_cons_succ]; go_simp; (try with_reducible rfl))
  (try simp only [Act.put, List.getElem_toArray, List.getElem_cons_zero, List.getElem_cons_succ, List.setIfInBounds_toArray, List.set_cons_zero, List.set_cons_succ])
  refine wpAnyH_take (i := 3) (v := ?v18) rfl (by kernel_rfl) (by kernel_rfl) (by kernel_rfl) (fun _ _ _ h => h) (Or.inl ⟨by rfl, ?hy18⟩) (by assumption) ?rest18
  case hy18 => (intro w hSw; (try dsimp only at hSw); simp only [List.getElem_toArray, List.getElem_cons_zero, List.getElem_cons_succ]; go_simp; (try with_reducible rfl))
  (try simp only [Act.put, List.getElem_toArray, List.getElem_cons_zero, List.getElem_cons_succ, List.setIfInBounds_toArray, List.set_cons_zero, List.set_cons_succ])
  refine wpAnyH_take (i := 4) (v := ?v19) rfl (by kernel_rfl) (by kernel_rfl) (by kernel_rfl) (fun _ _ _ h => h) (Or.inl ⟨by rfl, ?hy19⟩) (by assumption) ?rest19
  case hy19 => (intro w hSw; (try dsimp only at hSw); simp only [List.getElem_toArray, List.getElem_cons_zero, List.getElem_cons_succ]; go_simp; (try with_reducible rfl))
  (try simp only [Act.put, List.getElem_toArray, List.getElem_cons_zero, List.getElem_cons_succ, List.setIfInBounds_toArray, List.set_cons_zero, List.set_cons_succ])
  refine wpAnyH_take (i := 5) (v := ?v20) rfl (by kernel_rfl) (by kernel_rfl) (by kernel_rfl) (fun _ _ _ h => h) (Or.inl ⟨by rfl, ?hy20⟩) (by assumption) ?rest20
  case hy20 => (intro w hSw; (try dsimp only at hSw); simp only [List.getElem_toArray, List.getElem_cons_zero, List.getElem_cons_succ]; go_simp; (try with_reducible rfl))
  (try simp only [Act.put, List.getElem_toArray, List.getElem_cons_zero, List.getElem_cons_succ, List.setIfInBounds_toArray, List.set_cons_zero, List.set_cons_succ])
  refine wpAnyH_take (i := 6) (v := ?v21) rfl (by kernel_rfl) (by kernel_rfl) (by kernel_rfl) (fun _ _ _ h => h) (Or.inl ⟨by rfl, ?hy21⟩) (by assumption) ?rest21
  case hy21 => (intro w hSw; (try dsimp only at hSw); simp only [List.getElem_toArray, List.getElem_cons_zero, List.getElem_cons_succ]; go_simp; (try with_reducible rfl))
  (try simp only [Act.put, List.getElem_toArray, List.getElem_cons_zero, List.getElem_cons_succ, List.setIfInBounds_toArray, List.set_cons_zero, List.set_cons_succ])
  refine wpAnyH_take (i := 8) (v := ?v22) rfl (by kernel_rfl) (by kernel_rfl) (by kernel_rfl) (fun _ _ _ h => h) (Or.inl ⟨by rfl, ?hy22⟩) (by assumption) ?rest22
  case hy22 => (intro w hSw; (try dsimp only at hSw); simp only [List.getElem_toArray, List.getElem_cons_zero, List.getElem_cons_succ]; go_simp; (try with_reducible rfl))
  (try simp only [Act.put, List.getElem_toArray, List.getElem_cons_zero, List.getElem_cons_succ, List.setIfInBounds_toArray, List.set_cons_zero, List.set_cons_succ])
  refine wpAnyH_take (i := 9) (v := ?v23) rfl (by kernel_rfl) (by kernel_rfl) (by kernel_rfl) (fun _ _ _ h => h) (Or.inl ⟨by rfl, ?hy23⟩) (by assumption) ?rest23
  case hy23 => (intro w hSw; (try dsimp only at hSw); simp only [List.getElem_toArray, List.getElem_cons_zero, List.getElem_cons_succ]; go_simp; (try with_reducible rfl))
  (try simp only [Act.put, List.getElem_toArray, List.getElem_cons_zero, List.getElem_cons_succ, List.setIfInBounds_toArray, List.set_cons_zero, List.set_cons_succ])
  refine wpAnyH_take (i := 10) (v := ?v24) rfl (by kernel_rfl) (by kernel_rfl) (by kernel_rfl) (fun _ _ _ h => h) (Or.inl ⟨by rfl, ?hy24⟩) (by assumption) ?rest24
  case hy24 => (intro w hSw; (try dsimp only at hSw); simp only [List.getElem_toArray, List.getElem_cons_zero, List.getElem_cons_succ]; go_simp; (try with_reducible rfl))
  (try simp only [Act.put, List.getElem_toArray, List.getElem_cons_zero, List.getElem_cons_succ, List.setIfInBounds_toArray, List.set_cons_zero, List.set_cons_succ])
  refine wpAnyH_take (i := 11) (v := ?v25) rfl (by kernel_rfl) (by kernel_rfl) (by kernel_rfl) (fun _ _ _ h => h) (Or.inl ⟨by rfl, ?hy25⟩) (by assumption) ?rest25
  case hy25 => (intro w hSw; (try dsimp only at hSw); simp only [List.getElem_toArray, List.getElem_cons_zero, List.getElem_cons_succ]; go_simp; (try with_reducible rfl))
  (try simp only [Act.put, List.getElem_toArray, List.getElem_cons_zero, List.getElem_cons_succ, List.setIfInBounds_toArray, List.set_cons_zero, List.set_cons_succ])
  refine wpAnyH_ready (rs := [7]) (by kernel_rfl) (by simp) ?_
  refine AllReadyH.cons rfl (fun KK hK => ?_) AllReadyH.nil
  simp only [List.getElem_toArray, List.getElem_cons_zero, List.getElem_cons_succ]
  go_simp
  refine (dump_any P1.sp.1 (told_of st)).mono ?_
  rintro e W1 ⟨gw, cw1, gp, cp, vb, rfl, d1, q1⟩
  refine hK.out _ _ ?hS26 (fun hHeld2 => ?rest26)
  case hS26 => exact ⟨q1.cell hHeld.1 (.inr (Nat.zero_le _)), q1.cell hHeld.2 (.inr (Nat.zero_le _))⟩
  clear hK KK
  (try clear hHeld)
  have hHeld := hHeld2
  clear hHeld2
  (try simp only [Act.put, List.getElem_toArray, List.getElem_cons_zero, List.getElem_cons_succ, List.setIfInBounds_toArray, List.set_cons_zero, List.set_cons_succ])
  refine wpAnyH_ready (rs := [12]) (by kernel_rfl) (by simp) ?_
  refine AllReadyH.cons rfl (fun KK hK => ?_) AllReadyH.nil
  simp only [List.getElem_toArray, List.getElem_cons_zero, List.getElem_cons_succ]
  go_simp
  refine (refDump_any (P1.rf.quiet q1) P1.sp.2 rfl).mono ?_
  rintro e W2 ⟨gw2, cw2, gp2, cp2, vb2, rfl, d2, q2⟩
  refine hK.out _ _ ?hS27 (fun hHeld2 => ?rest27)
  case hS27 => exact ⟨q2.cell hHeld.1 (.inr (Nat.zero_le _)), q2.cell hHeld.2 (.inr (Nat.zero_le _))⟩
  clear hK KK
  (try clear hHeld)
  have hHeld := hHeld2
  clear hHeld2
  (try simp only [Act.put, List.getElem_toArray, List.getElem_cons_zero, List.getElem_cons_succ, List.setIfInBounds_toArray, List.set_cons_zero, List.set_cons_succ])
  refine wpAnyH_ready (rs := [13]) (by kernel_rfl) (by simp) ?_
  refine AllReadyH.cons rfl (fun KK hK => ?_) AllReadyH.nil
  simp only [List.getElem_toArray, List.getElem_cons_zero, List.getElem_cons_succ]
  go_simp
  refine (kdump_ks P1.ks (by have := Hc.out; omega) q1 q2 d1 d2 P1.le.2.2 true).mono ?_
  rintro e W3 ⟨rfl, colA, kA, fA⟩
  have P2 := P1.fix fA kA
  clear d1 d2 q1 q2
  refine hK.out _ _ ?hS28 (fun hHeld2 => ?rest28)
  case hS28 => exact kA.cells
  clear kA
  clear hK KK
  (try clear hHeld)
  have hHeld := hHeld2
  clear hHeld2
  (try simp only [Act.put, List.getElem_toArray, List.getElem_cons_zero, List.getElem_cons_succ, List.setIfInBounds_toArray, List.set_cons_zero, List.set_cons_succ])
  refine wpAnyH_take (i := 14) (v := ?v29) rfl (by kernel_rfl) (by kernel_rfl) (by kernel_rfl) (fun _ _ _ h => h) (Or.inl ⟨by rfl, ?hy29⟩) (by assumption) ?rest29
  case hy29 => (intro w hSw; (try dsimp only at hSw); simp only [List.getElem_toArray, List.getElem_cons_zero, List.getElem_cons_succ]; go_simp; (try with_reducible rfl))
  (try simp only [Act.put, List.getElem_toArray, List.getElem_cons_zero, List.getElem_cons_succ, List.setIfInBounds_toArray, List.set_cons_zero, List.set_cons_succ])
  refine wpAnyH_take (i := 15) (v := ?v30) rfl (by kernel_rfl) (by kernel_rfl) (by kernel_rfl) (fun _ _ _ h => h) (Or.inl ⟨by rfl, ?hy30⟩) (by assumption) ?rest30
  case hy30 => (intro w hSw; (try dsimp only at hSw); simp only [List.getElem_toArray, List.getElem_cons_zero, List.getElem_cons_succ]; go_simp; (try with_reducible rfl))
  (try simp only [Act.put, List.getElem_toArray, List.getElem_cons_zero, List.getElem_cons_succ, List.setIfInBounds_toArray, List.set_cons_zero, List.set_cons_succ])
  refine wpAnyH_take (i := 16) (v := ?v31) rfl (by kernel_rfl) (by kernel_rfl) (by kernel_rfl) (fun _ _ _ h => h) (Or.inl ⟨by rfl, ?hy31⟩) (by assumption) ?rest31
  case hy31 => (intro w hSw; (try dsimp only at hSw); simp only [List.getElem_toArray, List.getElem_cons_zero, List.getElem_cons_succ]; go_simp; (try with_reducible rfl))
  (try simp only [Act.put, List.getElem_toArray, List.getElem_cons_zero, List.getElem_cons_succ, List.setIfInBounds_toArray, List.set_cons_zero, List.set_cons_succ])
  refine wpAnyH_take (i := 17) (v := ?v32) rfl (by kernel_rfl) (by kernel_rfl) (by kernel_rfl) (fun _ _ _ h => h) (Or.inl ⟨by rfl, ?hy32⟩) (by assumption) ?rest32
  case hy32 => (intro w hSw; (try dsimp only at hSw); simp only [List.getElem_toArray, List.getElem_cons_zero, List.getElem_cons_succ]; go_simp; (try with_reducible rfl))
  (try simp only [Act.put, List.getElem_toArray, List.getElem_cons_zero, List.getElem_cons_succ, List.setIfInBounds_toArray, List.set_cons_zero, List.set_cons_succ])
  refine wpAnyH_take (i := 18) (v := ?v33) rfl (by kernel_rfl) (by kernel_rfl) (by kernel_rfl) (fun _ _ _ h => h) (Or.inl ⟨by rfl, ?hy33⟩) (by assumption) ?rest33
  case hy33 => (intro w hSw; (try dsimp only at hSw); simp only [List.getElem_toArray, List.getElem_cons_zero, List.getElem_cons_succ]; go_simp; (try with_reducible rfl))
  (try simp only [Act.put, List.getElem_toArray, List.getElem_cons_zero, List.getElem_cons_succ, List.setIfInBounds_toArray, List.set_cons_zero, List.set_cons_succ])
  refine wpAnyH_take (i := 19) (v := ?v34) rfl (by kernel_rfl) (by kernel_rfl) (by kernel_rfl) (fun _ _ _ h => h) (Or.inl ⟨by rfl, ?hy34⟩) (by assumption) ?rest34
  case hy34 => (intro w hSw; (try dsimp only at hSw); simp only [List.getElem_toArray, List.getElem_cons_zero, List.getElem_cons_succ]; go_simp; (try with_reducible rfl))
  (try simp only [Act.put, List.getElem_toArray, List.getElem_cons_zero, List.getElem_cons_succ, List.setIfInBounds_toArray, List.set_cons_zero, List.set_cons_succ])
  refine wpAnyH_take (i := 20) (v := ?v35) rfl (by kernel_rfl) (by kernel_rfl) (by kernel_rfl) (fun _ _ _ h => h) (Or.inl ⟨by rfl, ?hy35⟩) (by assumption) ?rest35
  case hy35 => (intro w hSw; (try dsimp only at hSw); simp only [List.getElem_toArray, List.getElem_cons_zero, List.getElem_cons_succ]; go_simp; (try with_reducible rfl))
  (try simp only [Act.put, List.getElem_toArray, List.getElem_cons_zero, List.getElem_cons_succ, List.setIfInBounds_toArray, List.set_cons_zero, List.set_cons_succ])
  refine wpAnyH_take (i := 21) (v := ?v36) rfl (by kernel_rfl) (by kernel_rfl) (by kernel_rfl) (fun _ _ _ h => h) (Or.inl ⟨by rfl, ?hy36⟩) (by assumption) ?rest36
  case hy36 => (intro w hSw; (try dsimp only at hSw); simp only [List.getElem_toArray, List.getElem_cons_zero, List.getElem_cons_succ]; go_simp; (try with_reducible rfl))
  (try simp only [Act.put, List.getElem_toArray, List.getElem_cons_zero, List.getElem_cons_succ, List.setIfInBounds_toArray, List.set_cons_zero, List.set_cons_succ])
  refine wpAnyH_take (i := 23) (v := ?v37) rfl (by kernel_rfl) (by kernel_rfl) (by kernel_rfl) (fun _ _ _ h => h) (Or.inl ⟨by rfl, ?hy37⟩) (by assumption) ?rest37
  case hy37 => (intro w hSw; (try dsimp only at hSw); simp only [List.getElem_toArray, List.getElem_cons_zero, List.getElem_cons_succ]; go_simp; (try with_reducible rfl))
  (try simp only [Act.put, List.getElem_toArray, List.getElem_cons_zero, List.getElem_cons_succ, List.setIfInBounds_toArray, List.set_cons_zero, List.set_cons_succ])
  refine wpAnyH_take (i := 24) (v := ?v38) rfl (by kernel_rfl) (by kernel_rfl) (by kernel_rfl) (fun _ _ _ h => h) (Or.inl ⟨by rfl, ?hy38⟩) (by assumption) ?rest38
  case hy38 => (intro w hSw; (try dsimp only at hSw); simp only [List.getElem_toArray, List.getElem_cons_zero, List.getElem_cons_succ]; go_simp; (try with_reducible rfl))
  (try simp only [Act.put, List.getElem_toArray, List.getElem_cons_zero, List.getElem_cons_succ, List.setIfInBounds_toArray, List.set_cons_zero, List.set_cons_succ])
  refine wpAnyH_take (i := 25) (v := ?v39) rfl (by kernel_rfl) (by kernel_rfl) (by kernel_rfl) (fun _ _ _ h => h) (Or.inl ⟨by rfl, ?hy39⟩) (by assumption) ?rest39
  case hy39 => (intro w hSw; (try dsimp only at hSw); simp only [List.getElem_toArray, List.getElem_cons_zero, List.getElem_cons_succ]; go_simp; (try with_reducible rfl))
  (try simp only [Act.put, List.getElem_toArray, List.getElem_cons_zero, List.getElem_cons_succ, List.setIfInBounds_toArray, List.set_cons_zero, List.set_cons_succ])
  refine wpAnyH_take (i := 26) (v := ?v40) rfl (by kernel_rfl) (by kernel_rfl) (by kernel_rfl) (fun _ _ _ h => h) (Or.inl ⟨by rfl, ?hy40⟩) (by assumption) ?rest40
  case hy40 => (intro w hSw; (try dsimp only at hSw); simp only [List.getElem_toArray, List.getElem_cons_zero, List.getElem_cons_succ]; go_simp; (try with_reducible rfl))
  (try simp only [Act.put, List.getElem_toArray, List.getElem_cons_zero, List.getElem_cons_succ, List.setIfInBounds_toArray, List.set_cons_zero, List.set_cons_succ])
  refine wpAnyH_ready (rs := [22]) (by kernel_rfl) (by simp) ?_
  refine AllReadyH.cons rfl (fun KK hK => ?_) AllReadyH.nil
  simp only [List.getElem_toArray, List.getElem_cons_zero, List.getElem_cons_succ]
  go_simp
  refine (dump_any P2.sp.1 (told_of st)).mono ?_
  rintro e W4 ⟨gw, cw1, gp, cp, vb, rfl, d1, q1⟩
  refine hK.out _ _ ?hS41 (fun hHeld2 => ?rest41)
  case hS41 => exact ⟨q1.cell hHeld.1 (.inr (Nat.zero_le _)), q1.cell hHeld.2 (.inr (Nat.zero_le _))⟩
  clear hK KK
  (try clear hHeld)
  have hHeld := hHeld2
  clear hHeld2
  (try simp only [Act.put, List.getElem_toArray, List.getElem_cons_zero, List.getElem_cons_succ, List.setIfInBounds_toArray, List.set_cons_zero, List.set_cons_succ])
  refine wpAnyH_ready (rs := [27]) (by kernel_rfl) (by simp) ?_
  refine AllReadyH.cons rfl (fun KK hK => ?_) AllReadyH.nil
  simp only [List.getElem_toArray, List.getElem_cons_zero, List.getElem_cons_succ]
  go_simp
  refine (refDump_any (P2.rf.quiet q1) P2.sp.2 rfl).mono ?_
  rintro e W5 ⟨gw2, cw2, gp2, cp2, vb2, rfl, d2, q2⟩
  refine hK.out _ _ ?hS42 (fun hHeld2 => ?rest42)
  case hS42 => exact ⟨q2.cell hHeld.1 (.inr (Nat.zero_le _)), q2.cell hHeld.2 (.inr (Nat.zero_le _))⟩
  clear hK KK
  (try clear hHeld)
  have hHeld := hHeld2
  clear hHeld2
  (try simp only [Act.put, List.getElem_toArray, List.getElem_cons_zero, List.getElem_cons_succ, List.setIfInBounds_toArray, List.set_cons_zero, List.set_cons_succ])
  refine wpAnyH_ready (rs := [28]) (by kernel_rfl) (by simp) ?_
  refine AllReadyH.cons rfl (fun KK hK => ?_) AllReadyH.nil
  simp only [List.getElem_toArray, List.getElem_cons_zero, List.getElem_cons_succ]
  go_simp
  refine (kdump_ks P2.ks (by have := Hc.out; omega) q1 q2 d1 d2 P2.le.2.2 false).mono ?_
  rintro e W6 ⟨rfl, colB, kA, fB⟩
  have P3 := P2.fix fB kA
  clear d1 d2 q1 q2
  refine hK.out _ _ ?hS43 (fun hHeld2 => ?rest43)
  case hS43 => exact kA.cells
  clear kA
  clear hK KK
  (try clear hHeld)
  have hHeld := hHeld2
  clear hHeld2
  (try simp only [Act.put, List.getElem_toArray, List.getElem_cons_zero, List.getElem_cons_succ, List.setIfInBounds_toArray, List.set_cons_zero, List.set_cons_succ])
  refine wpAnyH_take (i := 29) (v := ?v44) rfl (by kernel_rfl) (by kernel_rfl) (by kernel_rfl) (fun _ _ _ h => h) (Or.inl ⟨by rfl, ?hy44⟩) (by assumption) ?rest44
  case hy44 => (intro w hSw; (try dsimp only at hSw); simp only [List.getElem_toArray, List.getElem_cons_zero, List.getElem_cons_succ]; go_simp; (try with_reducible rfl))
  (try simp only [Act.put, List.getElem_toArray, List.getElem_cons_zero, List.getElem_cons_succ, List.setIfInBounds_toArray, List.set_cons_zero, List.set_cons_succ])
  refine wpAnyH_take (i := 30) (v := ?v45) rfl (by kernel_rfl) (by kernel_rfl) (by kernel_rfl) (fun _ _ _ h => h) (Or.inl ⟨by rfl, ?hy45⟩) (by assumption) ?rest45
  case hy45 => (intro w hSw; (try dsimp only at hSw); simp only [List.getElem_toArray, List.getElem_cons_zero, List.getElem_cons_succ]; go_simp; (try with_reducible rfl))
  (try simp only [Act.put, List.getElem_toArray, List.getElem_cons_zero, List.getElem_cons_succ, List.setIfInBounds_toArray, List.set_cons_zero, List.set_cons_succ])
  refine wpAnyH_done (by kernel_rfl) ?_ _
  have FIN : Hid (∃ col', PS B W6 b lo hi lo' hi' s sr n cap cw co st col' z (c + 2) ∧ Fix col col' w W6) := ⟨colB, P3, ((((Fix.refl col w).out oW).out oZ).trans fA).trans fB⟩
  clear hHeld P3 P2 P1 fA fB
  go_wp2
  go_ret
  exact ⟨rfl, FIN.out⟩
set_option maxRecDepth 100000 in
set_option maxHeartbeats 16000000 in
theorem whole_any (h : PS B w b lo hi lo' hi' s sr n cap cw co st col true c) (hc : c ≤ 700) : Calls Tryz.prog 12 #[.pointer (some ⟨b, 0, none⟩)] w fun e w' => e = .returned (.bool true) ∧ ∃ col', PS B w' b lo hi lo' hi' s sr n cap cw co st col' false (c + 36) ∧ Fix col col' w w' := by
  have H1 := hid_mk (looked18_any h 0 0 0 0 none 0 0)
  have HP := hid_mk h
  have Hc := hid_mk hc
  clear h hc
  go_enter Tryz.func12, Tryz.ntmps12
  go_wp2_with fail
  refine H1.out.mono ?_
  rintro e w1 ⟨rfl, o1⟩
  have H2 := hid_mk (looked20_any (HP.out.quiet o1) (by have := Hc.out; omega) 0 0 0 0 none 0 0)
  have F1 : Hid (Fix col col w w1) := (Fix.refl _ _).out o1
  clear o1 H1
  go_wp2_with fail
  refine H2.out.mono ?_
  rintro e w2 ⟨rfl, col2, P2, f2⟩
  have H3 := hid_mk (apart_ks P2.ks (by have := Hc.out; omega))
  have HP2 := hid_mk P2
  have F2 := hid_mk (F1.out.trans f2)
  clear P2 f2 H2 F1
  go_wp2_with fail
  refine H3.out.mono ?_
  rintro e w3 ⟨rfl, col3, K3, f3⟩
  have P3 := HP2.out.fix f3 K3
  have H4 := hid_mk (looked20_any P3 (by have := Hc.out; omega) 0 0 0 0 none 0 0)
  have F3 := hid_mk (F2.out.trans f3)
  clear P3 K3 f3 H3 F2
  go_wp2_with fail
  refine H4.out.mono ?_
  rintro e w4 ⟨rfl, col4, P4, f4⟩
  have FIN : Hid (∃ col', PS B w4 b lo hi lo' hi' s sr n cap cw co st col' false (c + 36) ∧ Fix col col' w w4) := ⟨col4, P4, F3.out.trans f4⟩
  clear P4 f4 H4 F3
  go_wp2
  go_ret
  exact ⟨rfl, FIN.out⟩
end
end Go.Proofs.YtjbbkeoolodeaaaGreatDoor
