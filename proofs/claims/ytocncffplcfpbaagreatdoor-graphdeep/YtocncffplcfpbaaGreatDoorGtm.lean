/- graph: collect where everything lives, and nothing is held weakly -/
import Derived.Test.YtocncffplcfpbaaGreatDoorGtl
namespace Go.Proofs.YtocncffplcfpbaaGreatDoor
open Go.RowKit Go.MapKept
set_option linter.unusedVariables false
set_option linter.unusedSimpArgs false

set_option maxRecDepth 100000 in
set_option maxHeartbeats 4000000 in
theorem forget_plain {W : World} {n rp : Nat} {K : Int} {r s gv : Value} (hn : Bl W n (ndc K r s) 94) (h8 : K ≠ 8) (h9 : K ≠ 9) :
    Calls Tryz.prog 23 #[.pointer (some ⟨n, 0, none⟩), gv, .pointer (some ⟨rp, 0, none⟩)] W fun e w' => e = .returned (.tuple #[]) ∧ Out 0 0 W w' := by
  have HW := hid_mk hn
  have g8 : (K == 8) = false := by simpa using h8
  have g9 : (K == 9) = false := by simpa using h9
  clear hn h8 h9
  go_enter Tryz.func23, Tryz.ntmps23
  go_wp2_with fail
  refine (imm_broken _).mono ?_
  rintro e w1 ⟨rfl, b1⟩
  have oA : Out 0 0 W (w1.alloc (.cells #[.int .i64 3, .int .i64 4] 28)) := (Out.of_below b1 0 0).alloc _
  have bn := HW.out.kept oA (.inr (Nat.zero_le _))
  have c0 := bn.cell (i := 0) rfl
  have c3 := bn.cell (i := 3) rfl
  have HA := hid_mk oA
  have hrn := range_nil
  clear b1 bn
  go_wp2_with fail
  obtain ⟨Y, hY⟩ : ∃ Y, w1.alloc (.cells #[.int .i64 3, .int .i64 4] 28) = Y := ⟨_, rfl⟩
  rw [hY] at c0 c3 HA
  obtain ⟨V, hV⟩ : ∃ V, Y.alloc (.mapIter none 0 #[] 0) = V := ⟨_, rfl⟩
  have hnx := next_nil (w := V) (r := Y.heap.size) (by rw [← hV]; exact (MapKept.heap_alloc Y (.mapIter none 0 #[] 0)).1)
  have hys : Y.heap.size = w1.heap.size + 1 := by rw [← hY, size_alloc]
  rw [hys] at hnx
  have HE : Hid (Out 0 0 W V) := hid_mk (hV ▸ HA.out.alloc _)
  rw [hY, hV]
  clear hV hY c0 c3 HA hrn hys HW
  go_loopw [7] (fun _ wr => wr = V) (fun _ _ => 0)
  case atStart => rfl
  case round =>
    subst hrel
    go_wp2_with fail
    exact bodyPost_end (results_none Tryz.results23 _ _ _) rfl ⟨rfl, HE.out⟩
/-- how far collect has come: ks were gone over -/
def CSg (W w : World) (f : Int → Option Value) (M : List Int) (z m ri rp q lm : Nat) (ks : List Int) (cnt : Nat) : Prop :=
  Out 0 0 W w ∧ (∃ L, RG w m ri f L cnt ∧ ∀ a, f a ≠ none → (L a = true ↔ a ∉ ks)) ∧ KsOf f ks ∧ Bl w rp #[.int .i64 (ks.length : Int), .int .i64 0, .int .i64 0, .int .i64 0, .int .i64 0] 34 ∧ w.cell? ⟨q, 0, none⟩ = some (.map (some lm)) ∧ MpAt w lm (mF M) ∧ Bl w z #[.int .i64 0, .int .i64 0, .int .i64 0, .int .i64 0, .int .i64 0] 34 ∧
    W.heap.size ≤ ri ∧ W.heap.size ≤ rp ∧ ri ≠ rp ∧ q ≠ ri ∧ q ≠ rp ∧ lm ≠ ri ∧ lm ≠ rp ∧ z ≠ ri ∧ z ≠ rp ∧ W.heap.size ≤ z
theorem nodup_sub : ∀ (A B : List Int), A.Nodup → (∀ x ∈ A, x ∈ B) → A.length ≤ B.length
  | [], B, _, _ => by simp
  | a :: A, B, hA, h => by
    have ha : a ∈ B := h a (by simp)
    rw [List.nodup_cons] at hA
    have := nodup_sub A (B.erase a) hA.2 (fun x hx => (List.mem_erase_of_ne (fun e => hA.1 (by rw [← e]; exact hx))).2 (h x (by simp [hx])))
    rw [List.length_erase_of_mem ha] at this
    have : 0 < B.length := List.length_pos_of_mem ha
    simp
    omega
theorem all_len {f : Int → Option Value} {n : Nat} {ks : List Int} (hks : KsOf f ks) (hall : ∀ a, f a ≠ none → a ∈ ks) (hd : ∀ y, f y ≠ none ↔ 1 ≤ y ∧ y ≤ (n : Int)) : ks.length = n := by
  have h1 := nodup_le n ks hks.1 (fun y hy => (hd y).1 (hks.2 y hy))
  have h2 := nodup_sub ((List.range n).map fun i => ((i + 1 : Nat) : Int)) ks (by
    unfold List.Nodup
    rw [List.pairwise_map]
    exact (List.nodup_range (n := n)).imp (fun h e => h (by omega))) (fun x hx => by
      rw [List.mem_map] at hx
      obtain ⟨i, hi, rfl⟩ := hx
      rw [List.mem_range] at hi
      exact hall _ ((hd _).2 ⟨by omega, by omega⟩))
  simp at h2
  omega
set_option maxRecDepth 100000 in
set_option maxHeartbeats 8000000 in
theorem collect_live {W : World} {h m n : Nat} {la : Int} {f : Int → Option Value} {K : Int → Int} {l : Int → List VP} {rl : List VP} {ra : Option Addr} {nr rc : Nat} (hP : HP W h m la f) (hN : ∀ y v, f y = some v → ∃ b k r s, v = .pointer (some ⟨b, 0, none⟩) ∧ Bl W b (ndc k r s) 94 ∧ k ≠ 8 ∧ k ≠ 9) (hd : ∀ y, f y ≠ none ↔ 1 ≤ y ∧ y ≤ (n : Int)) (hn : n ≤ 400000) (hn1 : 1 ≤ n)
    (hR : ∀ w, Out 0 0 W w → Calls Tryz.prog 14 #[.pointer (some ⟨h, 0, none⟩), .slice ra nr rc] w (RcQ w K l f rl)) (hlv : ∀ y, f y ≠ none → Lv (fun y => stK (K y) (l y)) (fun y => gdK (K y) (l y)) rl y) :
    Calls Tryz.prog 10 #[.pointer (some ⟨h, 0, none⟩), .slice ra nr rc] W fun e w' => e = .returned (.agg #[.int .i64 (n : Int), .int .i64 0, .int .i64 0, .int .i64 0, .int .i64 0]) ∧ Out 0 0 W w' := by
  have o0 : Out 0 0 W (W.alloc (.cells #[.int .i64 0, .int .i64 0, .int .i64 0, .int .i64 0, .int .i64 0] 34)) := (Out.refl 0 0 W).alloc _
  have HR := hid_mk (hR _ o0)
  have HA := hid_mk (And.intro hP (And.intro hN (And.intro hd (And.intro hn (And.intro hn1 hlv)))))
  have B0 := hid_mk (And.intro o0 (Bl.new W #[.int .i64 0, .int .i64 0, .int .i64 0, .int .i64 0, .int .i64 0] 34))
  clear hP hN hd hn hn1 hR hlv o0
  go_enter Tryz.func10, Tryz.ntmps10
  go_wp2_with fail
  obtain ⟨W0, hW0⟩ : ∃ W0, W.alloc (.cells #[.int .i64 0, .int .i64 0, .int .i64 0, .int .i64 0, .int .i64 0] 34) = W0 := ⟨_, rfl⟩
  obtain ⟨z, hz⟩ : ∃ z, W.heap.size = z := ⟨_, rfl⟩
  rw [hW0] at HR B0 ⊢
  rw [hz] at B0 ⊢
  replace B0 := hid_mk (And.intro B0.out hz)
  clear hW0 hz
  refine HR.out.mono ?_
  rintro e w1 ⟨mv, M, rfl, o1, hmv, hM, hMn, hMd⟩
  obtain ⟨lm, rfl, l1, m1⟩ : ∃ lm, mv = .map (some lm) ∧ W0.heap.size ≤ lm ∧ MpAt w1 lm (mF M) := by
    rcases hmv with ⟨_, rfl⟩ | ⟨lm, q1, q2, q3⟩
    · obtain ⟨hP, hN, hd, hn, hn1, hlv⟩ := HA.out
      exact absurd ((hM 1).2 (hlv 1 ((hd 1).2 ⟨by omega, by omega⟩))) (by simp)
    · exact ⟨lm, q1, q2, q3⟩
  have H1 := hid_mk (And.intro o1 (And.intro l1 m1))
  have HM : Hid (∀ y, f y ≠ none → y ∈ M) := hid_mk (fun y hy => (hM y).2 (HA.out.2.2.2.2.2 y hy))
  have hms := (HA.out.1.quiet (B0.out.1.1.trans o1)).1.cell (i := 0) rfl
  have hhl := HA.out.1.1.lt
  have hhl2 : h < w1.heap.size := Nat.lt_of_lt_of_le hhl (B0.out.1.1.trans o1).size
  clear o1 l1 m1 HR hhl hmv hM hMn hMd
  go_upto_region 4 with fail
  obtain ⟨V, hV⟩ : ∃ V, (w1.alloc (.cells #[.map (some lm)] 51)).alloc (.cells #[.int .i64 0, .int .i64 0, .int .i64 0, .int .i64 0, .int .i64 0] 34) = V := ⟨_, rfl⟩
  obtain ⟨q, hq⟩ : ∃ q, w1.heap.size = q := ⟨_, rfl⟩
  have oV1 : Out 0 0 w1 V := hV ▸ ((Out.refl 0 0 w1).alloc _).alloc _
  have oV : Out 0 0 W V := (B0.out.1.1.trans H1.out.1).trans oV1
  have bq : Bl V q #[.map (some lm)] 51 := by rw [← hV, ← hq]; exact (Bl.new _ _ _).alloc _
  have brp : Bl V (q + 1) #[.int .i64 0, .int .i64 0, .int .i64 0, .int .i64 0, .int .i64 0] 34 := by
    have := Bl.new (w1.alloc (.cells #[.map (some lm)] 51)) #[.int .i64 0, .int .i64 0, .int .i64 0, .int .i64 0, .int .i64 0] 34
    rwa [size_alloc, hV, hq] at this
  have hVs : V.heap.size = q + 2 := by rw [← hV, size_alloc, size_alloc, hq]
  rw [hV, hq]
  obtain ⟨w3, cnt, hrg, hR, o3⟩ := RG.start (P := Tryz.prog) (HA.out.1.quiet oV).2 Tryz.underlying57
  rw [hVs] at hrg hR
  have HC : Hid (CSg W w3 f M z m (q + 2) (q + 1) q lm [] cnt) := by
    have hlm := H1.out.2.2.lt
    obtain ⟨⟨s1, s2⟩, s3⟩ := B0.out
    have s4 := s2.lt
    have s5 := H1.out.1.size
    have s6 := H1.out.2.1
    have oW3 := oV.trans o3
    exact hid_mk ⟨oW3, ⟨_, hR, by simp⟩, ⟨List.nodup_nil, by simp⟩, brp.kept o3 (.inr (Nat.zero_le _)), (bq.kept o3 (.inr (Nat.zero_le _))).cell (i := 0) rfl, (H1.out.2.2.kept oV1 (.inr (Nat.zero_le _))).kept o3 (.inr (Nat.zero_le _)), ((s2.kept H1.out.1 (.inr (Nat.zero_le _))).kept oV1 (.inr (Nat.zero_le _))).kept o3 (.inr (Nat.zero_le _)), by omega, by omega, by omega, by omega, by omega, by omega, by omega, by omega, by omega, by omega⟩
  replace hms := oV1.cell hms (.inr (Nat.zero_le _))
  clear hV hq oV1 oV bq brp hVs hR o3 H1 B0 hhl2
  go_wp2_with fail
  clear hms hrg
  obtain ⟨rp, hrp⟩ : ∃ rp, q + 1 = rp := ⟨_, rfl⟩
  obtain ⟨ri, hri⟩ : ∃ ri, q + 2 = ri := ⟨_, rfl⟩
  rw [hrp, hri] at HC ⊢
  clear hrp hri
  go_loopw [8, 9, 10, 11] (fun _ _ _ _ wr => ∃ ks cnt, CSg W wr f M z m ri rp q lm ks cnt) (fun _ _ _ _ wr => wr.rangeLeft m ri)
  case atStart => exact ⟨_, _, HC.out⟩
  case round =>
    obtain ⟨ks, cnt, hC⟩ := hrel
    obtain ⟨c1, ⟨L, hL, hL2⟩, hks, b1, b2, b3, b4, c6⟩ := id hC
    rcases hL.next (P := Tryz.prog) 0 with ⟨hD, hnx⟩ | ⟨a, v, w', cnt', ha, hLa, hnx, hR, hlt, xr, hen⟩
    · have hln : ks.length = n := all_len hks (fun a ha => by
        obtain ⟨v, hv⟩ := Option.ne_none_iff_exists'.1 ha
        by_cases q : a ∈ ks
        · exact q
        · have := (hL2 a ha).2 q
          rw [hD a v hv] at this
          cases this) HA.out.2.2.1
      rw [hln] at b1
      have e0 := b1.cell (i := 0) rfl
      have e1 := b1.cell (i := 1) rfl
      have e2 := b1.cell (i := 2) rfl
      have e3 := b1.cell (i := 3) rfl
      have e4 := b1.cell (i := 4) rfl
      have f0 := b4.cell (i := 0) rfl
      have f1 := b4.cell (i := 1) rfl
      have f2 := b4.cell (i := 2) rfl
      have f3 := b4.cell (i := 3) rfl
      have f4 := b4.cell (i := 4) rfl
      have g0 := b4.frozen 0
      have g1 := b4.frozen 1
      have g2 := b4.frozen 2
      have g3 := b4.frozen 3
      have g4 := b4.frozen 4
      have HF := hid_mk (And.intro b4 (And.intro c1 c6.2.2.2.2.2.2.2.2.2))
      clear b1 b2 b3 b4 c1 c6 hL hL2 hks hD hC hln
      go_wp2_with fail
      obtain ⟨bz, c1, hzW⟩ := HF.out
      have xz : Fx (fun j => j = z) wr (((((wr.setCell ⟨z, 0, none⟩ (.int .i64 (n : Int))).setCell ⟨z, 1, none⟩ (.int .i64 0)).setCell ⟨z, 2, none⟩ (.int .i64 0)).setCell ⟨z, 3, none⟩ (.int .i64 0)).setCell ⟨z, 4, none⟩ (.int .i64 0)) := (((((Fx.refl (fun j => j = z) wr).set (p := ⟨z, 0, none⟩) (.inl rfl) _).set (p := ⟨z, 1, none⟩) (.inl rfl) _).set (p := ⟨z, 2, none⟩) (.inl rfl) _).set (p := ⟨z, 3, none⟩) (.inl rfl) _).set (p := ⟨z, 4, none⟩) (.inl rfl) _
      exact bodyPost_ret (results_cell1 Tryz.results10 rfl (load_rep (((((bz.set 0 _).set 1 _).set 2 _).set 3 _).set 4 _))) rfl ⟨rfl, ((Fx.of_out (S := fun _ => False) c1).then xz (fun j h1 h2 => by omega)).out (fun _ _ q => q)⟩
    · have hfa : f a ≠ none := by rw [ha]; simp
      have hna : a ∉ ks := (hL2 a hfa).1 hLa
      obtain ⟨d1, d2, d3, d4, d5, d6, d7, d8, d9, d10⟩ := c6
      obtain ⟨hP, hN, hd, hn, hn1, hlv⟩ := HA.out
      obtain ⟨nb, k, r, s, rfl, hnb, k8, k9⟩ := hN a v ha
      have hks' : KsOf f (ks ++ [a]) := ⟨List.nodup_append.2 ⟨hks.1, by simp, fun x hx y hy2 => by simp at hy2; subst hy2; rintro rfl; exact hna hx⟩, fun x hx => by rw [List.mem_append] at hx; rcases hx with hx | hx; exact hks.2 x hx; simp at hx; subst hx; exact hfa⟩
      have hkl : ks.length < n := by
        have := nodup_le n (ks ++ [a]) hks'.1 (fun y hy => (hd y).1 (hks'.2 y hy))
        simp at this
        omega
      have q0 := c1.size
      have hri : ri < wr.heap.size := hL.lt
      have q1 := b1.fx xr (by omega)
      have q2 := xr.cell b2 (by omega)
      have q3 := b3.fx xr (by omega)
      have q4 := b4.fx xr (by omega)
      have oW' : Out 0 0 W w' := ((Fx.of_out (S := fun _ => False) c1).then xr (fun j h1 h2 => by omega)).out (fun _ _ q => q)
      have lk := mp_look true Tryz.underlying51 Tryz.underlying3 (zero_st _) q3 a
      rw [if_pos rfl, show mF M a = some (.agg #[]) from if_pos (HM.out a hfa)] at lk
      simp only [Option.getD_some, Option.isSome_some] at lk
      have e0 := q1.cell (i := 0) rfl
      have e1 := q1.frozen 0
      have hrl := q1.lt
      have hwp : wrap64 ((ks.length : Int) + 1) = ((ks.length + 1 : Nat) : Int) := up_w (K := 400000) (by omega) (by omega)
      have hL2' : ∀ b, f b ≠ none → ((L b && b != a) = true ↔ b ∉ ks ++ [a]) := by
        intro b hb
        have := hL2 b hb
        by_cases hba : b = a
        · subst hba; simp
        · simp [hba, this]
      obtain ⟨kn, hkn⟩ : ∃ kn, ((ks.length + 1 : Nat) : Int) = kn := ⟨_, rfl⟩
      rw [hkn] at hwp
      have HS := hid_mk (And.intro oW' (And.intro q1 (And.intro q2 (And.intro q3 (And.intro q4 (And.intro hR (And.intro hlt (And.intro hL.left (And.intro hL2' (And.intro hks' (And.intro hkn (And.intro hnb (And.intro k8 k9)))))))))))))
      have HB := hid_mk (And.intro d1 (And.intro d2 (And.intro d3 (And.intro d4 (And.intro d5 (And.intro d6 (And.intro d7 (And.intro d8 (And.intro d9 d10)))))))))
      clear c1 hL hL2 hks b1 b2 b3 b4 hC hLa hR hlt xr ha hfa hna d1 d2 d3 d4 d5 d6 d7 d8 d9 d10 hP hN hd hn hn1 hlv hnb k8 k9 hks' hkl q0 hri q1 q3 q4 oW' hL2' hkn
      go_wp2_with fail
      obtain ⟨w5, hw5⟩ : ∃ w5, (w'.setCell ⟨rp, 0, none⟩ (.int .i64 kn)).alloc (.cells #[] 52) = w5 := ⟨_, rfl⟩
      have x5 : Fx (fun j => j = rp) w' w5 := hw5 ▸ (Fx.set (S := fun j => j = rp) (Fx.refl _ w') (p := ⟨rp, 0, none⟩) (.inl rfl) _).alloc _
      obtain ⟨oW', q1, q2', q3, q4, hR, hlt, hlf, hL2', hks', hkn, hnb, k8, k9⟩ := HS.out
      obtain ⟨d1, d2, d3, d4, d5, d6, d7, d8, d9, d10⟩ := HB.out
      have q6 : Bl w5 rp #[.int .i64 kn, .int .i64 0, .int .i64 0, .int .i64 0, .int .i64 0] 34 := hw5 ▸ (q1.set 0 (.int .i64 kn)).alloc _
      have oW5 : Out 0 0 W w5 := ((Fx.of_out (S := fun _ => False) oW').then x5 (fun j h1 h2 => by omega)).out (fun _ _ q => q)
      rw [hw5]
      refine (forget_plain (hnb.kept oW5 (.inr (Nat.zero_le _))) k8 k9).mono ?_
      rintro e w6 ⟨rfl, o6⟩
      have HN : Hid (CSg W w6 f M z m ri rp q lm (ks ++ [a]) cnt' ∧ cnt' < cnt ∧ wr.rangeLeft m ri = cnt) := by
        have hmlt := HA.out.1.2.lt
        refine hid_mk ⟨⟨oW5.trans o6, ⟨_, (hR.fx x5 (by omega) (by omega)).quiet o6, hL2'⟩, hks', ?_, o6.cell (x5.cell q2 (by omega)) (.inr (Nat.zero_le _)), (q3.fx x5 (by omega)).kept o6 (.inr (Nat.zero_le _)), (q4.fx x5 (by omega)).kept o6 (.inr (Nat.zero_le _)), d1, d2, d3, d4, d5, d6, d7, d8, d9, d10⟩, hlt, hlf⟩
        rw [show ((ks ++ [a]).length : Int) = kn by rw [← hkn]; simp]
        exact q6.kept o6 (.inr (Nat.zero_le _))
      clear hw5 x5 oW' q1 q2' q3 q4 hR hlt hlf hL2' hks' hkn hnb k8 k9 d1 d2 d3 d4 d5 d6 d7 d8 d9 d10 q6 oW5 o6 HS HB q2 e0 e1 hrl lk hnx hen hwp
      go_wp2_with fail
      exact ⟨⟨_, _, HN.out.1⟩, by obtain ⟨L, hL, -⟩ := HN.out.1.2.1; rw [hL.left, HN.out.2.2]; exact HN.out.2.1⟩
end Go.Proofs.YtocncffplcfpbaaGreatDoor
