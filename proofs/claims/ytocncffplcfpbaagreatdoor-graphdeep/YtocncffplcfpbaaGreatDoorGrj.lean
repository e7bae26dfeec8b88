/- graph: gone, forget of a weak pair whose car is gone -/
import Derived.Test.YtocncffplcfpbaaGreatDoorGri
namespace Go.Proofs.YtocncffplcfpbaaGreatDoor
open Go.RowKit Go.MapKept
set_option linter.unusedVariables false
set_option linter.unusedSimpArgs false

set_option maxHeartbeats 4000000 in
theorem gone_at {W : World} {q lm : Nat} {g : Int → Option Value} (hq : W.cell? ⟨q, 0, none⟩ = some (.map (some lm))) (hm : MpAt W lm g) (k x : Int) (b : Bool) (hb : (k == 2 && !(g x).isSome) = b) (hg : ∀ y v, g y = some v → v = .agg #[]) :
    Calls Tryz.prog 22 #[.agg #[.int .i64 k, .int .i64 x], .pointer (some ⟨q, 0, none⟩)] W fun e w' => e = .returned (.bool b) ∧ Out 0 0 W w' := by
  have o1 : Out 0 0 W (W.alloc (.cells #[.int .i64 k, .int .i64 x] 28)) := (Out.refl 0 0 W).alloc _
  have lk := mp_look true Tryz.underlying51 Tryz.underlying3 (zero_st _) (hm.kept o1 (.inr (Nat.zero_le _))) x
  rw [if_pos rfl, show (g x).getD (.agg #[]) = .agg #[] from by cases h : g x with | none => rfl | some v => exact hg x v h] at lk
  have q1 := o1.cell hq (.inr (Nat.zero_le _))
  have hql : q < W.heap.size := cell_lt hq
  by_cases hk : k = 2
  · subst hk
    rw [show ((2 : Int) == 2) = true from rfl, Bool.true_and] at hb
    clear hq hm hg
    generalize (g x).isSome = y at *
    go_enter Tryz.func22, Tryz.ntmps22
    go_wp2_with fail
    go_ret
    exact ⟨rfl, (o1.alloc _)⟩
  · have hk' : (k == 2) = false := by simpa using hk
    rw [hk', Bool.false_and] at hb
    subst hb
    clear hq hm hg
    generalize (g x).isSome = y at *
    go_enter Tryz.func22, Tryz.ntmps22
    go_wp2_with fail
    go_ret
    exact ⟨rfl, (o1.alloc _)⟩
theorem imm_broken (w : World) : Calls Tryz.prog 44 #[.int .i64 4] w fun e w' => e = .returned (.agg #[.int .i64 3, .int .i64 4]) ∧ Below w.heap.size w w' := imm_any_v 4 w
theorem range_nil (w : World) : (Instr.range 92 (.map none)).run Tryz.prog w = .ok (.pointer (some ⟨w.heap.size, 0, none⟩)) (w.alloc (.mapIter none 0 #[] 0)) := by
  simp [Instr.range, run_underlying Tryz.underlying92, Result.andThen]
theorem next_nil {w : World} {r : Nat} (h : w.heap[r]? = some (.mapIter none 0 #[] 0)) (ty : TypeId) : (Instr.next (.pointer (some ⟨r, 0, none⟩)) false ty).run Tryz.prog w = .ok (.tuple #[.bool false]) w := by
  simp only [Instr.next, getObj, Sem.run_bind, Sem.run, h, Result.andThen]
  rfl
set_option maxRecDepth 100000 in
set_option maxHeartbeats 4000000 in
theorem forget_weak {W : World} {n gf fc q lm rp : Nat} {r : Value} {g : Int → Option Value} {y0 k x kp fd cl pr : Int} (hn : Bl W n (ndc 8 r (.slice (some ⟨gf, 0, none⟩) 2 fc)) 94) (hrp : Bl W rp #[.int .i64 kp, .int .i64 fd, .int .i64 0, .int .i64 cl, .int .i64 pr] 34) (hq : W.cell? ⟨q, 0, none⟩ = some (.map (some lm))) (hm : MpAt W lm g) (hg : ∀ y v, g y = some v → v = .agg #[]) (hy : g y0 = none)
    (d0 : W.cell? ⟨gf, 0, none⟩ = some (.int .i64 2)) (d1 : W.cell? ⟨gf, 1, none⟩ = some (.int .i64 y0)) (d2 : W.cell? ⟨gf, 2, none⟩ = some (.int .i64 k)) (d3 : W.cell? ⟨gf, 3, none⟩ = some (.int .i64 x)) :
    Calls Tryz.prog 23 #[.pointer (some ⟨n, 0, none⟩), .func (.func 22) #[] #[.pointer (some ⟨q, 0, none⟩)], .pointer (some ⟨rp, 0, none⟩)] W fun e w' => e = .returned (.tuple #[]) ∧ ∃ nf, Fx (fun j => j = n ∨ j = rp) W w' ∧ Bl w' n (ndc 8 r (.slice (some ⟨nf, 0, none⟩) 2 2)) 94 ∧ Bl w' rp #[.int .i64 kp, .int .i64 fd, .int .i64 1, .int .i64 cl, .int .i64 pr] 34 ∧ W.heap.size ≤ nf ∧ VsAt w' (some ⟨nf, 0, none⟩) [(3, 4), (k, x)] := by
  have HW := hid_mk (And.intro hn (And.intro hrp (And.intro hm (And.intro hg hy))))
  go_enter Tryz.func23, Tryz.ntmps23
  clear hn hrp hm hg hy
  go_wp2_with fail
  refine (imm_broken _).mono ?_
  rintro e w1 ⟨rfl, b1⟩
  have o1 := Out.of_below b1 0 0
  obtain ⟨hn, hrp, hm, hg, hy⟩ := HW.out
  have oA : Out 0 0 W (w1.alloc (.cells #[.int .i64 3, .int .i64 4] 28)) := o1.alloc _
  have c0 := (hn.kept oA (.inr (Nat.zero_le _))).cell (i := 0) rfl
  have c2 := (hn.kept oA (.inr (Nat.zero_le _))).cell (i := 2) rfl
  have HG := hid_mk (gone_at (oA.cell hq (.inr (Nat.zero_le _))) (hm.kept oA (.inr (Nat.zero_le _))) 2 y0 true (by rw [hy]; rfl) hg)
  replace d0 := oA.cell d0 (.inr (Nat.zero_le _))
  replace d1 := oA.cell d1 (.inr (Nat.zero_le _))
  replace d2 := oA.cell d2 (.inr (Nat.zero_le _))
  replace d3 := oA.cell d3 (.inr (Nat.zero_le _))
  have HV : Hid (VC_v (w1.alloc (.cells #[.int .i64 3, .int .i64 4] 28)) w1.heap.size 3 4 ∧ Out 0 0 W (w1.alloc (.cells #[.int .i64 3, .int .i64 4] 28)) ∧ W.heap.size ≤ w1.heap.size) := hid_mk ⟨VC_v.new _ _ _, oA, o1.size⟩
  clear hn hrp hm hg hy oA o1 b1 hq
  go_upto_region 1 with fail
  obtain ⟨A, hA⟩ : ∃ A, w1.alloc (.cells #[.int .i64 3, .int .i64 4] 28) = A := ⟨_, rfl⟩
  obtain ⟨p, hp⟩ : ∃ p, w1.heap.size = p := ⟨_, rfl⟩
  rw [hA] at d0 d1 d2 d3 c0 c2 HG HV ⊢
  rw [hp] at HV ⊢
  clear hA hp
  go_wp2_with fail
  refine HG.out.mono ?_
  rintro e w2 ⟨rfl, o2⟩
  obtain ⟨hn, hrp, hm, hg, hy⟩ := HW.out
  obtain ⟨hv, oA, hsz⟩ := HV.out
  have oW := oA.trans o2
  have HN : Hid (Out 0 0 W w2 ∧ Bl w2 n (ndc 8 r (.slice (some ⟨gf, 0, none⟩) 2 fc)) 94 ∧ Bl w2 rp #[.int .i64 kp, .int .i64 fd, .int .i64 0, .int .i64 cl, .int .i64 pr] 34 ∧ n ≠ rp ∧ n < W.heap.size ∧ rp < W.heap.size) := hid_mk ⟨oW, hn.kept oW (.inr (Nat.zero_le _)), hrp.kept oW (.inr (Nat.zero_le _)), (fun e => by subst e; have h1 := hn; have h2 := hrp; unfold Bl at h1 h2; rw [h1] at h2; simp at h2), hn.lt, hrp.lt⟩
  have p0 := o2.cell hv.facts.1 (.inr (Nat.zero_le _))
  have p1 := o2.cell hv.facts.2.1 (.inr (Nat.zero_le _))
  replace c2 := HN.out.2.1.cell (i := 2) rfl
  replace d2 := o2.cell d2 (.inr (Nat.zero_le _))
  replace d3 := o2.cell d3 (.inr (Nat.zero_le _))
  clear hn hrp hm hg hy hv oA hsz oW o2 HG HV d0 d1 c0 HW
  go_upto_region 2 with fail
  refine wp_region_T (S := fun w' => w'.cell? ⟨p, 0, none⟩ = some (.int .i64 3) ∧ w'.cell? ⟨p, 1, none⟩ = some (.int .i64 4) ∧ w'.cell? ⟨n, 2, none⟩ = some (.slice (some ⟨gf, 0, none⟩) 2 fc) ∧ w'.cell? ⟨gf, 2, none⟩ = some (.int .i64 k) ∧ w'.cell? ⟨gf, 3, none⟩ = some (.int .i64 x)) (z := 11) (by kernel_rfl) ?hS1 (fun hHeld => ?rest1)
  case hS1 => exact ⟨p0, p1, c2, d2, d3⟩
  refine tkT 0 ?_
  refine tkT 1 ?_
  refine tkT 2 ?_
  refine tkT 3 ?_
  refine tkT 4 ?_
  refine tkT 5 ?_
  refine tkT 6 ?_
  refine tkT 7 ?_
  refine wpAnyT_one (i := 8) (by kernel_rfl) rfl (fun KK hK => ?_)
  simp only [xa, xb, xc]
  go_simp
  obtain ⟨X, hX⟩ : ∃ X, (w2.alloc (.cells #[.int .i64 3, .int .i64 4, .int .i64 k, .int .i64 x] 28)).drew = X := ⟨_, rfl⟩
  obtain ⟨nf, hnf⟩ : ∃ nf, w2.heap.size = nf := ⟨_, rfl⟩
  rw [hX, hnf]
  have oX : Out 0 0 w2 X := hX ▸ ((Out.refl 0 0 w2).alloc _).drew
  have bX : Bl X nf #[.int .i64 3, .int .i64 4, .int .i64 k, .int .i64 x] 28 := (by rw [← hX, ← hnf]; exact (Bl.new _ _ _).kept ((Out.refl 0 0 _).drew) (.inr (Nat.zero_le _)))
  refine hK.out _ _ ?hS10 (fun hHeld2 => ?rest10)
  case hS10 => exact ⟨oX.cell p0 (.inr (Nat.zero_le _)), oX.cell p1 (.inr (Nat.zero_le _)), oX.cell c2 (.inr (Nat.zero_le _)), oX.cell d2 (.inr (Nat.zero_le _)), oX.cell d3 (.inr (Nat.zero_le _))⟩
  clear hK KK
  (try clear hHeld)
  have hHeld := hHeld2
  clear hHeld2
  (try simp only [Act.put, xa, xb, xc, xd, xe, xf])
  refine wpAnyT_one (i := 9) (by kernel_rfl) rfl (fun KK hK => ?_)
  simp only [xa, xb, xc]
  go_simp
  refine hK.out _ _ ?hS11 (fun hHeld2 => ?rest11)
  case hS11 => exact hHeld
  clear hK KK
  (try clear hHeld)
  have hHeld := hHeld2
  clear hHeld2
  (try simp only [Act.put, xa, xb, xc, xd, xe, xf])
  refine tkT 10 ?_
  refine wpAnyT_last (by kernel_rfl) rfl (fun KK hK => ?_)
  simp only [xa, xb, xc]
  have z9 := (HN.out.2.1.kept oX (.inr (Nat.zero_le _))).frozen 2
  have c9 := (HN.out.2.1.kept oX (.inr (Nat.zero_le _))).cell (i := 2) rfl
  go_simp
  refine hK.out _ _ ?_
  clear hK KK
  (try simp only [Act.put, xa, xb, xc, xd, xe, xf])
  refine wpAnyT_done (by kernel_rfl) ?_ _
  obtain ⟨Y, hY⟩ : ∃ Y, X.setCell ⟨n, 2, none⟩ (.slice (some ⟨nf, 0, none⟩) 2 2) = Y := ⟨_, rfl⟩
  rw [hY]
  have HY : Hid (Fx (fun j => j = n) W Y ∧ Bl Y n (ndc 8 r (.slice (some ⟨nf, 0, none⟩) 2 2)) 94 ∧ Bl Y rp #[.int .i64 kp, .int .i64 fd, .int .i64 0, .int .i64 cl, .int .i64 pr] 34 ∧ n ≠ rp ∧ n < W.heap.size ∧ rp < W.heap.size ∧ W.heap.size ≤ nf ∧ Bl Y nf #[.int .i64 3, .int .i64 4, .int .i64 k, .int .i64 x] 28) := by
    obtain ⟨q1, q2, q3, q4, q5, q6⟩ := HN.out
    have xY : Fx (fun j => j = n) X Y := hY ▸ Fx.set (S := fun j => j = n) (Fx.refl _ X) (p := ⟨n, 2, none⟩) (.inl rfl) _
    have hle : W.heap.size ≤ nf := by have := q1.size; omega
    exact hid_mk ⟨(Fx.of_out (q1.trans oX)).trans xY, hY ▸ (q2.kept oX (.inr (Nat.zero_le _))).set 2 _, (q3.kept oX (.inr (Nat.zero_le _))).fx xY (fun e => q4 e.symm), q4, q5, q6, hle, bX.fx xY (by omega)⟩
  have e0 := HY.out.2.2.1.cell (i := 2) rfl
  have e1 := HY.out.2.2.1.frozen 2
  have e2 := HY.out.2.1.cell (i := 3) rfl
  have hne : ¬ n = rp := HY.out.2.2.2.1
  have hne2 : ¬ rp = n := fun e => HY.out.2.2.2.1 e.symm
  clear hHeld z9 c9 hY hX hnf oX bX HN p0 p1 c2 d2 d3
  have hrn := range_nil
  go_wp2_with fail
  obtain ⟨V, hV⟩ : ∃ V, (Y.setCell ⟨rp, 2, none⟩ (.int .i64 1)).alloc (.mapIter none 0 #[] 0) = V := ⟨_, rfl⟩
  have hnx := next_nil (w := V) (r := Y.heap.size) (by rw [← hV]; have := (MapKept.heap_alloc (Y.setCell ⟨rp, 2, none⟩ (.int .i64 1)) (.mapIter none 0 #[] 0)).1; rwa [size_set] at this)
  have HE : Hid (Fx (fun j => j = n ∨ j = rp) W V ∧ Bl V n (ndc 8 r (.slice (some ⟨nf, 0, none⟩) 2 2)) 94 ∧ Bl V rp #[.int .i64 kp, .int .i64 fd, .int .i64 1, .int .i64 cl, .int .i64 pr] 34 ∧ W.heap.size ≤ nf ∧ VsAt V (some ⟨nf, 0, none⟩) [(3, 4), (k, x)]) := by
    obtain ⟨q1, q2, q3, q4, q5, q6, q7, q8⟩ := HY.out
    have xV : Fx (fun j => j = rp) Y V := hV ▸ (Fx.set (S := fun j => j = rp) (Fx.refl _ Y) (p := ⟨rp, 2, none⟩) (.inl rfl) _).alloc _
    have bV : Bl V nf #[.int .i64 3, .int .i64 4, .int .i64 k, .int .i64 x] 28 := q8.fx xV (by omega)
    refine hid_mk ⟨(q1.wide (fun _ _ q => .inl q)).trans (xV.wide (fun _ _ q => .inr q)), q2.fx xV q4, hV ▸ (q3.set 2 _).alloc _, q7, .inr ⟨nf, 0, rfl, fun j v hv => ?_⟩⟩
    match j, hv with
    | 0, hv => simp at hv; subst hv; exact ⟨bV.cell (i := 0) rfl, bV.cell (i := 1) rfl⟩
    | 1, hv => simp at hv; subst hv; exact ⟨bV.cell (i := 2) rfl, bV.cell (i := 3) rfl⟩
    | j + 2, hv => simp at hv
  rw [hV]
  clear hV e0 e1 e2 HY hrn
  go_loopw [7] (fun _ wr => wr = V) (fun _ _ => 0)
  case atStart => rfl
  case round =>
    subst hrel
    go_wp2_with fail
    exact bodyPost_end (results_none Tryz.results23 _ _ _) rfl ⟨rfl, nf, HE.out⟩
end Go.Proofs.YtocncffplcfpbaaGreatDoor
