import Derived.Test.YtjbbkeoolodeaabGreatDoorA16
import Derived.Laws.FloatArith
import Derived.Test.YtjbbkeoolodeaabGreatDoorA17
import Derived.Test.YtjbbkeoolodeaabGreatDoorA31
import Derived.Test.YtjbbkeoolodeaabGreatDoorA44
import Derived.Test.YtjbbkeoolodeaabGreatDoorA45
import Derived.Test.YtjbbkeoolodeaabGreatDoorA40
namespace Go.Proofs.YtjbbkeoolodeaabGreatDoor
open Go.RowKit
attribute [local go_sem] Oper.semAt_some
set_option linter.unusedVariables false
set_option maxRecDepth 100000
set_option maxHeartbeats 16000000
set_option linter.unusedSimpArgs false
def x2g (r : Raw) : Nat → Nat
 | 0 => 0
 | p + 1 => if r.P p then (match r.M (p : Int) with | some b => x2g r p + J3 b.2.1 | none => x2g r p) else x2g r p
theorem x2m {r : Raw} {p : Nat} : ∀ {d : Nat}, (∀ j, p ≤ j → j < p + d → r.P j = false) → x2g r (p + d) = x2g r p
 | 0, _ => rfl
 | d + 1, h => by
  refine Eq.trans ?_ (x2m (r := r) (p := p) (d := d) (fun j a b => h j a (by omega)))
  show x2g r ((p + d) + 1) = _
  conv => lhs; unfold x2g
  rw [h _ (by omega) (by omega)]; rfl
theorem x2o {r : Raw} {p k : Nat} (hp : p ≤ k) (h : ∀ j, p ≤ j → j < k → r.P j = false) : x2g r k = x2g r p := by
 obtain ⟨d, rfl⟩ : ∃ d, k = p + d := ⟨k - p, by omega⟩
 exact x2m h
theorem x2n {r : Raw} {k : Nat} {b : Blk} (hP : r.P k = true) (hb : r.M (k : Int) = some b) : x2g r (k + 1) = x2g r k + J3 b.2.1 := by
 conv => lhs; unfold x2g
 rw [hP, hb]; rfl
def x2v (n u : Nat) : Option Nat := floatBits .quo .f64 (floatOfInt .f64 (u : Int)) (floatOfInt .f64 (64 * (n : Int)))
section
variable {w : World} {lo hi n cap : Nat} {s : Nat → Nat} {r : Raw}
theorem x2u (h : RawAt w lo hi s n cap r) (hT : z8q r) (hR : q7x n r) {v : Nat} (hv : x2v n (x2g r (64 * n)) = some v) :
  Calls Tryz.prog 40 #[.pointer (some ⟨s 14, 0, none⟩)] w fun e w' => e = .returned (.float .f64 v) ∧ Out 0 0 w w' := by
 have HR0 := Z0 h; have HTo := Z0 hT; have HRo := Z0 hR; have HT : Hid (hi ≤ w.heap.size ∧ 4 ≤ w.heap.size ∧ 4 ≤ lo ∧ n ≤ 4096 ∧ 1 ≤ n) := ⟨h.top, h.tab.lt, h.glob, h.n2, h.n1⟩
 have HL := Z0 (fun w => z4i (s 14) w); have HW := Z0 (fun W (hr : RawAt W lo hi s n cap r) => z3r hr); have HW0 := Z0 (z3r h); have n0 : (0 : Int) < ((64 * n : Nat) : Int) := by have := h.n1; omega
 have n1 : (1 : Int) ≤ (n : Int) := by have := h.n1; omega
 have HV := Z0 hv; clear h hT hR hv; refine (callsIn_wide (n := 0)).1 ?_; refine callsIn_of_wp_marks Tryz.func40 rfl trivial ?_ rfl; simp only [Tryz.ntmps40, List.size_toArray, List.length_cons, List.length_nil, Nat.reduceAdd, Nat.reduceSub, Array.replicate_succ, Array.replicate_zero, List.push_toArray, List.append_toArray, List.nil_append, List.cons_append]; gi_wp2_with (first
  | (refine ⟨trivial, rfl, ?_⟩; gi_at_call 15; refine (callsIn_wide.2 HW0.out).mono ?_; rintro e w1 ⟨rfl, he⟩; rw [he]; clear he w1)
  | (refine ⟨trivial, rfl, ?_⟩; gi_at_call 77; refine (callsIn_wide.2 (HL.out _)).mono ?_; rintro e w1 ⟨rfl, rfl⟩))
 obtain ⟨W1, hW1⟩ : ∃ W1, (w.alloc (.cells #[.int .i64 0] 3)).alloc (.cells #[.pointer (some ⟨s 14, 0, none⟩)] 34) = W1 := ⟨_, rfl⟩
 obtain ⟨G, hG⟩ : ∃ G, w.heap.size = G := ⟨_, rfl⟩
 have hs1 : W1.heap.size = G + 2 := by rw [← hW1, ← hG]; simp
 have ho1 : Out 0 0 w W1 := by rw [← hW1]; exact ((Out.refl 0 0 w).alloc _).alloc _
 have hx1 : Box W1 G 3 (.int .i64 0) := by rw [← hW1, ← hG]; exact K4
 have hz1 : Box W1 (G + 1) 34 (.pointer (some ⟨s 14, 0, none⟩)) := by rw [← hW1, ← hG]; exact heap_alloc2_new _ _ _
 rw [hW1, hG]; rw [hG] at HT; have HGw := Z0 hG; have HO1 := Z0 ho1; have HX1 := Z0 hx1; have HZ1 := Z0 hz1; clear hW1 ho1 hx1 hz1 hG; refine q5b (lo := lo) (hi := hi) (n := n) (cap := cap) (g := G + 1) (s := s) rfl rfl
  (fun p W => p ≤ 64 * n ∧ RawAt W lo hi s n cap r ∧ (∃ f, At n r p f ∧ x2g r p ≤ f) ∧ Box W G 3 (.int .i64 ((x2g r p : Nat) : Int)) ∧ Box W (G + 1) 34 (.pointer (some ⟨s 14, 0, none⟩)) ∧ Out 0 0 w W)
  (fun W => RawAt W lo hi s n cap r ∧ x2g r (64 * n) ≤ 64 * n ∧ Box W G 3 (.int .i64 ((x2g r (64 * n) : Nat) : Int)) ∧ Out 0 0 w W)
  (fun c W => False) ?hm1 ?hq1 ?hqk1 ?hqx1 ?hy1 ?he1 ?hz1 ?hdone1 ?hstop1
 case hm1 =>
  rintro p W ⟨hp, a1, a2, a3, a4, a5⟩; exact ⟨hp, _, a1, HTo.out, a4⟩
 case hq1 =>
  rintro p W W' x y ⟨hp, a1, a2, a3, a4, a5⟩ o hx; have hT := HT.out; have hgw := HGw.out; exact ⟨hp, a1.kept o (by omega) (by omega), a2, a3.kept o (by omega), a4.kept o (by omega), Z9 a5 o (by omega)⟩
 case hqk1 =>
  rintro W W' x y ⟨a1, a2, a3, a4⟩ o hx; have hT := HT.out; have hgw := HGw.out; exact ⟨a1.kept o (by omega) (by omega), a2, a3.kept o (by omega), Z9 a4 o (by omega)⟩
 case hqx1 => exact fun c W W' x y h _ _ => h
 case hstop1 => exact fun c W h _ => h.elim
 case hz1 => exact ⟨Nat.zero_le _, HR0.out.quiet HO1.out, ⟨0, ⟨Nat.zero_le _, fun a b h => absurd h (by omega), fun a _ _ => Nat.zero_le _⟩, Nat.le_refl _⟩, HX1.out, HZ1.out, HO1.out⟩
 case he1 =>
  rintro p W rr ⟨hp, a1, ⟨f, hA, hu⟩, a3, a4, a5⟩ hr hk; obtain ⟨eP, eM⟩ := z2j a1 hr; rw [← eP] at hk; rcases Q1 r.P (64 * n) p with ⟨_, hz⟩ | ⟨i, hi', _⟩
  ·have e := x2o hp hz; exact ⟨a1, by rw [e]; have := hA.le; omega, by rw [e]; exact a3, a5⟩
  ·have : (-1 : Int) = i := hk.symm.trans hi'; omega
 case hy1 =>
  rintro p W rr k b ⟨hp, a1, ⟨f, hA, hu⟩, a3, a4, a5⟩ hr hk hb hsz; obtain ⟨eP, eM⟩ := z2j a1 hr; rw [← eP] at hk; rw [← eM] at hb; obtain ⟨hpk, hkn, hPk, hz⟩ : p ≤ k ∧ k < 64 * n ∧ r.P k = true ∧ ∀ j, p ≤ j → j < k → r.P j = false := by
   rcases Q1 r.P (64 * n) p with ⟨e1, _⟩ | ⟨i, e1, e2, e3, e4, e5⟩
   ·have : (-1 : Int) = k := e1.symm.trans hk; omega
   ·have : i = k := by have : (i : Int) = k := e1.symm.trans hk; omega
    subst this; exact ⟨e3 hp, e2, e4, e5⟩
  rw [hs1] at hsz ⊢; have hRo := HRo.out k b hPk hb; have hfk := hA.above k hpk hPk; have hA' := hA.step HRo.out hpk hz hPk hb; have hus := x2n hPk hb; rw [x2o hpk hz] at hus; obtain ⟨b1, b2, b3, b4⟩ := b; obtain ⟨u, hu1⟩ : ∃ u, x2g r p = u := ⟨_, rfl⟩
  rw [hu1] at a3 hu hus; have A := Z0 (And.intro a1 (And.intro a3 (And.intro a4 (And.intro a5 (And.intro hA' hus))))); have HK := Z0 (And.intro hpk (And.intro hkn (And.intro hfk (And.intro hsz hu)))); have HRk := Z0 hRo; clear a1 a3 a4 a5 hA hr hk hb eP eM hz hPk hRo hA' hp hpk hkn hfk hsz hus hu hu1; unfold q6a; dsimp only at A HRk ⊢; obtain ⟨WA, hWA⟩ : ∃ WA, W.alloc (bo (k : Int) b1 b2 b3 b4) = WA := ⟨_, rfl⟩
  have HBA : Hid (WA.heap[W.heap.size]? = some (bo (k : Int) b1 b2 b3 b4)) := by rw [← hWA]; exact heap_alloc_new _ _
  have HOA : Hid (Out 0 0 W WA) := by rw [← hWA]; exact (Out.refl 0 0 W).alloc _
  obtain ⟨H, hH⟩ : ∃ H, W.heap.size = H := ⟨_, rfl⟩
  rw [hH] at HK HBA; unfold bo at hWA HBA; gi_wp2; (try rw [hWA]); refine ⟨HOA.out.any _ _, ?_⟩; (try rw [hH]); clear hWA hH; intro W2 o2; have hT := HT.out; have hkk := HK.out; have hgw := HGw.out; have HR2 := Z0 ((A.out.1.quiet HOA.out).kept o2 (.inl (by omega)) (.inl (by omega))); have HX2 := Z0 ((A.out.2.1.kept HOA.out z0).kept o2 (.inl (by omega))); have HZ2 := Z0 ((A.out.2.2.1.kept HOA.out z0).kept o2 (.inl (by omega))); have HB2 := Z0 (o2.heap HBA.out (.inr (by omega))); have HO2 := Z0 (Z9 (A.out.2.2.2.1.trans HOA.out) o2 (.inl (by omega))); have c0 := HX2.out.cell; obtain ⟨_, _, q2, _, _⟩ := V7 HB2.out; have HRoom := Z0 (fun w' => q5t b2 HRk.out.1 HRk.out.2.1 w'); have HWR : Hid (IntKind.i64.wrap ((u : Int) + ((J3 b2 : Nat) : Int)) = ((u + J3 b2 : Nat) : Int)) := by show _ = _; simp [IntKind.wrap, IntKind.signed, IntKind.bits]; have := HRk.out; omega
  clear o2 hT hkk hgw; gi_wp2_with fail; refine z0p (S := fun w' => w'.cell? ⟨H, 2, none⟩ = some (.int .i64 b2)) (by kernel_rfl) (by kernel_rfl) ?hS1 (fun hHeld => ?rest1)
  case hS1 => exact q2
  refine tk 1 ?_; refine tk 2 ?_; refine rd2 0 3 (fun KK hK => ?_) fun KK hK => ?_
  ·simp only [xa, xb, xc]; go_simp; refine hK.out _ _ ?hS4 (fun hHeld2 => ?rest4)
   case hS4 => exact hHeld
   clear hK KK; replace hHeld := hHeld2; clear hHeld2; refine rd1 3 fun KK hK => ?_
   simp only [xa, xb, xc]; go_simp; refine (HRoom.out _).mono ?_; rintro e w5 ⟨rfl, hoo⟩; have hx5 := HX2.out.kept (((Out.refl 0 0 _).drew).trans hoo) z0; have e0 := hx5.cell; have e1 := hx5.frozen; have HX5 := Z0 hx5; have HOO := Z0 hoo; clear hx5; refine hK.out _ _ ?hS5 (fun hHeld2 => ?rest5)
   case hS5 => exact hoo.cell hHeld z0
   clear hK KK; replace hHeld := hHeld2; clear hHeld2; refine tk 4 ?_; refine rd1 5 fun KK hK => ?_
   simp only [xa, xb, xc]; go_simp; refine hK.out _ _ ?hS7 (fun hHeld2 => ?rest7)
   case hS7 => exact ((Out.refl G (G + 1) w5).setCell z1 _).cell hHeld (by have := HK.out; omega)
   clear hK KK; replace hHeld := hHeld2; clear hHeld2; refine dn ?_; clear hHeld; simp only [q2k, z8r]; gi_wp2; have hset := (Out.refl G (G + 1) w5).setCell (p := ⟨G, 0, none⟩) z1 (.int .i64 (IntKind.i64.wrap ((u : Int) + ((J3 b2 : Nat) : Int)))); have hq5 : Out 0 0 W2 w5 := ((Out.refl 0 0 W2).drew).trans HOO.out; have hbx := HX5.out.set (.int .i64 (IntKind.i64.wrap ((u : Int) + ((J3 b2 : Nat) : Int)))); rw [HWR.out] at hbx hset; (try rw [HWR.out]); have hT := HT.out; have hK := HK.out; have hgw := HGw.out; exact ⟨(hq5.any _ _).trans (hset.wide (Nat.zero_le _) (by omega)), by omega, (HR2.out.quiet hq5).kept hset (.inl (by omega)) (.inl (by omega)), ⟨_, A.out.2.2.2.2.1, by rw [A.out.2.2.2.2.2]; omega⟩, by rw [A.out.2.2.2.2.2]; exact hbx, (HZ2.out.kept hq5 z0).kept hset (by omega), Z9 (HO2.out.trans hq5) hset (.inl (by omega))⟩
  ·simp only [xa, xb, xc]; go_simp; refine (HRoom.out _).mono ?_; rintro e w5 ⟨rfl, hoo⟩; have hx5 := HX2.out.kept (((Out.refl 0 0 _).drew).trans hoo) z0; have e0 := hx5.cell; have e1 := hx5.frozen; have HX5 := Z0 hx5; have HOO := Z0 hoo; clear hx5; refine hK.out _ _ ?hS8 (fun hHeld2 => ?rest8)
   case hS8 => exact hoo.cell hHeld z0
   clear hK KK; replace hHeld := hHeld2; clear hHeld2; refine rd1 0 fun KK hK => ?_
   simp only [xa, xb, xc]; go_simp; refine hK.out _ _ ?hS9 (fun hHeld2 => ?rest9)
   case hS9 => exact hHeld
   clear hK KK; replace hHeld := hHeld2; clear hHeld2; refine tk 4 ?_; refine rd1 5 fun KK hK => ?_
   simp only [xa, xb, xc]; go_simp; refine hK.out _ _ ?hS11 (fun hHeld2 => ?rest11)
   case hS11 => exact ((Out.refl G (G + 1) w5).setCell z1 _).cell hHeld (by have := HK.out; omega)
   clear hK KK; replace hHeld := hHeld2; clear hHeld2; refine dn ?_; clear hHeld; simp only [q2k, z8r]; gi_wp2; have hset := (Out.refl G (G + 1) w5).setCell (p := ⟨G, 0, none⟩) z1 (.int .i64 (IntKind.i64.wrap ((u : Int) + ((J3 b2 : Nat) : Int)))); have hq5 : Out 0 0 W2 w5 := ((Out.refl 0 0 W2).drew).trans HOO.out; have hbx := HX5.out.set (.int .i64 (IntKind.i64.wrap ((u : Int) + ((J3 b2 : Nat) : Int)))); rw [HWR.out] at hbx hset; (try rw [HWR.out]); have hT := HT.out; have hK := HK.out; have hgw := HGw.out; exact ⟨(hq5.any _ _).trans (hset.wide (Nat.zero_le _) (by omega)), by omega, (HR2.out.quiet hq5).kept hset (.inl (by omega)) (.inl (by omega)), ⟨_, A.out.2.2.2.2.1, by rw [A.out.2.2.2.2.2]; omega⟩, by rw [A.out.2.2.2.2.2]; exact hbx, (HZ2.out.kept hq5 z0).kept hset (by omega), Z9 (HO2.out.trans hq5) hset (.inl (by omega))⟩
 case hdone1 =>
  rintro W ⟨a1, a2, a3, a4⟩ hd; rw [hs1] at hd; obtain ⟨u, hu1⟩ : ∃ u, x2g r (64 * n) = u := ⟨_, rfl⟩
  rw [hu1] at a2 a3; have HD := Z0 hd; have HU := Z0 a2; have HX := Z0 a3; have HO := Z0 a4; have HWd := Z0 (HW.out W.drew (a1.quiet ((Out.refl 0 0 _).drew))); have c0 := a3.cell; have u0 : (0 : Int) ≤ (u : Int) := by omega
  rw [hs1]; have hv := HV.out; rw [hu1] at hv; have hcv1 : ∀ wx, (convert 3 75 (.int .i64 (u : Int))).run Tryz.prog wx = .ok (.float .f64 (floatOfInt .f64 (u : Int))) wx := fun wx => run_convert_int_float wx _ _ _ _ _ (by rw [Tryz.underlying3]; rfl) Tryz.underlying75
  have hcv2 : ∀ wx, (convert 3 75 (.int .i64 (64 * (n : Int)))).run Tryz.prog wx = .ok (.float .f64 (floatOfInt .f64 (64 * (n : Int)))) wx := fun wx => run_convert_int_float wx _ _ _ _ _ (by rw [Tryz.underlying3]; rfl) Tryz.underlying75
  have hdv : ∀ wx, (binOp .quo 75 (.float .f64 (floatOfInt .f64 (u : Int))) (.float .f64 (floatOfInt .f64 (64 * (n : Int))))).run Tryz.prog wx = .ok (.float .f64 v) wx := fun wx => run_float_arith wx _ _ _ _ _ _ hv
  have hw64 : ((64 * n : Nat) : Int) = 64 * (n : Int) := by omega
  rw [hw64] at HWd; generalize floatOfInt .f64 (u : Int) = x1 at *
  generalize floatOfInt .f64 (64 * (n : Int)) = x2 at *
  clear hw64 hv; clear a1 a2 a3 a4 hd hu1; gi_wp2_with fail; refine q1l ?_; refine wp_region_held_drew (S := fun w' => w'.cell? ⟨G, 0, none⟩ = some (.int .i64 (u : Int))) (by kernel_rfl) ?hS12 (fun hHeld => ?rest12)
  case hS12 => exact c0
  refine tk 0 ?_; refine tk 1 ?_; refine tk 2 ?_; refine rd1 3 fun KK hK => ?_
  simp only [xa, xb, xc]; go_simp; refine HWd.out.mono ?_; rintro e w5 ⟨rfl, rfl⟩; refine hK.out _ _ ?hS16 (fun hHeld2 => ?rest16)
  case hS16 => exact hHeld
  clear hK KK; replace hHeld := hHeld2; clear hHeld2; refine tk 4 ?_; refine tk 5 ?_; refine tk 6 ?_; refine dn ?_; clear hHeld; simp only [z8r]; gi_wp2; have hT := HT.out; have hgw := HGw.out; refine ⟨by simp, .inl ⟨_, _, rfl, run_takeDeferred (((Out.refl 0 0 W).drew).heap HD.out z0), ?_⟩⟩; exact ⟨_, results_tmp rfl _ _ _, rfl, Z9 (HO.out.trans ((Out.refl 0 0 W).drew)) (Q2 _ _ _) (by omega)⟩
end
end Go.Proofs.YtjbbkeoolodeaabGreatDoor
namespace Go.Proofs.YtjbbkeoolodeaabGreatDoor
open Go.RowKit
set_option linter.unusedVariables false
set_option maxRecDepth 100000
set_option maxHeartbeats 16000000
set_option linter.unusedSimpArgs false
def x2h (n u : Nat) : Bool := match x2v n u with | some v => FloatKind.f64.format.order v v == some .eq | none => false
section
variable {w : World} {lo hi n cw co : Nat} {s : Nat → Nat} {st : Sp}
theorem x2r {p : Nat} (hI : Inv n st) (hb : Q7 (st.O p) = false) : x2g (Z6 n st) (p + 1) = x2g (Z6 n st) p := by
 have : (Z6 n st).P p = false := by show ob n st p = false; rw [z9j hI]; exact hb
 conv => lhs; unfold x2g
 rw [this]; rfl
theorem x2p {p : Nat} (hI : Inv n st) (hb : Q7 (st.O p) = true) : x2g (Z6 n st) (p + 1) = x2g (Z6 n st) p + J3 (st.O p).2.1 := by
 have hP : (Z6 n st).P p = true := by show ob n st p = true; rw [z9j hI]; exact hb
 have hM : (Z6 n st).M (p : Int) = some (st.O p) := by
  show obM st (p : Int) = _
  unfold obM; rw [show ((p : Nat) : Int).toNat = p from by omega, if_pos ⟨by omega, hb⟩]
 conv => lhs; unfold x2g
 rw [hP, hM]; rfl
theorem x2l (hI : Inv n st) : ∀ p, x2g (Z6 n st) p ≤ p * 1024
 | 0 => Nat.le_refl _
 | p + 1 => by
  have ih := x2l hI p; cases hb : Q7 (st.O p) with
  | false => rw [x2r hI hb]; exact Nat.le_trans ih (Nat.mul_le_mul_right _ (Nat.le_succ p))
  | true =>
   rw [x2p hI hb]; have hz := J8 (hI.objs p hb).2.1; have : J3 (st.O p).2.1 ≤ 1024 := by
    unfold J3; split
    ·omega
    ·have hs := W9 hz.2.2.1 (by omega); have := z4l hs.1 hs.2.1; omega
   omega
theorem x2i (h : RfAt w lo hi s n cw co st) (hI : Inv n st) : Calls Tryz.prog 41 #[.pointer (some ⟨s 0, 0, none⟩)] w fun e w' => e = .returned (.int .i64 (x2g (Z6 n st) (64 * n) : Int)) ∧ w' = w := by
 have h2 := h.n2; obtain ⟨M, hM⟩ : ∃ M, 64 * n = M := ⟨_, rfl⟩
 have c2 := h.cells.2.2.1; rw [hM] at c2 ⊢; have M1 : (M : Int) ≤ 262144 := by omega
 have M0 : (0 : Int) ≤ (M : Int) := by omega
 have HRo := Z0 h.ro; have HM := Z0 hM; have HI := Z0 hI; clear h h2 hM hI; go_enter Tryz.func41, Tryz.ntmps41
 go_wp2_with fail; go_loopw [3, 4] (fun q u wr => ∃ a : Nat, q = .int .i64 (x2g (Z6 n st) a : Int) ∧ u = .int .i64 (a : Int) ∧ a ≤ M ∧ wr = w) (fun _ u _ => M - (intOf u).toNat)
 case atStart => exact ⟨0, rfl, rfl, Nat.zero_le _, rfl⟩
 case round =>
  obtain ⟨a, rfl, rfl, ab, hwr⟩ := hrel; subst hwr; have a0 : (0 : Int) ≤ (a : Int) := by omega
  by_cases ha : a < M
  ·have a1 : (a : Int) < (M : Int) := by omega
   have hm := HM.out; have d1 := HRo.out.cell (i := a * 5 + 1) (by omega); have d3 := HRo.out.cell (i := a * 5 + 2) (by omega); rw [z3g] at d1; have hmost := x2l HI.out a; obtain ⟨q, hq⟩ : ∃ q, x2g (Z6 n st) a = q := ⟨_, rfl⟩
   rw [hq] at hmost ⊢; have q0 : (0 : Int) ≤ (q : Int) := by omega
   have q1 : (q : Int) ≤ 268435456 := by omega
   cases hb : Q7 (st.O a) with
   | false =>
    rw [hb, if_neg (by simp)] at d1; have HN := Z0 (x2r HI.out hb); have HQ := Z0 hq; clear hb d3 hm hmost hq; go_wp2_with fail; exact ⟨⟨a + 1, by rw [HN.out, HQ.out], by congr 1, by omega, by trivial⟩, by simp [intOf] <;> omega⟩
   | true =>
    obtain ⟨o0, o1, o2, o3, o4⟩ := q2o (st := st) hb; rw [hb, if_pos rfl] at d1; rw [o2] at d3; obtain ⟨k, hk⟩ : ∃ k, (st.O a).1 = k := ⟨_, rfl⟩
    obtain ⟨z, hz⟩ : ∃ z, (st.O a).2.1 = z := ⟨_, rfl⟩
    have hfz := J8 (HI.out.objs a hb).2.1; have hyes := x2p HI.out hb; rw [hk] at d1; rw [hz] at d3 hfz hyes; have hk0 : k ≠ 0 := by unfold Q7 at hb; rw [hk] at hb; simpa using hb
    have hkb : (k != 0) = true := by simpa using hk0
    have HRm := Z0 (fun w => z6y hfz.2.2.1 hfz.2.2.2 w); obtain ⟨r, hr⟩ : ∃ r, J3 z = r := ⟨_, rfl⟩
    have r1 : (r : Int) ≤ 1024 := by
     rw [← hr]; unfold J3; split
     ·omega
     ·have hs := W9 hfz.2.2.1 (by omega); have := z4l hs.1 hs.2.1; omega
    have r0 : (0 : Int) ≤ (r : Int) := by omega
    rw [hr] at HRm hyes; rw [hq] at hyes; have HN := Z0 hyes; clear hb hk hz hm hmost hq hyes hfz hr o0 o1 o2 o3 o4; go_wp2_with (go_at_call 83; refine Z5 (HRm.out _) ?_); exact ⟨⟨a + 1, by rw [HN.out]; push_cast; rfl, by congr 1, by omega, by trivial⟩, by simp [intOf] <;> omega⟩
  ·have e : a = M := by omega
   subst e; go_wp2; go_ret; exact ⟨rfl, rfl⟩
end
section
variable {B : Nat} {w w' : World} {q : Pr} {st : Sp} {col : Nat → Nat} {c : Nat}
theorem z2e (h : PQ B w q st col true c) {e : Ending} (g : e = .returned (.bool true) ∧ Out 0 0 w w') : e = .returned (.bool true) ∧ ∃ st' col', PQ B w' q st' col' true (c + 3) ∧ GX q col col' w w' :=
 ⟨g.1, st, col, PQ.mono ⟨h.1.quiet g.2, h.2⟩ (by omega), GX.of_fix ((Fix.refl _ _).out g.2)⟩
end
section
variable {B : Nat} {w w' : World} {q : Pr} {st st' : Sp} {col col' : Nat → Nat} {c : Nat}
theorem x2s (h : PQ B w q st col true c) {e : Ending} (g : e = .returned (.bool true) ∧ ∃ col', PS B w' q.b q.lo q.m q.m q.b q.s q.sr q.n q.cap q.cw q.co st col' true (c + 2) ∧ Fix col col' w w') : e = .returned (.bool true) ∧ ∃ st' col', PQ B w' q st' col' true (c + 3) ∧ GX q col col' w w' := by
 obtain ⟨e1, col', P, f⟩ := g; exact ⟨e1, st, col', PQ.mono (c := c + 2) ⟨P, by have := h.2; omega⟩ (by omega), GX.of_fix f⟩
end
section
variable {B : Nat} {w w' : World} {b lo hi lo' hi' n cap cw co c c' : Nat} {s sr : Nat → Nat} {st : Sp} {col col' : Nat → Nat} {z z' : Bool}
theorem x2k (h : PS B w b lo hi lo' hi' s sr n cap cw co st col z c) {v : Nat} (hv : x2v n (x2g (Z6 n st) (64 * n)) = some v) (hvv : FloatKind.f64.format.order v v = some .eq) (o0 o2 o3 o4 : Int) (lp : Option Addr) (ll lc : Nat) : Calls Tryz.prog 10 #[.pointer (some ⟨b, 0, none⟩), .agg #[.int .i64 o0, .int .i64 19, .int .i64 o2, .int .i64 o3, .int .i64 o4, .slice lp ll lc]] w fun e w' => e = .returned (.bool true) ∧ Out 0 0 w w' := by
 obtain ⟨X, hX⟩ : ∃ X, s 14 = X := ⟨_, rfl⟩
 obtain ⟨Y, hY⟩ : ∃ Y, sr 0 = Y := ⟨_, rfl⟩
 obtain ⟨u, hu⟩ : ∃ u, x2g (Z6 n st) (64 * n) = u := ⟨_, rfl⟩
 obtain ⟨M, hM⟩ : ∃ M, 64 * n = M := ⟨_, rfl⟩
 have HW : Hid (∀ W, Out 0 0 w W → Calls Tryz.prog 15 #[.pointer (some ⟨X, 0, none⟩)] W fun e w' => e = .returned (.int .i64 (M : Int)) ∧ Out 0 0 W w') := fun W o => by
  have q := z3r (h.sp.quiet o).1; rw [hX, hM] at q; exact q.mono fun e w' ⟨h1, h2⟩ => ⟨h1, h2 ▸ Out.refl 0 0 _⟩
 have HU : Hid (∀ W, Out 0 0 w W → Calls Tryz.prog 40 #[.pointer (some ⟨X, 0, none⟩)] W fun e w' => e = .returned (.float .f64 v) ∧ Out 0 0 W w') := fun W o => by
  have q := x2u (h.sp.quiet o).1 (B7 st) (z3i h.sp.2) hv; rw [hX] at q; exact q
 have HR : Hid (∀ W, Out 0 0 w W → Calls Tryz.prog 41 #[.pointer (some ⟨Y, 0, none⟩)] W fun e w' => e = .returned (.int .i64 (u : Int)) ∧ Out 0 0 W w') := fun W o => by
  have q := x2i (h.rf.quiet o) h.sp.2; rw [hY, hu] at q; exact q.mono fun e w' ⟨h1, h2⟩ => ⟨h1, h2 ▸ Out.refl 0 0 _⟩
 obtain ⟨p0, p1⟩ := h.ks.cells; have p2 := h.rf.cells.1; rw [hX] at p0; rw [hY] at p1 p2; rw [hM] at p2; have hv2 : floatBits .quo .f64 (floatOfInt .f64 (u : Int)) (floatOfInt .f64 (M : Int)) = some v := by
  rw [← hM, show ((64 * n : Nat) : Int) = 64 * (n : Int) from by omega, ← hu]; exact hv
 have hdv : ∀ wx, (binOp .quo 75 (.float .f64 (floatOfInt .f64 (u : Int))) (.float .f64 (floatOfInt .f64 (M : Int)))).run Tryz.prog wx = .ok (.float .f64 v) wx := fun wx => run_float_arith wx _ _ _ _ _ _ hv2
 have hbe : (FloatKind.f64.format.order v v == some Ordering.eq) = true := by rw [hvv]; rfl
 clear h hX hY hv hu hM hv2; go_enter Tryz.func10, Tryz.ntmps10
 go_wp2_with fail; obtain ⟨W, hW⟩ : ∃ W, w.alloc (.cells #[.int .i64 o0, .int .i64 19, .int .i64 o2, .int .i64 o3, .int .i64 o4, .slice lp ll lc] 32) = W := ⟨_, rfl⟩
 have oW : Out 0 0 w W := by rw [← hW]; exact (Out.refl 0 0 _).alloc _
 replace p0 := oW.cell p0 z0; replace p1 := oW.cell p1 z0; rw [hW]; clear hW; replace p2 := oW.cell p2 z0; refine wp_region_held_drew (S := fun w' => w'.cell? ⟨b, 0, none⟩ = some (.pointer (some ⟨X, 0, none⟩)) ∧ w'.cell? ⟨b, 1, none⟩ = some (.pointer (some ⟨Y, 0, none⟩)) ∧ w'.cell? ⟨Y, 0, none⟩ = some (.slice (some ⟨sr 1, 0, none⟩) M cw) ∧ Out 0 0 w w') (by kernel_rfl) ?hS46 (fun hHeld => ?rest46)
 case hS46 => exact ⟨p0, p1, p2, oW.drew⟩
 refine tk 0 ?_; refine tk 1 ?_; refine tk 2 ?_; refine tk 3 ?_; refine tk 5 ?_; refine tk 6 ?_; refine tk 7 ?_; refine tk 8 ?_; refine tk 9 ?_; refine tk 10 ?_; refine tk 11 ?_; refine tk 12 ?_; refine rd1 4 fun KK hK => ?_
 simp only [xa, xb, xc]; go_simp; refine (HW.out _ hHeld.2.2.2).mono ?_; rintro e V1 ⟨rfl, q1⟩; refine hK.out _ _ ?hS59 (fun hHeld2 => ?rest59)
 case hS59 => exact ⟨q1.cell hHeld.1 z0, q1.cell hHeld.2.1 z0, q1.cell hHeld.2.2.1 z0, hHeld.2.2.2.trans q1⟩
 clear hK KK; replace hHeld := hHeld2; clear hHeld2; refine tk 13 ?_; refine tk 14 ?_; refine tk 15 ?_; refine tk 16 ?_; refine tk 17 ?_; refine tk 18 ?_; refine tk 20 ?_; refine tk 21 ?_; refine tk 22 ?_; refine tk 23 ?_; refine tk 26 ?_; refine tk 27 ?_; refine tk 28 ?_; refine tk 29 ?_; refine tk 30 ?_; refine tk 31 ?_; refine tk 32 ?_; refine tk 33 ?_; refine tk 34 ?_; refine rd1 19 fun KK hK => ?_
 simp only [xa, xb, xc]; go_simp; refine (HU.out _ hHeld.2.2.2).mono ?_; rintro e V2 ⟨rfl, q2⟩; refine hK.out _ _ ?hS79 (fun hHeld2 => ?rest79)
 case hS79 => exact ⟨q2.cell hHeld.1 z0, q2.cell hHeld.2.1 z0, q2.cell hHeld.2.2.1 z0, hHeld.2.2.2.trans q2⟩
 clear hK KK; replace hHeld := hHeld2; clear hHeld2; refine rd1 24 fun KK hK => ?_
 simp only [xa, xb, xc]; go_simp; refine (HR.out _ hHeld.2.2.2).mono ?_; rintro e V3 ⟨rfl, q3⟩; refine hK.out _ _ ?hS80 (fun hHeld2 => ?rest80)
 case hS80 => exact ⟨q3.cell hHeld.1 z0, q3.cell hHeld.2.1 z0, q3.cell hHeld.2.2.1 z0, hHeld.2.2.2.trans q3⟩
 clear hK KK; replace hHeld := hHeld2; clear hHeld2; refine tk 25 ?_; refine tk 35 ?_; refine tk 36 ?_; refine tk 37 ?_; refine tk 38 ?_; refine dn ?_; have hE := hHeld.2.2.2; clear hHeld; go_wp2; go_ret; exact ⟨rfl, hE⟩
end
theorem x2j {n : Nat} {r : Raw} (hR : q7x n r) : ∀ p e, (∀ a b, a < p → r.P a = true → r.M (a : Int) = some b → a + J3 b.2.1 ≤ e) → x2g r p ≤ e
 | 0, e, _ => Nat.zero_le _
 | p + 1, e, h => by
  cases hP : r.P p with
  | false =>
   rw [x2o (p := p) (by omega) (fun j j1 j2 => by rw [show j = p from by omega]; exact hP)]; exact x2j hR p e fun a b ha => h a b (by omega)
  | true =>
   cases hM : r.M (p : Int) with
   | none =>
    have := x2j hR p e fun a b ha => h a b (by omega)
    conv => lhs; unfold x2g
    rw [hP, hM]; exact this
   | some b =>
    rw [x2n hP hM]; have h1 := h p b (by omega) hP hM; have h2 := x2j hR p p (fun a b' ha hPa hMa => (hR a b' hPa hMa).2.2.2 p ha hP); omega
theorem us1 : ((List.range 65).all fun u => x2h 1 u) = true := by decide +kernel
theorem us2 : ((List.range 129).all fun u => x2h 2 u) = true := by decide +kernel
theorem us3 : ((List.range 193).all fun u => x2h 3 u) = true := by decide +kernel
theorem us4 : ((List.range 257).all fun u => x2h 4 u) = true := by decide +kernel
theorem us5 : ((List.range 321).all fun u => x2h 5 u) = true := by decide +kernel
theorem us6 : ((List.range 385).all fun u => x2h 6 u) = true := by decide +kernel
theorem us7 : ((List.range 449).all fun u => x2h 7 u) = true := by decide +kernel
theorem us8 : ((List.range 513).all fun u => x2h 8 u) = true := by decide +kernel
theorem us9 : ((List.range 577).all fun u => x2h 9 u) = true := by decide +kernel
theorem us10 : ((List.range 641).all fun u => x2h 10 u) = true := by decide +kernel
theorem us11 : ((List.range 705).all fun u => x2h 11 u) = true := by decide +kernel
theorem us12 : ((List.range 769).all fun u => x2h 12 u) = true := by decide +kernel
theorem us13 : ((List.range 833).all fun u => x2h 13 u) = true := by decide +kernel
theorem us14 : ((List.range 897).all fun u => x2h 14 u) = true := by decide +kernel
theorem us15 : ((List.range 961).all fun u => x2h 15 u) = true := by decide +kernel
theorem us16 : ((List.range 1025).all fun u => x2h 16 u) = true := by decide +kernel
theorem us17 : ((List.range 1089).all fun u => x2h 17 u) = true := by decide +kernel
theorem us18 : ((List.range 1153).all fun u => x2h 18 u) = true := by decide +kernel
theorem us19 : ((List.range 1217).all fun u => x2h 19 u) = true := by decide +kernel
theorem us20 : ((List.range 1281).all fun u => x2h 20 u) = true := by decide +kernel
theorem us21 : ((List.range 1345).all fun u => x2h 21 u) = true := by decide +kernel
theorem us22 : ((List.range 1409).all fun u => x2h 22 u) = true := by decide +kernel
theorem us23 : ((List.range 1473).all fun u => x2h 23 u) = true := by decide +kernel
theorem us24 : ((List.range 1537).all fun u => x2h 24 u) = true := by decide +kernel
theorem x2q {n : Nat} (h1 : 1 ≤ n) (h2 : n ≤ 24) : ((List.range (64 * n + 1)).all fun u => x2h n u) = true := by
 have h : n = 1 ∨ n = 2 ∨ n = 3 ∨ n = 4 ∨ n = 5 ∨ n = 6 ∨ n = 7 ∨ n = 8 ∨ n = 9 ∨ n = 10 ∨ n = 11 ∨ n = 12 ∨ n = 13 ∨ n = 14 ∨ n = 15 ∨ n = 16 ∨ n = 17 ∨ n = 18 ∨ n = 19 ∨ n = 20 ∨ n = 21 ∨ n = 22 ∨ n = 23 ∨ n = 24 := by omega
 rcases h with rfl | rfl | rfl | rfl | rfl | rfl | rfl | rfl | rfl | rfl | rfl | rfl | rfl | rfl | rfl | rfl | rfl | rfl | rfl | rfl | rfl | rfl | rfl | rfl
 ·exact us1
 ·exact us2
 ·exact us3
 ·exact us4
 ·exact us5
 ·exact us6
 ·exact us7
 ·exact us8
 ·exact us9
 ·exact us10
 ·exact us11
 ·exact us12
 ·exact us13
 ·exact us14
 ·exact us15
 ·exact us16
 ·exact us17
 ·exact us18
 ·exact us19
 ·exact us20
 ·exact us21
 ·exact us22
 ·exact us23
 ·exact us24
theorem x2t {n u : Nat} (h1 : 1 ≤ n) (h2 : n ≤ 24) (hu : u ≤ 64 * n) : ∃ v, x2v n u = some v ∧ FloatKind.f64.format.order v v = some .eq := by
 have h3 := x2q h1 h2; rw [List.all_eq_true] at h3; have h4 : x2h n u = true := h3 u (by simp; omega); unfold x2h at h4; cases e : x2v n u with
 | none => rw [e] at h4; cases h4
 | some v => rw [e] at h4; exact ⟨v, rfl, by simpa using h4⟩
theorem look_dumps : z7g 19 20 := fun B w q st col c o0 k a b' d lp lc l h hc k1 k2 ha hb hl hg hn hx => by
 have hk : k = 19 ∨ k = 20 := by omega
 rcases hk with rfl | rfl
 ·have hR := z3i h.1.sp.2; obtain ⟨v, v1, v2⟩ := x2t h.1.sp.2.n1 h.1.le.2.2 (x2j hR (64 * q.n) (64 * q.n) fun a b _ ha hb => (hR a b ha hb).2.2.1); exact (x2k h.1 v1 v2 o0 a b' d lp l.length lc).mono fun e w' g => z2e h g
 ·exact (z5q h.1 (by omega) o0 a b' d lp l.length lc).mono fun e w' g => x2s h g
end Go.Proofs.YtjbbkeoolodeaabGreatDoor
