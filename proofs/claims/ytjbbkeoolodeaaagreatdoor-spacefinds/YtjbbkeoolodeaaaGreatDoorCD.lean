import Derived.Test.YtjbbkeoolodeaaaGreatDoorC08
import Derived.Test.YtjbbkeoolodeaaaGreatDoorC29
import Derived.Test.YtjbbkeoolodeaaaGreatDoorC38
import Derived.Test.YtjbbkeoolodeaaaGreatDoorC21
import Derived.Test.YtjbbkeoolodeaaaGreatDoorC44
import Derived.Test.YtjbbkeoolodeaaaGreatDoorC36
import Derived.Test.YtjbbkeoolodeaaaGreatDoorC40
import Derived.Test.YtjbbkeoolodeaaaGreatDoorC31
import Derived.Test.YtjbbkeoolodeaaaGreatDoorC45
import Derived.Test.YtjbbkeoolodeaaaGreatDoorC13
import Derived.Test.YtjbbkeoolodeaaaGreatDoorC07
namespace Go.Proofs.YtjbbkeoolodeaaaGreatDoor
open Go.RowKit
set_option linter.unusedVariables false
set_option maxRecDepth 100000
set_option maxHeartbeats 16000000
set_option linter.unusedSimpArgs false
section
variable {w : World} {lo hi n cap : Nat} {s : Nat → Nat} {r : Raw}
theorem RawAt.find (h : RawAt w lo hi s n cap r) (c : Bool) (a : Int) : (Instr.lookup 82 (.map (some (s 13))) (.int .i64 a) c).run Tryz.prog w =
  .ok (if c then .tuple #[(j2t r.R a).getD (.int .i64 0), .bool (j2t r.R a).isSome] else (j2t r.R a).getD (.int .i64 0)) w :=
 j8j c Tryz.underlying82 Tryz.underlying3 (j4j w) h.sers a
theorem V0 (h : RawAt w lo hi s n cap r) (a : Int) : Calls Tryz.prog 26 #[.pointer (some ⟨s 14, 0, none⟩), .int .i64 a] w fun e w' => e = .returned (.tuple #[.int .i64 ((r.R a).getD 0), .bool (r.R a).isSome]) ∧ w' = w := by
 obtain ⟨c0, c1, c2, c3, c4, c5⟩ := h.cells; have hl := h.find true a; cases hm : r.R a with
 | some v =>
  have e1 : j2t r.R a = some (.int .i64 v) := by unfold j2t; rw [hm]; rfl
  rw [e1] at hl; simp only [Option.getD_some, Option.isSome_some, if_true] at hl ⊢; clear h e1 hm; go_enter Tryz.func26, Tryz.ntmps26
  go_wp2_with (go_at_call 44; refine Z5 (z0f _ _) ?_); go_ret2; exact ⟨rfl, rfl⟩
 | none =>
  have e1 : j2t r.R a = none := by unfold j2t; rw [hm]; rfl
  rw [e1] at hl; simp only [Option.getD_none, Option.isSome_none, if_true] at hl ⊢; clear h e1 hm; go_enter Tryz.func26, Tryz.ntmps26
  go_wp2_with (go_at_call 44; refine Z5 (z0f _ _) ?_); go_ret2; exact ⟨rfl, rfl⟩
end
def Z4 (st : Sp) (x : Int) (a : Nat) : Bool := Q7 (st.O a) && ((st.O a).2.2.1 == x)
theorem K9 (n : Nat) (st : Sp) (x : Int) : q2e n st x = if 1 ≤ x then (List.range (64 * n)).find? (Z4 st x) else none := rfl
section
variable {w : World} {lo hi n cw co : Nat} {s : Nat → Nat} {st : Sp}
theorem X6 (h : RfAt w lo hi s n cw co st) (x : Int) : Calls Tryz.prog 27 #[.pointer (some ⟨s 0, 0, none⟩), .int .i64 x] w fun e w' => e = .returned (.tuple #[.int .i64 ((q2m n st x).getD 0), .bool (q2m n st x).isSome]) ∧ w' = w := by
 have h2 := h.n2; obtain ⟨M, hM⟩ : ∃ M, 64 * n = M := ⟨_, rfl⟩
 have c2 := h.cells.2.2.1; rw [hM] at c2; have M1 : (M : Int) ≤ 262144 := by omega
 have M0 : (0 : Int) ≤ (M : Int) := by omega
 have HRo := Z0 h.ro; have HM := Z0 hM; clear h h2 hM; go_enter Tryz.func27, Tryz.ntmps27
 go_wp2_with fail; go_loopw [6] (fun u wr => ∃ a : Nat, u = .int .i64 (a : Int) ∧ a ≤ M ∧ (1 ≤ x → ∀ j, j < a → Z4 st x j = false) ∧ wr = w) (fun u _ => M - (intOf u).toNat)
 case atStart => exact ⟨0, rfl, Nat.zero_le _, fun _ j hj => by omega, rfl⟩
 case round =>
  obtain ⟨a, rfl, ab, hno, hwr⟩ := hrel; subst hwr; have a0 : (0 : Int) ≤ (a : Int) := by omega
  have HNo := Z0 hno; clear hno; by_cases ha : a < M
  ·have a1 : (a : Int) < (M : Int) := by omega
   have hm := HM.out; have d1 := HRo.out.cell (i := a * 5 + 1) (by omega); have d3 := HRo.out.cell (i := a * 5 + 3) (by omega); rw [z3g] at d1; cases hb : Q7 (st.O a) with
   | false =>
    rw [hb, if_neg (by simp)] at d1; have HNx : Hid (1 ≤ x → ∀ j, j < a + 1 → Z4 st x j = false) := fun h1 j hj => by
     by_cases e : j = a
     ·rw [e]; unfold Z4; rw [hb]; rfl
     ·exact HNo.out h1 j (by omega)
    clear hb d3 hm; go_wp2_with fail; exact ⟨⟨a + 1, by congr 1, by omega, HNx.out, by trivial⟩, by simp [intOf] <;> omega⟩
   | true =>
    obtain ⟨o0, o1, o2, o3, o4⟩ := q2o (st := st) hb; rw [hb, if_pos rfl] at d1; rw [o3] at d3; obtain ⟨k, hk⟩ : ∃ k, (st.O a).1 = k := ⟨_, rfl⟩
    obtain ⟨y, hy⟩ : ∃ y, (st.O a).2.2.1 = y := ⟨_, rfl⟩
    rw [hk] at d1; rw [hy] at d3; have hk0 : k ≠ 0 := by unfold Q7 at hb; rw [hk] at hb; simpa using hb
    have hkb : (k != 0) = true := by simpa using hk0
    have HB := Z0 (And.intro hb hy); clear hb hk hy o0 o1 o2 o3 o4; by_cases hx : y = x
    ·by_cases h1 : 1 ≤ x
     ·have hs : q2m n st x = some (a : Int) := by
       have hf : q2e n st x = some a := by
        rw [K9, if_pos h1]; exact z2l (by omega) (by unfold Z4; rw [HB.out.1, HB.out.2, hx]; simp) (fun q hq => HNo.out h1 q hq)
       unfold q2m; rw [hf]; rfl
      have HS := Z0 hs; clear hs hm; subst hx; go_wp2; go_ret2; exact ⟨by rw [HS.out]; rfl, rfl⟩
     ·have HNx : Hid (1 ≤ x → ∀ j, j < a + 1 → Z4 st x j = false) := fun h => absurd h h1
      clear hm; subst hx; go_wp2_with fail; exact ⟨⟨a + 1, by congr 1, by omega, HNx.out, by trivial⟩, by simp [intOf] <;> omega⟩
    ·have hxb : (y == x) = false := by simpa using hx
     have HNx : Hid (1 ≤ x → ∀ j, j < a + 1 → Z4 st x j = false) := fun h1 j hj => by
      by_cases e : j = a
      ·rw [e]; unfold Z4; rw [HB.out.2, hxb]; simp
      ·exact HNo.out h1 j (by omega)
     clear hm; go_wp2_with fail; exact ⟨⟨a + 1, by congr 1, by omega, HNx.out, by trivial⟩, by simp [intOf] <;> omega⟩
  ·have e : a = M := by omega
   subst e; have hs : q2m n st x = none := by
    have hf : q2e n st x = none := by
     rw [K9]; by_cases h1 : 1 ≤ x
     ·rw [if_pos h1]; exact z2r fun q hq => HNo.out h1 q (by have := HM.out; omega)
     ·rw [if_neg h1]
    unfold q2m; rw [hf]; rfl
   have HS := Z0 hs; clear hs; go_wp2; go_ret2; exact ⟨by rw [HS.out]; rfl, rfl⟩
end
section
variable {w w' : World} {b lo hi lo' hi' n cap cw co : Nat} {s sr : Nat → Nat} {st : Sp}
theorem Two.quiet (h : Two w b lo hi lo' hi' s sr n cap cw co st) (o : Out 0 0 w w') : Two w' b lo hi lo' hi' s sr n cap cw co st :=
 ⟨h.sp.quiet o, h.rf.quiet o, o.cell h.p0 z0, o.cell h.p1 z0⟩
end
section
variable {B : Nat} {w w' : World} {b lo hi m n cap cw co c : Nat} {s sr : Nat → Nat} {st st' : Sp} {col : Nat → Nat} {z : Bool}
theorem X2 (h : PS B w b lo m m b s sr n cap cw co st col z c) (o0 o2 o3 o4 : Int) (lp : Option Addr) (ll lc : Nat) : Calls Tryz.prog 11 #[.pointer (some ⟨b, 0, none⟩), .agg #[.int .i64 o0, .int .i64 15, .int .i64 o2, .int .i64 o3, .int .i64 o4, .slice lp ll lc]] w fun e w' => e = .returned (.bool true) ∧ Out 0 0 w w' := by
 have HP := Z0 h; obtain ⟨bo, hbo⟩ : ∃ bo, w.heap.size = bo := ⟨_, rfl⟩
 have HBo : Hid (b < bo) := by rw [← hbo]; exact h.b_lt
 clear h; go_enter Tryz.func11, Tryz.ntmps11
 go_wp2_with fail; obtain ⟨W, hW⟩ : ∃ W, w.alloc (.cells #[.int .i64 o0, .int .i64 15, .int .i64 o2, .int .i64 o3, .int .i64 o4, .slice lp ll lc] 29) = W := ⟨_, rfl⟩
 have oW : Out 0 0 w W := by rw [← hW]; exact (Out.refl 0 0 _).alloc _
 have fO : W.heap[bo]? = some (.cells #[.int .i64 o0, .int .i64 15, .int .i64 o2, .int .i64 o3, .int .i64 o4, .slice lp ll lc] 29 (0, 0)) := by rw [← hW, ← hbo]; exact heap_alloc_new _ _
 (try rw [hW]); clear hW hbo; obtain ⟨v, hv⟩ : ∃ v, (q2m n st o2).getD 0 = v := ⟨_, rfl⟩
 obtain ⟨ok, hok⟩ : ∃ v, (q2m n st o2).isSome = v := ⟨_, rfl⟩
 have HCp : Hid (∀ V, Out 0 0 w V → Calls Tryz.prog 26 #[.pointer (some ⟨s 14, 0, none⟩), .int .i64 o2] V fun e w' => e = .returned (.tuple #[.int .i64 v, .bool ok]) ∧ Out 0 0 V w') := fun V o => by
  have q := V0 (HP.out.sp.quiet o).1 o2; rw [show (Z6 n st).R = q2m n st from rfl, hv, hok] at q; exact q.mono fun e w' ⟨h1, h2⟩ => ⟨h1, h2 ▸ Out.refl 0 0 _⟩
 have HCr : Hid (∀ V, Out 0 0 w V → Calls Tryz.prog 27 #[.pointer (some ⟨sr 0, 0, none⟩), .int .i64 o2] V fun e w' => e = .returned (.tuple #[.int .i64 v, .bool ok]) ∧ Out 0 0 V w') := fun V o => by
  have q := X6 (HP.out.rf.quiet o) o2; rw [hv, hok] at q; exact q.mono fun e w' ⟨h1, h2⟩ => ⟨h1, h2 ▸ Out.refl 0 0 _⟩
 clear hv hok; obtain ⟨p0, p1⟩ := (HP.out.quiet oW).ks.cells; obtain ⟨_, x1, x2, x3, x4, x5⟩ := Y8 fO; go_wp2_with fail; refine wp_region_held_drew (S := fun w' => w'.cell? ⟨b, 0, none⟩ = some (.pointer (some ⟨s 14, 0, none⟩)) ∧ w'.cell? ⟨b, 1, none⟩ = some (.pointer (some ⟨sr 0, 0, none⟩)) ∧ w'.cell? ⟨bo, 2, none⟩ = some (.int .i64 o2) ∧ w'.cell? ⟨bo, 3, none⟩ = some (.int .i64 o3) ∧ w'.cell? ⟨bo, 4, none⟩ = some (.int .i64 o4)) (by kernel_rfl) ?hS148 (fun x' => ?rest148)
 case hS148 => exact ⟨p0, p1, x2, x3, x4⟩
 obtain ⟨Z, hZ⟩ : ∃ Z, W.drew = Z := ⟨_, rfl⟩
 have oZ : Out 0 0 W Z := by rw [← hZ]; exact (Out.refl 0 0 _).drew
 rw [hZ] at x' ⊢; clear hZ p0 p1 x1 x2 x3 x4 x5; refine tk 0 ?_; refine tk 1 ?_; refine tk 2 ?_; refine tk 3 ?_; refine tk 4 ?_; refine tk 5 ?_; refine rd1 6 fun KK hK => ?_
 simp only [xa, xb, xc]; go_simp; refine (HCp.out _ (oW.trans oZ)).mono ?_; rintro e V1 ⟨rfl, q1⟩; refine hK.out _ _ ?hS155 (fun y' => ?rest155)
 case hS155 => exact ⟨q1.cell x'.1 z0, q1.cell x'.2.1 z0, q1.cell x'.2.2.1 z0, q1.cell x'.2.2.2.1 z0, q1.cell x'.2.2.2.2 z0⟩
 clear hK KK; replace x' := y'; clear y'; refine tk 7 ?_; refine tk 8 ?_; refine tk 9 ?_; refine tk 10 ?_; refine tk 11 ?_; refine dn ?_; have oF4 := oW.trans (oZ.trans q1); obtain ⟨p0, p1, x2, x3, x4⟩ := x'; have x1 := p0; have x5 := p0; clear oZ q1; go_wp2_with fail; refine wp_region_held_drew (S := fun w' => w'.cell? ⟨b, 0, none⟩ = some (.pointer (some ⟨s 14, 0, none⟩)) ∧ w'.cell? ⟨b, 1, none⟩ = some (.pointer (some ⟨sr 0, 0, none⟩)) ∧ w'.cell? ⟨bo, 2, none⟩ = some (.int .i64 o2) ∧ w'.cell? ⟨bo, 3, none⟩ = some (.int .i64 o3) ∧ w'.cell? ⟨bo, 4, none⟩ = some (.int .i64 o4)) (by kernel_rfl) ?hS135 (fun x' => ?rest135)
 case hS135 => exact ⟨p0, p1, x2, x3, x4⟩
 obtain ⟨Z, hZ⟩ : ∃ Z, V1.drew = Z := ⟨_, rfl⟩
 have oZ : Out 0 0 V1 Z := by rw [← hZ]; exact (Out.refl 0 0 _).drew
 rw [hZ] at x' ⊢; clear hZ p0 p1 x1 x2 x3 x4 x5; refine tk 0 ?_; refine tk 1 ?_; refine tk 2 ?_; refine tk 3 ?_; refine tk 4 ?_; refine tk 5 ?_; refine rd1 6 fun KK hK => ?_
 simp only [xa, xb, xc]; go_simp; refine (HCr.out _ (oF4.trans oZ)).mono ?_; rintro e V2 ⟨rfl, q1⟩; refine hK.out _ _ ?hS142 (fun y' => ?rest142)
 case hS142 => exact ⟨q1.cell x'.1 z0, q1.cell x'.2.1 z0, q1.cell x'.2.2.1 z0, q1.cell x'.2.2.2.1 z0, q1.cell x'.2.2.2.2 z0⟩
 clear hK KK; replace x' := y'; clear y'; refine tk 7 ?_; refine tk 8 ?_; refine tk 9 ?_; refine tk 10 ?_; refine tk 11 ?_; refine dn ?_; have o5 := oF4.trans (oZ.trans q1); clear x' oZ q1; go_wp2; go_ret; exact ⟨rfl, o5⟩
end
theorem J1 {B b : Nat} {w : World} {V : Nat → Value} {X : Nat → List Value} {C : Nat → Nat → Nat × (Nat → Nat → Int)} {col : Nat → Nat} {p : Nat → Nat} {x y : Value} {n : Nat} {f : Nat → Nat → Int} {N0 N2 : Nat} {q : Bool} (h : Kp B w b V X C col none p) (hx : ElAt w x n 5 f) (hy : ElAt w y n 5 f) (hn : n ≤ 1536) (hM : (X 2).length = N0 ∧ (X 6).length = N2) (hN : N0 ≤ 100 ∧ N2 ≤ 100) (hmany : 30 < N0 + N2) :
  Calls Tryz.prog 28 #[.pointer (some ⟨b, 2, none⟩), x, y, .bool q] w fun e w' => e = .returned (.bool true) ∧ Out 0 0 w w' := by
 have HS := Z0 (z0e hx hy (by omega)); have HMany : Hid (∀ W, Out 0 0 w W → Calls Tryz.prog 64 #[.pointer (some ⟨b, 2, none⟩)] W fun e w' => e = .returned (.bool true) ∧ Out 0 0 W w') := fun W o => by
  have q := z9v (h.quiet o) hM.1 hM.2 hN; rw [show decide (30 < N0 + N2) = true from by simp; omega] at q; exact q
 clear h hx hy hn hM hN hmany; go_enter Tryz.func28, Tryz.ntmps28
 go_wp2_with fail; refine HS.out.mono ?_; rintro e w1 ⟨rfl, o1⟩; have HO := Z0 o1; clear o1; go_wp2_with fail; refine (HMany.out _ HO.out).mono ?_; rintro e w2 ⟨rfl, o2⟩; have HO2 := Z0 (HO.out.trans o2); clear o2; go_wp2; go_ret; exact ⟨rfl, HO2.out⟩
theorem X0 {B b : Nat} {w : World} {V : Nat → Value} {X : Nat → List Value} {C : Nat → Nat → Nat × (Nat → Nat → Int)} {col : Nat → Nat} {p : Nat → Nat} {x y : Value} {n : Nat} {f : Nat → Nat → Int} {N0 N2 F2 : Nat} (h : Kp B w b V X C col none p) (hx : OwnF B w 2 x n f) (hy : ElAt w y n 5 f) (hn : n ≤ 1536) (hc : ∀ g, x.ownBlock = some g → col g = 8) (hM : (X 2).length = N0 ∧ (X 6).length = N2) (hK : (X 10).length = F2 ∧ (X 13).length = F2) (hK2 : F2 ≤ 8000) (hfew : N0 + N2 ≤ 30) :
  Calls Tryz.prog 28 #[.pointer (some ⟨b, 2, none⟩), x, y, .bool false] w fun e w' => e = .returned (.bool true) ∧ MEnd B b V X C p 10 13 (F2 + 8) col w w' := by
 have HS := Z0 (z0e hx.el hy (by omega)); have HMany : Hid (∀ W, Out 0 0 w W → Calls Tryz.prog 64 #[.pointer (some ⟨b, 2, none⟩)] W fun e w' => e = .returned (.bool false) ∧ Out 0 0 W w') := fun W o => by
  have q := z9v (h.quiet o) hM.1 hM.2 (by omega); rw [show decide (30 < N0 + N2) = false from by simp; omega] at q; exact q
 have HMk : Hid (∀ W, Out 0 0 w W → Calls Tryz.prog 65 #[.pointer (some ⟨b, 2, none⟩), x] W fun e w' => e = .returned (.tuple #[]) ∧ MEnd B b V X C p 10 13 (F2 + 8) col W w') := fun W o => q2g (h.quiet o) (hx.quiet o) hn hc hK hK2
 clear h hx hy hn hM hK hK2 hfew hc; go_enter Tryz.func28, Tryz.ntmps28
 go_wp2_with fail; refine HS.out.mono ?_; rintro e w1 ⟨rfl, o1⟩; have HO := Z0 o1; clear o1; go_wp2_with fail; refine (HMany.out _ HO.out).mono ?_; rintro e w2 ⟨rfl, o2⟩; have HO2 := Z0 (HO.out.trans o2); clear o2; go_wp2_with fail; refine (HMk.out _ HO2.out).mono ?_; rintro e w3 ⟨rfl, V3, X3, col3, k1, k2, k3, k4⟩; have FIN : Hid (MEnd B b V X C p 10 13 (F2 + 8) col w w3) := ⟨V3, X3, col3, k1, k2, k3, ((Fix.refl col w).out HO2.out).trans k4⟩
 clear k1 k2 k3 k4; go_wp2; go_ret; exact ⟨rfl, FIN.out⟩
theorem Q0 {B b : Nat} {w : World} {V : Nat → Value} {X : Nat → List Value} {C : Nat → Nat → Nat × (Nat → Nat → Int)} {col : Nat → Nat} {p : Nat → Nat} {x y : Value} {N0 N2 : Nat} (h : Kp B w b V X C col none p) (hx : LeftC B w col 2 N2 x (C 2 N2).1 (C 2 N2).2) (hy : WereC w col y (C 2 N2).1 5 (C 2 N2).2) (h0 : (X 2).length = N0) (hM : (X 6).length = N2 ∧ (X 7).length = N2) (hfew : N0 + N2 ≤ 30) :
  Calls Tryz.prog 28 #[.pointer (some ⟨b, 2, none⟩), x, y, .bool true] w fun e w' => e = .returned (.bool true) ∧ ∃ V' X' col', Kp B w' b V' X' C col' none p ∧ ((X' 6).length = N2 + 1 ∧ (X' 7).length = N2 + 1) ∧ (∀ j, j ≠ 6 → j ≠ 7 → V' j = V j ∧ X' j = X j) ∧ Fix col col' w w' := by
 obtain ⟨i2, hi2, hz0, hz1, hz2⟩ := Q3 q6k; have hxo : OwnF B w 2 x (C 2 N2).1 (C 2 N2).2 := hx.1; have HS := Z0 (z0e hxo.el hy.el (by have := hx.2.1; omega)); obtain ⟨a6, c6, ex⟩ := hxo.shape; obtain ⟨a7, c7, ey, -⟩ := id hy; obtain ⟨m, hm⟩ : ∃ m, (C 2 N2).1 = m := ⟨_, rfl⟩
 rw [hm] at ex ey; subst ex ey; have HMany : Hid (∀ W, Out 0 0 w W → Calls Tryz.prog 64 #[.pointer (some ⟨b, 2, none⟩)] W fun e w' => e = .returned (.bool false) ∧ Out 0 0 W w') := fun W o => by
  have q := z9v (h.quiet o) h0 hM.1 (by omega); rw [show decide (30 < N0 + N2) = false from by simp; omega] at q; exact q
 have HK := Z0 h; have HX := Z0 (And.intro hx hy); have HM := Z0 hM; have HFew := Z0 hfew; clear h hx hy h0 hM hfew hxo hm; go_enter Tryz.func28, Tryz.ntmps28
 go_wp2_with fail; refine HS.out.mono ?_; rintro e w1 ⟨rfl, o1⟩; have HO := Z0 o1; clear o1; go_wp2_with fail; refine (HMany.out _ HO.out).mono ?_; rintro e w2 ⟨rfl, o2⟩; have HO2 := Z0 (HO.out.trans o2); clear o2; have HK2 := Z0 (HK.out.quiet HO2.out); have HX2 : Hid (LeftC B w2 col 2 N2 (.slice a6 m c6) (C 2 N2).1 (C 2 N2).2 ∧ WereC w2 col (.slice a7 m c7) (C 2 N2).1 5 (C 2 N2).2) := ⟨HX.out.1.chg (P := fun c => c = 9) (Chg.of_out HO2.out _ _) (by omega), HX.out.2.chg (P := fun c => c = 9) (Chg.of_out HO2.out _ _) (by omega)⟩
 obtain ⟨aS, capS, eS⟩ := Q8 (HK2.out.own 6 (by omega) (by omega)); have c2 := HK2.out.cell 6 (by omega); rw [HM.out.1] at eS; rw [eS] at c2; have HE1 := Z0 eS; have HL1 := Z0 HM.out.1; clear eS; go_wp2_with (at_builtin; refine B6 _ rfl _ _ 44 rfl B 62 i2 (.slice none 0 0) 1 24 Tryz.underlying44 hi2 hz0 hz1 hz2 rfl (by decide) _ N2 (X 6) rfl (by have q := X8 (HK2.out.own 6 (by omega) (by omega)) ((Out.refl 0 0 _).alloc (.cells #[.slice a6 m c6] 62)) (Nat.zero_le _); rw [HE1.out, HL1.out] at q; exact q) ⟨w2.heap.size, 0, none⟩ 1 1 [.slice a6 m c6] rfl rfl (J9 _ _ _) (z1v _ rfl) (by decide) ?c3 ?c4 ?c5 ?_)
 case c3 => unfold maxLen; have := HFew.out; omega
 case c4 => have := HFew.out; omega
 case c5 => have := HK2.out.hB; simp; omega
 intro g1 cp1 wA1 own1 gr1; have own1' : wA1.ownsRow B (tyS 6) 1 (.slice (some ⟨g1, 0, none⟩) ((X 6).length + 1) cp1) ((X 6).length + 1) (X 6 ++ [.slice a6 m c6]) := by rw [HL1.out]; exact own1
 have gr1' : z5o (w2.alloc (.cells #[.slice a6 m c6] 62)) wA1 (V 6) g1 := by rw [HE1.out]; exact gr1.grew
 obtain ⟨hb1, V1, X1, col1, k1, k2, k3, k4, k5, k6⟩ := HK2.out.push (i := 6) (by omega) (by omega) ((Out.refl 0 0 _).alloc _) own1' gr1' (fun t ht e hp => by
  obtain rfl : t = 2 := by omega
  rw [HL1.out]; exact HX2.out.1) (fun t ht e => by omega) (fun t ht e => by omega) (fun t ht e => by omega)
 have d2 := G4 hb1 (i := 6) (by omega); have df := G7 hb1 6; rw [HE1.out] at d2; rw [HL1.out] at k1 k4 k6; obtain ⟨M1, hM1⟩ : ∃ M1, N2 + 1 = M1 := ⟨_, rfl⟩
 rw [hM1] at k1 k4 k6 ⊢; have HM1 := Z0 hM1; obtain ⟨W2, hW2⟩ : ∃ W2, wA1.setCell ⟨b, 6, none⟩ (.slice (some ⟨g1, 0, none⟩) M1 cp1) = W2 := ⟨_, rfl⟩
 rw [hW2] at k4 k6; obtain ⟨aT, capT, eT⟩ := Q8 (HK2.out.own 7 (by omega) (by omega)); rw [HM.out.2] at eT; have e3 := k4.cell 7 (by omega); rw [(k3 7 (by omega)).1, eT] at e3; have HK3 := Z0 k4; have HE2 : Hid (V1 7 = .slice aT N2 capT) := (k3 7 (by omega)).1.trans eT; have HL2 : Hid ((X1 7).length = N2) := by show (X1 7).length = N2; rw [(k3 7 (by omega)).2]; exact HM.out.2
 have HR := Z0 (And.intro k2 (And.intro k3 (And.intro k5 k6))); clear own1 gr1 own1' gr1' hb1 k1 k2 k3 k4 k5 k6 eT hM1; go_wp2_with (at_builtin; refine B6 _ rfl _ _ 44 rfl B 62 i2 (.slice none 0 0) 1 24 Tryz.underlying44 hi2 hz0 hz1 hz2 rfl (by decide) _ N2 (X1 7) rfl (by have q := X8 (HK3.out.own 7 (by omega) (by omega)) ((Out.refl 0 0 _).alloc (.cells #[.slice a7 m c7] 62)) (Nat.zero_le _); rw [HE2.out, HL2.out] at q; exact q) ⟨W2.heap.size, 0, none⟩ 1 1 [.slice a7 m c7] rfl rfl (J9 _ _ _) (z1v _ rfl) (by decide) ?c3 ?c4 ?c5 ?_)
 case c3 => unfold maxLen; have := HFew.out; omega
 case c4 => have := HFew.out; omega
 case c5 => have := HK3.out.hB; simp; omega
 intro g2 cp2 wA2 own1 gr1; have own1' : wA2.ownsRow B (tyS 7) 1 (.slice (some ⟨g2, 0, none⟩) ((X1 7).length + 1) cp2) ((X1 7).length + 1) (X1 7 ++ [.slice a7 m c7]) := by rw [HL2.out]; exact own1
 have gr1' : z5o (W2.alloc (.cells #[.slice a7 m c7] 62)) wA2 (V1 7) g2 := by rw [HE2.out]; exact gr1.grew
 obtain ⟨hb2, V3, X3, col3, r1, r2, r3, r4, r5, r6⟩ := HK3.out.push (i := 7) (by omega) (by omega) ((Out.refl 0 0 _).alloc _) own1' gr1' (fun t ht e hp => by omega) (fun t ht e => by
  obtain rfl : t = 2 := by omega
  rw [HL2.out]; exact HX2.out.2.pushed HR.out.2.2.1 (by omega) HR.out.2.2.2) (fun t ht e => by omega) (fun t ht e => by omega)
 have f3 := G4 hb2 (i := 7) (by omega); have ff := G7 hb2 7; rw [HE2.out] at f3; rw [HL2.out] at r4 r6; rw [HM1.out] at r4 r6 ⊢; obtain ⟨W4, hW4⟩ : ∃ W4, wA2.setCell ⟨b, 7, none⟩ (.slice (some ⟨g2, 0, none⟩) M1 cp2) = W4 := ⟨_, rfl⟩
 rw [hW4] at r4 r6; have FIN : Hid (∃ V' X' col', Kp B W4 b V' X' C col' none p ∧ ((X' 6).length = N2 + 1 ∧ (X' 7).length = N2 + 1) ∧ (∀ j, j ≠ 6 → j ≠ 7 → V' j = V j ∧ X' j = X j) ∧ Fix col col' w W4) := by
  obtain ⟨y2, y3, y5, y6⟩ := HR.out; refine ⟨V3, X3, col3, r4, ⟨?_, ?_⟩, fun j j6 j7 => ⟨(r3 j j7).1.trans (y3 j j6).1, (r3 j j7).2.trans (y3 j j6).2⟩, ((((Fix.refl col w).out HO2.out).trans (Fix.of y6 (by omega) fun k hk h7 => by rw [y5 k hk]; exact h7)).trans (Fix.of r6 (by omega) fun k hk h7 => by rw [r5 k hk]; exact h7))⟩
  ·rw [(r3 6 (by omega)).2, y2, List.length_append, HM.out.1]; rfl
  ·rw [r2, List.length_append, HL2.out]; rfl
 clear own1 gr1 own1' gr1' hb2 r1 r2 r3 r4 r5 r6 hW2 c2 d2 df e3; go_wp2; go_ret; exact ⟨rfl, FIN.out⟩
theorem Z3 {B b n c : Nat} {st : Sp} {v0 v1 : Value} {col : Nat → Nat} {z : Bool} {w0 w1 w : World} {vb vb' : Value} (h : KS B w0 b v0 v1 col z c) (hc : c ≤ 900) (o1 : Out 0 0 w0 w1) (o2 : Out 0 0 w1 w)
  (d1 : F8 w1 w0.heap.size vb (J5 (Z6 n st) (64 * n))) (d2 : F8 w w1.heap.size vb' (J5 (Z6 n st) (64 * n))) (hn : n ≤ 24) (q : Bool) :
  Calls Tryz.prog 28 #[.pointer (some ⟨b, 2, none⟩), vb, vb', .bool q] w fun e w' => e = .returned (.bool true) ∧ ∃ col', KS B w' b v0 v1 col' z (c + 1) ∧ Fix col col' w0 w' := by
 obtain ⟨V, X, C, p, N0, N2, F0, F1, F2, k1, k2, k3, k4, k5⟩ := h; have hBB := k1.hB; have s1 := o1.size; have s2 := o2.size; have hlen := z4o (Z6 n st) (64 * n); obtain ⟨L, hL⟩ : ∃ L, J5 (Z6 n st) (64 * n) = L := ⟨_, rfl⟩
 rw [hL] at d1 d2 hlen; unfold F8 at d1 d2; have d1' := X8 d1 o2 (Nat.zero_le _); have A2 : OwnF B w 2 vb L.length (fO L) := ⟨_, z3d d1' hBB, fun j i hj hi => j6q _ j i hj hi⟩
 have B2 : OwnF B w 2 vb' L.length (fO L) := ⟨_, z3d d2 (by omega), fun j i hj hi => j6q _ j i hj hi⟩
 have b5 := fun g hg => Z8 d1 g hg
 have b10 := fun g hg => Z8 d2 g hg
 have oo : Out 0 0 w0 w := o1.trans o2; have hl6 : L.length ≤ 1536 := by omega
 obtain ⟨⟨q2, q3, q4, q5, q6, q7⟩, q8, q9, q10⟩ := id k2; by_cases hm : 30 < N0 + N2
 ·refine (J1 (k1.quiet oo) A2.el B2.el hl6 ⟨q2, q6⟩ (by omega) hm).mono ?_; rintro e w' ⟨rfl, ho⟩; exact ⟨rfl, col, ⟨V, X, C, p, N0, N2, F0, F1, F2, (k1.quiet oo).quiet ho, k2, by omega, k4, k5⟩, ((Fix.refl col w0).out oo).out ho⟩
 ·have hfew : N0 + N2 ≤ 30 := by omega
  cases q with
  | false =>
   obtain ⟨colN, hcN⟩ : ∃ cN : Nat → Nat, cN = fun y => if vb.ownBlock = some y then 8 else col y := ⟨_, rfl⟩
   have hag : ∀ y, y < w0.heap.size → colN y = col y := fun y hy => by
    rw [hcN]; exact if_neg (fun e => by have := (b5 y e).1; omega)
   have kk : Kp B w b V X C colN none p := (k1.recol fun y hy _ => hag y hy).quiet oo; refine (X0 kk A2 B2.el hl6 (fun g hg => by rw [hcN]; exact if_pos hg) ⟨q2, q6⟩ q10 (by omega) hfew).mono ?_; rintro e w' ⟨rfl, V', X', col', r1, r2, r3, r4⟩; refine ⟨rfl, col', ⟨V', X', C, p, N0, N2, F0, F1, F2 + 8, r1, ⟨⟨?_, ?_, ?_, ?_, ?_, ?_⟩, ?_, ?_, r2⟩, by omega, by rw [(r3 0 (by omega) (by omega)).1, (r3 1 (by omega) (by omega)).1]; exact k4, k5⟩, ?_⟩
   ·rw [(r3 2 (by omega) (by omega)).2]; exact q2
   ·rw [(r3 3 (by omega) (by omega)).2]; exact q3
   ·rw [(r3 4 (by omega) (by omega)).2]; exact q4
   ·rw [(r3 5 (by omega) (by omega)).2]; exact q5
   ·rw [(r3 6 (by omega) (by omega)).2]; exact q6
   ·rw [(r3 7 (by omega) (by omega)).2]; exact q7
   ·rw [(r3 8 (by omega) (by omega)).2, (r3 11 (by omega) (by omega)).2]; exact q8
   ·rw [(r3 9 (by omega) (by omega)).2, (r3 12 (by omega) (by omega)).2]; exact q9
   ·exact (((Fix.refl col w0).re (c2 := colN) fun k hk h7 => by rw [hag k hk]; exact h7).out oo).trans r4
  | true =>
   obtain ⟨C', hC'⟩ : ∃ C' : Nat → Nat → Nat × (Nat → Nat → Int), C' = fun t i => if t = 2 ∧ i = N2 then (L.length, fO L) else C t i := ⟨_, rfl⟩
   have hCM : C' 2 N2 = (L.length, fO L) := by rw [hC']; exact if_pos ⟨rfl, rfl⟩
   obtain ⟨colN, hcN⟩ : ∃ cN : Nat → Nat, cN = fun y => if vb.ownBlock = some y then 100 + 3 * N2 + 2 else if w1.heap.size ≤ y then 6 else col y := ⟨_, rfl⟩
   have hag : ∀ y, y < w0.heap.size → colN y = col y := fun y hy => by
    rw [hcN]
    show (if vb.ownBlock = some y then _ else if w1.heap.size ≤ y then 6 else col y) = col y
    rw [if_neg (fun e => by have := (b5 y e).1; omega), if_neg (by omega)]
   have kk : Kp B w b V X C' colN none p := ((k1.setC (C' := C') fun t i ht hi => by
    rw [hC']; refine if_neg (fun e => ?_); obtain ⟨e1, e2⟩ := e; subst e1; rw [show 2 + 2 * 2 = 6 from rfl, show 3 + 2 * 2 = 7 from rfl] at hi; omega).recol fun y hy _ => hag y hy).quiet oo
   have c6 : ∀ y, w1.heap.size ≤ y → colN y = 6 := fun y hy => by
    rw [hcN]
    show (if vb.ownBlock = some y then _ else if w1.heap.size ≤ y then 6 else col y) = 6
    rw [if_neg (fun e => by have := (b5 y e).2; omega), if_pos hy]
   have hlf : LeftC B w colN 2 N2 vb (C' 2 N2).1 (C' 2 N2).2 := by
    rw [hCM]; exact ⟨A2, hl6, fun g hg => by rw [hcN]; exact if_pos hg⟩
   have hwr : WereC w colN vb' (C' 2 N2).1 5 (C' 2 N2).2 := by
    rw [hCM]; obtain ⟨a, cap, rfl⟩ := B2.shape; refine ⟨a, cap, rfl, fun h0 => ?_⟩; obtain ⟨g, cap', e, e2, e3, _, e4⟩ := B2.open h0; cases e; exact ⟨g, rfl, e3, c6 g (b10 g rfl).1, e4⟩
   refine (Q0 kk hlf hwr q2 ⟨q6, q7⟩ hfew).mono ?_; rintro e w' ⟨rfl, V', X', col', r1, r2, r3, r4⟩; refine ⟨rfl, col', ⟨V', X', C', p, N0, N2 + 1, F0, F1, F2, r1, ⟨⟨?_, ?_, ?_, ?_, r2.1, r2.2⟩, ?_, ?_, ?_⟩, by omega, by rw [(r3 0 (by omega) (by omega)).1, (r3 1 (by omega) (by omega)).1]; exact k4, k5⟩, ?_⟩
   ·rw [(r3 2 (by omega) (by omega)).2]; exact q2
   ·rw [(r3 3 (by omega) (by omega)).2]; exact q3
   ·rw [(r3 4 (by omega) (by omega)).2]; exact q4
   ·rw [(r3 5 (by omega) (by omega)).2]; exact q5
   ·rw [(r3 8 (by omega) (by omega)).2, (r3 11 (by omega) (by omega)).2]; exact q8
   ·rw [(r3 9 (by omega) (by omega)).2, (r3 12 (by omega) (by omega)).2]; exact q9
   ·rw [(r3 10 (by omega) (by omega)).2, (r3 13 (by omega) (by omega)).2]; exact q10
   ·exact (((Fix.refl col w0).re (c2 := colN) fun k hk h7 => by rw [hag k hk]; exact h7).out oo).trans r4
section
variable {B : Nat} {w w' : World} {b lo hi lo' hi' n cap cw co c c' : Nat} {s sr : Nat → Nat} {st : Sp} {col col' : Nat → Nat} {z z' : Bool}
theorem X4 (h : PS B w b lo hi lo' hi' s sr n cap cw co st col z c) (hc : c ≤ 800) (o0 o2 o3 o4 : Int) (lp : Option Addr) (ll lc : Nat) : Calls Tryz.prog 11 #[.pointer (some ⟨b, 0, none⟩), .agg #[.int .i64 o0, .int .i64 16, .int .i64 o2, .int .i64 o3, .int .i64 o4, .slice lp ll lc]] w fun e w' => e = .returned (.bool true) ∧ ∃ col', PS B w' b lo hi lo' hi' s sr n cap cw co st col' z (c + 2) ∧ Fix col col' w w' := by
 have HP := Z0 h; have Hc := Z0 hc; obtain ⟨p0, p1⟩ := h.ks.cells; clear h hc; go_enter Tryz.func11, Tryz.ntmps11
 go_wp2_with fail; obtain ⟨W, hW⟩ : ∃ W, w.alloc (.cells #[.int .i64 o0, .int .i64 16, .int .i64 o2, .int .i64 o3, .int .i64 o4, .slice lp ll lc] 29) = W := ⟨_, rfl⟩
 have oW : Out 0 0 w W := by rw [← hW]; exact (Out.refl 0 0 _).alloc _
 replace p0 := oW.cell p0 z0; replace p1 := oW.cell p1 z0; rw [hW]; clear hW; have P1 := HP.out.quiet oW; refine wp_region_held_drew (S := fun w' => w'.cell? ⟨b, 0, none⟩ = some (.pointer (some ⟨s 14, 0, none⟩)) ∧ w'.cell? ⟨b, 1, none⟩ = some (.pointer (some ⟨sr 0, 0, none⟩))) (by kernel_rfl) ?hS1 (fun x' => ?rest1)
 case hS1 => exact ⟨p0, p1⟩
 obtain ⟨Z, hZ⟩ : ∃ Z, W.drew = Z := ⟨_, rfl⟩
 have oZ : Out 0 0 W Z := by rw [← hZ]; exact (Out.refl 0 0 _).drew
 replace P1 := P1.quiet oZ; rw [hZ] at x' ⊢; clear hZ p0 p1; refine tk 0 ?_; refine tk 1 ?_; refine tk 2 ?_; refine tk 3 ?_; refine tk 4 ?_; refine tk 5 ?_; refine tk 6 ?_; refine tk 8 ?_; refine tk 9 ?_; refine tk 10 ?_; refine tk 11 ?_; refine rd1 7 fun KK hK => ?_
 simp only [xa, xb, xc]; go_simp; refine (q1v P1.sp.1 (B7 st)).mono ?_; rintro e W1 ⟨va1, rfl, d1, q1⟩; refine hK.out _ _ ?hS13 (fun y' => ?rest13)
 case hS13 => exact ⟨q1.cell x'.1 z0, q1.cell x'.2 z0⟩
 clear hK KK; replace x' := y'; clear y'; refine rd1 12 fun KK hK => ?_
 simp only [xa, xb, xc]; go_simp; refine (z3y (P1.rf.quiet q1) P1.sp.2).mono ?_; rintro e W2 ⟨vc1, rfl, d2, q2⟩; refine hK.out _ _ ?hS14 (fun y' => ?rest14)
 case hS14 => exact ⟨q2.cell x'.1 z0, q2.cell x'.2 z0⟩
 clear hK KK; replace x' := y'; clear y'; refine rd1 13 fun KK hK => ?_
 simp only [xa, xb, xc]; go_simp; refine (Z3 P1.ks (by have := Hc.out; omega) q1 q2 d1 d2 P1.le.2.2 true).mono ?_; rintro e W3 ⟨rfl, colA, kA, fA⟩; have P2 := P1.fix fA kA; clear d1 d2 q1 q2; refine hK.out _ _ ?hS15 (fun y' => ?rest15)
 case hS15 => exact kA.cells
 clear kA; clear hK KK; replace x' := y'; clear y'; refine tk 14 ?_; refine tk 15 ?_; refine tk 16 ?_; refine tk 17 ?_; refine tk 18 ?_; refine tk 19 ?_; refine tk 20 ?_; refine tk 21 ?_; refine tk 23 ?_; refine tk 24 ?_; refine tk 25 ?_; refine tk 26 ?_; refine rd1 22 fun KK hK => ?_
 simp only [xa, xb, xc]; go_simp; refine (q1v P2.sp.1 (B7 st)).mono ?_; rintro e W4 ⟨va2, rfl, d1, q1⟩; refine hK.out _ _ ?hS28 (fun y' => ?rest28)
 case hS28 => exact ⟨q1.cell x'.1 z0, q1.cell x'.2 z0⟩
 clear hK KK; replace x' := y'; clear y'; refine rd1 27 fun KK hK => ?_
 simp only [xa, xb, xc]; go_simp; refine (z3y (P2.rf.quiet q1) P2.sp.2).mono ?_; rintro e W5 ⟨vc2, rfl, d2, q2⟩; refine hK.out _ _ ?hS29 (fun y' => ?rest29)
 case hS29 => exact ⟨q2.cell x'.1 z0, q2.cell x'.2 z0⟩
 clear hK KK; replace x' := y'; clear y'; refine rd1 28 fun KK hK => ?_
 simp only [xa, xb, xc]; go_simp; refine (Z3 P2.ks (by have := Hc.out; omega) q1 q2 d1 d2 P2.le.2.2 false).mono ?_; rintro e W6 ⟨rfl, colB, kA, fB⟩; have P3 := P2.fix fB kA; clear d1 d2 q1 q2; refine hK.out _ _ ?hS30 (fun y' => ?rest30)
 case hS30 => exact kA.cells
 clear kA; clear hK KK; replace x' := y'; clear y'; refine tk 29 ?_; refine tk 30 ?_; refine dn ?_; have FIN : Hid (∃ col', PS B W6 b lo hi lo' hi' s sr n cap cw co st col' z (c + 2) ∧ Fix col col' w W6) := ⟨colB, P3, ((((Fix.refl col w).out oW).out oZ).trans fA).trans fB⟩
 clear x' P3 P2 P1 fA fB; go_wp2; go_ret; exact ⟨rfl, FIN.out⟩
end
def afM (n : Nat) (st : Sp) (a : Nat) : Bool := decide (0 ≤ nxr (ob n st) (64 * n) a)
def afA (n : Nat) (st : Sp) (a : Nat) : Int := if 0 ≤ nxr (ob n st) (64 * n) a then nxr (ob n st) (64 * n) a else 0
def afO (n : Nat) (st : Sp) (a : Nat) : Blk := if 0 ≤ nxr (ob n st) (64 * n) a then st.O (nxr (ob n st) (64 * n) a).toNat else noB
theorem V5 {n : Nat} {st : Sp} {a k : Nat} (h : nxr (ob n st) (64 * n) a = (k : Int)) : afM n st a = true ∧ afA n st a = (k : Int) ∧ afO n st a = st.O k := by
 unfold afM afA afO; rw [h]; exact ⟨by simp, if_pos (by omega), (if_pos (by omega)).trans (by rw [show ((k : Nat) : Int).toNat = k from by omega])⟩
theorem V4 {n : Nat} {st : Sp} {a : Nat} (h : nxr (ob n st) (64 * n) a = -1) : afM n st a = false ∧ afA n st a = 0 ∧ afO n st a = noB := by
 unfold afM afA afO; rw [h]; exact ⟨by simp, if_neg (by omega), if_neg (by omega)⟩
theorem V6 {w : World} {g : Nat} {x0 x1 x2 x3 x4 : Value} {T : TypeId} (h : w.heap[g]? = some (.cells #[x0, x1, x2, x3, x4] T (0, 0))) : w.cell? ⟨g, 0, none⟩ = some x0 ∧ w.cell? ⟨g, 1, none⟩ = some x1 ∧ w.cell? ⟨g, 2, none⟩ = some x2 ∧ w.cell? ⟨g, 3, none⟩ = some x3 ∧ w.cell? ⟨g, 4, none⟩ = some x4 ∧ ∀ i, w.frozen? ⟨g, i, none⟩ = false := by
 simp [World.cell?, World.frozen?, h]
theorem Y1 {w : World} {g : Nat} {x0 x1 x2 x3 x4 y0 y1 y2 y3 y4 : Value} {T : TypeId} (h : w.heap[g]? = some (.cells #[x0, x1, x2, x3, x4] T (0, 0))) :
  (((((w.setCell ⟨g, 0, none⟩ y0).setCell ⟨g, 1, none⟩ y1).setCell ⟨g, 2, none⟩ y2).setCell ⟨g, 3, none⟩ y3).setCell ⟨g, 4, none⟩ y4).heap[g]? = some (.cells #[y0, y1, y2, y3, y4] T (0, 0)) := by
 simp [World.setCell, Array.getElem?_modify, h]
theorem W0 (w : World) (g : Nat) (y0 y1 y2 y3 y4 : Value) : Out g (g + 1) w (((((w.setCell ⟨g, 0, none⟩ y0).setCell ⟨g, 1, none⟩ y1).setCell ⟨g, 2, none⟩ y2).setCell ⟨g, 3, none⟩ y3).setCell ⟨g, 4, none⟩ y4) :=
 (((((Out.refl _ _ _).setCell (p := ⟨g, 0, none⟩) z1 _).setCell (p := ⟨g, 1, none⟩) z1 _).setCell (p := ⟨g, 2, none⟩) z1 _).setCell (p := ⟨g, 3, none⟩) z1 _).setCell (p := ⟨g, 4, none⟩) z1 _
section
variable {w : World} {b lo hi lo' hi' n cap cw co : Nat} {s sr : Nat → Nat} {st : Sp}
theorem Z1 (h : Two w b lo hi lo' hi' s sr n cap cw co st) {a : Nat} (ha : a ≤ 64 * n) {x : Int} (hx : x + 1 = (a : Int)) : Calls Tryz.prog 68 #[.pointer (some ⟨b, 0, none⟩), .int .i64 x] w fun e w' => e = .returned (.tuple #[q6a (afA n st a) (afO n st a), .bool (afM n st a)]) ∧ Out 0 0 w w' := by
 have h2 := h.rf.n2; obtain ⟨M, hM⟩ : ∃ M, 64 * n = M := ⟨_, rfl⟩
 have M1 : (M : Int) ≤ 262144 := by omega
 have M0 : (0 : Int) ≤ (M : Int) := by omega
 obtain ⟨g, hg⟩ : ∃ g, w.heap.size = g := ⟨_, rfl⟩
 obtain ⟨W, hW⟩ : ∃ W, w.alloc (.cells #[.int .i64 0, .int .i64 0, .int .i64 0, .int .i64 0, .int .i64 0] 92) = W := ⟨_, rfl⟩
 have o1 : Out 0 0 w W := by rw [← hW]; exact (Out.refl 0 0 _).alloc _
 have f0 : W.heap[g]? = some (.cells #[.int .i64 0, .int .i64 0, .int .i64 0, .int .i64 0, .int .i64 0] 92 (0, 0)) := by rw [← hW, ← hg]; exact heap_alloc_new _ _
 have hT := h.quiet o1; have c2 := hT.rf.cells.2.2.1; rw [hM] at c2; have p1 := hT.p1; have HH := Z0 hT; have HI := Z0 h.sp.2; have HM := Z0 hM; have HO := Z0 o1; have HF := Z0 f0; have hne : sr 4 ≠ g := by have := h.rf.inn 4 (by omega); have := h.rf.top; omega
 have HG : Hid (w.heap.size ≤ g) := by show _ ≤ _; omega
 have HA := Z0 ha; obtain ⟨c0, c1, c3, c4, c5, cf⟩ := V6 f0; have x1 : -1 ≤ x := by omega
 have x2 : x ≤ 262144 := by omega
 have x3 : x + 1 = (a : Int) := hx; clear h h2 hM hT o1 f0 ha hx; go_enter Tryz.func68, Tryz.ntmps68
 go_wp2_with fail; (try rw [hW]); (try rw [hg]); clear hW; (try rw [x3]); go_loopw [1] (fun y wr => ∃ i : Nat, y = .int .i64 (i : Int) ∧ a ≤ i ∧ i ≤ M ∧ (∀ j, a ≤ j → j < i → ob n st j = false) ∧ wr = W) (fun y _ => M - (intOf y).toNat)
 case atStart => exact ⟨a, rfl, Nat.le_refl _, by have := HA.out; have := HM.out; omega, fun j h1 h2 => by omega, rfl⟩
 case round =>
  obtain ⟨i, rfl, i1, i2, hz, rfl⟩ := hrel; have b0 : (0 : Int) ≤ (i : Int) := by omega
  by_cases hi : i < M
  ·have b1 : (i : Int) < (M : Int) := by omega
   have hm := HM.out; have d0 := HH.out.rf.ro.cell (i := i * 5) (by omega); have d1 := HH.out.rf.ro.cell (i := i * 5 + 1) (by omega); have d2 := HH.out.rf.ro.cell (i := i * 5 + 2) (by omega); have d3 := HH.out.rf.ro.cell (i := i * 5 + 3) (by omega); have d4 := HH.out.rf.ro.cell (i := i * 5 + 4) (by omega); have hob := z9j HI.out i; cases hb : Q7 (st.O i) with
   | false =>
    rw [z3g, hb, if_neg (by simp)] at d1; have HZ : Hid (∀ j, a ≤ j → j < i + 1 → ob n st j = false) := fun j j1 j2 => by
     by_cases e : j = i
     ·rw [e, hob]; exact hb
     ·exact hz j j1 (by omega)
    clear hb d0 d2 d3 d4 hm hz hob c0 c1 c3 c4 c5 cf; go_wp2_with fail; exact ⟨⟨i + 1, by congr 1, by omega, by omega, HZ.out, trivial⟩, by simp [intOf] <;> omega⟩
   | true =>
    have hN : nxr (ob n st) (64 * n) a = (i : Int) := z3n (by omega) i1 (by rw [hob]; exact hb) hz; have HR := Z0 (V5 hN); obtain ⟨o0, o1, o2, o3, o4⟩ := q2o (st := st) hb; obtain ⟨b1', b2, b3, b4, hO⟩ : ∃ b1 b2 b3 b4, st.O i = (b1, b2, b3, b4) := ⟨_, _, _, _, rfl⟩
    rw [hO] at o1 o2 o3 o4 HR; dsimp only at o1 o2 o3 o4; rw [o0] at d0; rw [o1] at d1; rw [o2] at d2; rw [o3] at d3; rw [o4] at d4; have hk0 : b1' ≠ 0 := by rw [hO] at hb; unfold Q7 at hb; simpa using hb
    have hkb : (b1' != 0) = true := by simpa using hk0
    clear hb hO o0 o1 o2 o3 o4 hm hz hob hN; go_wp2; refine z4z (g := g) Tryz.results68 rfl rfl rfl (Y1 HF.out) ⟨?_, HO.out.past (W0 _ _ _ _ _ _ _) HG.out⟩; obtain ⟨r1, r2, r3⟩ := HR.out; rw [r1, r2, r3]; rfl
  ·have e : i = M := by omega
   subst e; have hN : nxr (ob n st) (64 * n) a = -1 := by
    rcases Q1 (ob n st) (64 * n) a with ⟨e, _⟩ | ⟨k, _, k1, k2, k3, _⟩
    ·exact e
    ·have := k2 HA.out; rw [hz k this (by have := HM.out; omega)] at k3; cases k3
   have HR := Z0 (V4 hN); clear hz hN; go_wp2; refine z4z (g := g) Tryz.results68 rfl rfl rfl (Y1 HF.out) ⟨?_, HO.out.past (W0 _ _ _ _ _ _ _) HG.out⟩; obtain ⟨r1, r2, r3⟩ := HR.out; rw [r1, r2, r3]; rfl
end
end Go.Proofs.YtjbbkeoolodeaaaGreatDoor
namespace Go.Proofs.YtjbbkeoolodeaaaGreatDoor
open Go.RowKit
attribute [local go_sem] Oper.semAt_some
set_option linter.unusedVariables false
set_option maxRecDepth 100000
set_option maxHeartbeats 16000000
set_option linter.unusedSimpArgs false
theorem K2 {lo hi n cap g gd gm gw go gt gp : Nat} {s : Nat → Nat} (I : Nat → World → Prop) (J Jx : World → Prop) {w : World}
  (hm : ∀ p w, I p w → p ≤ 64 * n ∧ ∃ r, RawAt w lo hi s n cap r ∧ z8q r ∧ Box w g 34 (.pointer (some ⟨s 14, 0, none⟩)))
  (hq : ∀ p w1 w2 x y, I p w1 → Out x y w1 w2 → ((w.heap.size ≤ x ∧ y ≤ w.heap.size + 4) ∨ y = 0) → I p w2)
  (hqJ : ∀ w1 w2 x y, J w1 → Out x y w1 w2 → w.heap.size ≤ x ∧ y ≤ w.heap.size + 4 → J w2) (hqX : ∀ w1 w2 x y, Jx w1 → Out x y w1 w2 → w.heap.size ≤ x ∧ y ≤ w.heap.size + 4 → Jx w2)
  (hy : ∀ p w1 r (k : Nat) b, I p w1 → RawAt w1 lo hi s n cap r → nxr r.P (64 * n) p = k → r.M (k : Int) = some b → Calls Tryz.prog 69 #[q6a k b, .pointer (some ⟨gd, 0, none⟩), .pointer (some ⟨gm, 0, none⟩), .pointer (some ⟨gw, 0, none⟩), .pointer (some ⟨go, 0, none⟩), .pointer (some ⟨gt, 0, none⟩), .pointer (some ⟨gp, 0, none⟩)] w1 fun e w' => Sv w.heap.size 4 w1 w' ∧ ((e = .returned (.bool true) ∧ I (k + 1) w') ∨ (e = .returned (.bool false) ∧ Jx w')))
  (hjx : ∀ w1, Jx w1 → ∃ r, RawAt w1 lo hi s n cap r ∧ Box w1 g 34 (.pointer (some ⟨s 14, 0, none⟩)))
  (he : ∀ p w1 r, I p w1 → RawAt w1 lo hi s n cap r → nxr r.P (64 * n) p = -1 → J w1) (h0 : I 0 w) :
  Calls Tryz.prog 117 #[.func (.func 69) #[] #[.pointer (some ⟨gd, 0, none⟩), .pointer (some ⟨gm, 0, none⟩), .pointer (some ⟨gw, 0, none⟩), .pointer (some ⟨go, 0, none⟩), .pointer (some ⟨gt, 0, none⟩), .pointer (some ⟨gp, 0, none⟩)], .pointer (some ⟨g, 0, none⟩)] w fun e w' => (∃ v, e = .returned v) ∧ (J w' ∨ Jx w') := by
 obtain ⟨_, r0, hr0, _, hb0⟩ := hm 0 w h0; have hW0 : Out 0 0 w (w.alloc (.cells #[.func (.func 69) #[] #[.pointer (some ⟨gd, 0, none⟩), .pointer (some ⟨gm, 0, none⟩), .pointer (some ⟨gw, 0, none⟩), .pointer (some ⟨go, 0, none⟩), .pointer (some ⟨gt, 0, none⟩), .pointer (some ⟨gp, 0, none⟩)]] 115)) := (Out.refl 0 0 w).alloc _; have hr1 := hr0.quiet hW0; have c0 := (hb0.kept hW0 z0).cell; obtain ⟨d0, d1, d2, d3, d4, d5⟩ := hr1.cells; have HM := Z0 hm; have HQ := Z0 hq; have HQJ := Z0 hqJ; have HQX := Z0 hqX; have HY := Z0 hy; have HE := Z0 he; have HI := Z0 h0; have HJx := Z0 hjx; have HG : Hid (g < w.heap.size) := hb0.lt; have HT : Hid (hi ≤ w.heap.size ∧ 4 ≤ w.heap.size) := ⟨hr0.top, hr0.tab.lt⟩
 clear hm hq hy he h0 hjx hb0 hr0 hr1 hqJ hqX hW0; refine (callsIn_wide (n := 0)).1 ?_; refine callsIn_of_wp_marks Tryz.func117 rfl trivial ?_ rfl; simp only [Tryz.ntmps117, List.size_toArray, List.length_cons, List.length_nil, Nat.reduceAdd, Nat.reduceSub, Array.replicate_succ, Array.replicate_zero, List.push_toArray, List.append_toArray, List.nil_append, List.cons_append]; gi_wp2_with (first
  | (refine ⟨trivial, rfl, ?_⟩; gi_at_call 44; refine (callsIn_wide.2 (z0f _ _)).mono ?_; rintro e w1 ⟨rfl, rfl⟩)
  | (refine ⟨trivial, rfl, ?_⟩; gi_at_call 118; refine (callsIn_wide.2 (q0h _ _)).mono ?_; rintro e w1 ⟨rfl, rfl⟩))
 obtain ⟨W1, hW1⟩ : ∃ W1, (w.alloc (.cells #[.func (.func 69) #[] #[.pointer (some ⟨gd, 0, none⟩), .pointer (some ⟨gm, 0, none⟩), .pointer (some ⟨gw, 0, none⟩), .pointer (some ⟨go, 0, none⟩), .pointer (some ⟨gt, 0, none⟩), .pointer (some ⟨gp, 0, none⟩)]] 115)).alloc (.cells #[.pointer (some ⟨s 8 + 1, 0, none⟩)] 80) = W1 := ⟨_, rfl⟩
 have hs1 : W1.heap.size = w.heap.size + 2 := by rw [← hW1]; simp
 have ho1 : Out 0 0 w W1 := by rw [← hW1]; exact ((Out.refl 0 0 w).alloc _).alloc _
 have hy1 : Box W1 w.heap.size 115 (.func (.func 69) #[] #[.pointer (some ⟨gd, 0, none⟩), .pointer (some ⟨gm, 0, none⟩), .pointer (some ⟨gw, 0, none⟩), .pointer (some ⟨go, 0, none⟩), .pointer (some ⟨gt, 0, none⟩), .pointer (some ⟨gp, 0, none⟩)]) := by rw [← hW1]; exact K4
 have hx1 : Box W1 (w.heap.size + 1) 80 (.pointer (some ⟨s 8 + 1, 0, none⟩)) := by rw [← hW1]; exact heap_alloc2_new _ _ _
 rw [hW1]; clear c0 d0 d1 d2 d3 d4 d5 hW1; have HO1 := Z0 ho1; have HY1 := Z0 hy1; have HX1 := Z0 hx1; have HS1 := Z0 hs1; clear ho1 hy1 hx1; refine z1a (gf := 146) (lb := #[.pointer (some ⟨w.heap.size + 1, 0, none⟩)]) rfl (enters_of Tryz.func146 (by kernel_rfl) rfl) J (fun c W => c = .ret ∧ Jx W) ?H ?done ?stop
 case H =>
  intro rec hrec W2 hW2; rw [hs1]; have HR := Z0 hrec; have ho2 : Out 0 0 W1 W2 := by rw [hW2]; exact ((Out.refl 0 0 W1).alloc _).alloc _
  have hd2 : W2.heap[w.heap.size + 2]? = some (.deferred (some [])) := by rw [hW2, ← hs1]; exact K4
  have hl2 : W2.heap[w.heap.size + 2 + 1]? = some (.loop (rec .ready none)) := by rw [hW2, ← hs1]; exact heap_alloc2_new _ _ _
  refine (z5l (lo := s 8) (hi := s 8 + 2) (b := s 8 + 1) (n := 64 * n) (g := w.heap.size + 1) (l := w.heap.size + 2 + 1)
   (fun p W => I p W ∧ Box W w.heap.size 115 (.func (.func 69) #[] #[.pointer (some ⟨gd, 0, none⟩), .pointer (some ⟨gm, 0, none⟩), .pointer (some ⟨gw, 0, none⟩), .pointer (some ⟨go, 0, none⟩), .pointer (some ⟨gt, 0, none⟩), .pointer (some ⟨gp, 0, none⟩)]) ∧ Box W (w.heap.size + 1) 80 (.pointer (some ⟨s 8 + 1, 0, none⟩)) ∧ W.heap[w.heap.size + 2]? = some (.deferred (some [])) ∧ W.heap[w.heap.size + 2 + 1]? = some (.loop (rec .ready none)))
   (fun W => J W ∧ W.heap[w.heap.size + 2]? = some (.deferred (some [])) ∧ W.heap[w.heap.size + 2 + 1]? = some (.loop (rec .ready none)))
   (fun W => Jx W ∧ W.heap[w.heap.size + 2]? = some (.deferred (some [])) ∧ W.heap[w.heap.size + 2 + 1]? = some (.loop (rec .done (some .ret)))) ?hm1 ?hq1 ?hy1 ?he1 (w := W2) ?hz1).mono ?_
  case hm1 =>
   rintro p W ⟨a1, a2, a3, a4, a5⟩; obtain ⟨b1, r, b2, b3, b4⟩ := HM.out p W a1; exact ⟨b1, r.P, b2.places, a3⟩
  case hq1 =>
   rintro p W W' ⟨a1, a2, a3, a4, a5⟩ o; exact ⟨HQ.out p W W' 0 0 a1 o (.inr rfl), a2.kept o z0, a3.kept o z0, o.heap a4 z0, o.heap a5 z0⟩
  case hz1 => exact ⟨HQ.out 0 W1 W2 0 0 (HQ.out 0 w W1 0 0 HI.out HO1.out (.inr rfl)) ho2 (.inr rfl), HY1.out.kept ho2 z0, HX1.out.kept ho2 z0, hd2, hl2⟩
  case he1 =>
   rintro p W S ⟨a1, a2, a3, a4, a5⟩ hS hn; obtain ⟨b1, r, b2, b3, b4⟩ := HM.out p W a1; rw [hS.one b2.places] at hn; exact ⟨HE.out p W r a1 b2 hn, a4, a5⟩
  case hy1 =>
   rintro p W S k ⟨a1, a2, a3, a4, a5⟩ hS hn; obtain ⟨b1, r, b2, b3, b4⟩ := HM.out p W a1; rw [hS.one b2.places] at hn; have hk : r.P k = true := by
    rcases Q1 r.P (64 * n) p with ⟨e1, _⟩ | ⟨i, e1, _, _, e3, _⟩
    ·omega
    ·rw [show k = i from by omega]; exact e3
   obtain ⟨⟨kd, sz, se, tg⟩, hb⟩ := b3 k hk; have HYY := Z0 (fun W' (o : Out (w.heap.size + 2 + 1) (w.heap.size + 2 + 1 + 1) W W') => HY.out p W' r k _ (HQ.out p W W' _ _ a1 o (.inl (by omega))) (b2.kept o (.inl (by have := HT.out; omega)) (.inl (by have := HT.out; omega))) hn hb); have A := Z0 (And.intro a2 (And.intro a4 b4)); have AX := Z0 a3; have B2 := Z0 b2; have HB := Z0 hb; have HL5 := Z0 a5; have hk0 : (0 : Int) ≤ (k : Int) := by omega
   refine z0y HR.out a5 rfl ?_; clear a1 a2 a3 a4 a5 b1 b2 b3 b4 hS hn hk hb; gi_wp2; refine ⟨HL5.out, ?_⟩; intro W3 ho3 hl3; have ho4 : Out (w.heap.size + 2 + 1) (w.heap.size + 2 + 1 + 1) W W3.drew := ho3.drew; have B3 := B2.out.kept ho4 (.inl (by have := HT.out; omega)) (.inl (by have := HT.out; omega)); obtain ⟨d0, d1, d2, d3, d4, d5⟩ := B3.cells; have c0 := (A.out.1.kept ho4 (.inl (by omega))).cell; have c1 := (A.out.2.2.kept ho4 (.inl (by have := A.out.2.2.lt; have := B2.out.top; have := HT.out; have := HG.out; omega))).cell; have hlk := B3.look false (k : Int); rw [show z6b r.M (k : Int) = some (.agg #[.int .i64 (k : Int), .int .i64 kd, .int .i64 sz, .int .i64 se, .int .i64 tg]) from by unfold z6b; rw [HB.out]; rfl] at hlk; simp only [Option.getD_some, Bool.false_eq_true, if_false] at hlk; have hYc := HYY.out W3.drew ho4; unfold q6a at hYc; have HRR := Z0 (hYc.mono (R' := fun e W4 => ∃ bb : Bool, e = .returned (.bool bb) ∧ Sv w.heap.size 4 W3.drew W4 ∧ (bb = true → I (k + 1) W4) ∧ (bb = false → Jx W4)) (fun e W4 h => z9k h)); have HO4 := Z0 ho4; have HL3 := Z0 hl3; clear hYc ho3 ho4 B3 hl3; gi_wp2_with fail; refine z0p (S := fun w' => w'.cell? ⟨w.heap.size, 0, none⟩ = some (.func (.func 69) #[] #[.pointer (some ⟨gd, 0, none⟩), .pointer (some ⟨gm, 0, none⟩), .pointer (some ⟨gw, 0, none⟩), .pointer (some ⟨go, 0, none⟩), .pointer (some ⟨gt, 0, none⟩), .pointer (some ⟨gp, 0, none⟩)]) ∧ w'.cell? ⟨g, 0, none⟩ = some (.pointer (some ⟨s 14, 0, none⟩)) ∧ w'.cell? ⟨s 14, 2, none⟩ = some (.map (some (s 12)))) (by kernel_rfl) (by kernel_rfl) ?hS1 (fun x' => ?rest1)
   case hS1 => exact ⟨c0, c1, d2⟩
   refine tk 0 ?_; refine tk 1 ?_; refine tk 2 ?_; refine tk 3 ?_; refine tk 4 ?_; refine tk 5 ?_; refine rd1 6 fun KK hK => ?_
   simp only [xa, xb, xc]; go_simp; refine hK.out _ _ ?hS8 (fun y' => ?rest8)
   case hS8 => exact x'
   clear hK KK; replace x' := y'; clear y'; refine rd1 7 fun KK hK => ?_
   simp only [xa, xb, xc]; go_simp; refine HRR.out.mono ?_; rintro e W4 ⟨bb, rfl, ho5, hI4, hx4⟩; have hcl : ∃ r', RawAt W4 lo hi s n cap r' ∧ Box W4 g 34 (.pointer (some ⟨s 14, 0, none⟩)) := by
    cases bb with
    | false => exact HJx.out W4 (hx4 rfl)
    | true => obtain ⟨_, r', q1, _, q2⟩ := HM.out _ _ (hI4 rfl); exact ⟨r', q1, q2⟩
   obtain ⟨r', q1, q2⟩ := hcl; refine hK.out _ _ ?hS9 (fun y' => ?rest9)
   case hS9 => exact ⟨(show Box W4 w.heap.size _ _ from ho5.heap (A.out.1.kept HO4.out (.inl (by omega))) (by omega) (by omega)).cell, q2.cell, q1.cells.2.2.1⟩
   clear hK KK; replace x' := y'; clear y'; refine tk 8 ?_; refine dn ?_; clear x'; simp only [q2k, z8r]; have HO5 := Z0 ho5; have HH4 := Z0 (And.intro hI4 hx4); clear ho5 hI4 hx4 q1 q2; cases bb
   ·gi_wp2; refine ⟨HO5.out.heap HL3.out (by omega) (by omega), ?_⟩; intro W5 ho6 hl6; exact .inr ⟨rfl, HQX.out _ _ _ _ (HH4.out.2 (by first | rfl | trivial)) ho6 (by omega), ho6.heap (HO5.out.heap ((HO4.out.heap A.out.2.1 (.inl (by omega)))) (by omega) (by omega)) (.inl (by omega)), hl6⟩
   ·gi_wp2; refine ⟨HO5.out.heap HL3.out (by omega) (by omega), ?_⟩; intro W5 ho6 hl6; exact .inl ⟨rfl, HQ.out _ _ _ _ _ (HH4.out.1 (by first | rfl | trivial)) ho6 (.inl (by omega)), (ho6.heap (HO5.out.heap (A.out.1.kept HO4.out (.inl (by omega))) (by omega) (by omega)) (.inl (by omega))), (ho6.heap (HO5.out.heap (AX.out.kept HO4.out (.inl (by omega))) (by omega) (by omega)) (.inl (by omega))), ho6.heap (HO5.out.heap ((HO4.out.heap A.out.2.1 (.inl (by omega)))) (by omega) (by omega)) (.inl (by omega)), hl6⟩
  ·rintro e W ⟨hv, ⟨a1, a2, a3⟩ | ⟨a1, a2, a3⟩⟩
   ·exact ⟨hv, a2, .inl ⟨a1, a3⟩⟩
   ·exact ⟨hv, a2, .inr ⟨.ret, ⟨rfl, a1⟩, a3⟩⟩
 case done =>
  intro W W' hJ ho hd; have HJ := Z0 (HQJ.out W W' _ _ hJ ho (by omega)); have HD := Z0 hd; clear hJ ho hd; gi_wp2; refine ⟨by simp, .inl ⟨_, _, rfl, run_takeDeferred HD.out, ?_⟩⟩; exact ⟨_, results_none rfl _ _ _, ⟨_, rfl⟩, .inl (HQJ.out _ _ _ _ HJ.out (Q2 _ _ _) (by omega))⟩
 case stop =>
  rintro c W W' ⟨rfl, hJ⟩ ho hd; have HJ := Z0 (HQX.out W W' _ _ hJ ho (by omega)); have HD := Z0 hd; clear hJ ho hd; gi_wp2; refine ⟨by simp, .inl ⟨_, _, rfl, run_takeDeferred HD.out, ?_⟩⟩; exact ⟨_, results_none rfl _ _ _, ⟨_, rfl⟩, .inr (HQX.out _ _ _ _ HJ.out (Q2 _ _ _) (by omega))⟩
end Go.Proofs.YtjbbkeoolodeaaaGreatDoor
namespace Go.Proofs.YtjbbkeoolodeaaaGreatDoor
open Go.RowKit
set_option linter.unusedVariables false
set_option maxRecDepth 100000
set_option maxHeartbeats 16000000
set_option linter.unusedSimpArgs false
structure GB (b gp go gw gm gt gd : Nat) (o0 A Bv Cv : Int) (lp : Option Addr) (ll lc : Nat) (a : Int) (o : Blk) (mv : Bool) (t : Int) (W : World) : Prop where
 hp : Box W gp 22 (.pointer (some ⟨b, 0, none⟩))
 ho : W.heap[go]? = some (.cells #[.int .i64 o0, .int .i64 17, .int .i64 A, .int .i64 Bv, .int .i64 Cv, .slice lp ll lc] 29 (0, 0))
 hw : W.heap[gw]? = some (.cells #[.int .i64 a, .int .i64 o.1, .int .i64 o.2.1, .int .i64 o.2.2.1, .int .i64 o.2.2.2] 92 (0, 0))
 hm : Box W gm 4 (.bool mv)
 ht : Box W gt 3 (.int .i64 t)
 hd : Box W gd 4 (.bool true)
def GF (w0 : World) (b lo gp go gw gm gt gd : Nat) (col : Nat → Nat) : Prop := (lo ≤ b ∧ b < gp ∧ gp < go ∧ go < gw ∧ gm = gw + 1 ∧ gt = gw + 2 ∧ gd = gw + 3 ∧ w0.heap.size ≤ gp) ∧ ∀ k, gp ≤ k → col k = 9
theorem out6 (w : World) {gw gm : Nat} (h : gm = gw + 1) (y0 y1 y2 y3 y4 y5 : Value) : Out gw (gm + 1) w ((((((w.setCell ⟨gw, 0, none⟩ y0).setCell ⟨gw, 1, none⟩ y1).setCell ⟨gw, 2, none⟩ y2).setCell ⟨gw, 3, none⟩ y3).setCell ⟨gw, 4, none⟩ y4).setCell ⟨gm, 0, none⟩ y5) := by
 have q5 : Out gw (gm + 1) w (((((w.setCell ⟨gw, 0, none⟩ y0).setCell ⟨gw, 1, none⟩ y1).setCell ⟨gw, 2, none⟩ y2).setCell ⟨gw, 3, none⟩ y3).setCell ⟨gw, 4, none⟩ y4) := (W0 w gw y0 y1 y2 y3 y4).wide (Nat.le_refl _) (by omega); exact q5.setCell (p := ⟨gm, 0, none⟩) (.inl ⟨(by omega : gw ≤ gm), Nat.lt_succ_self _⟩) _
section
variable {B : Nat} {w0 W W' : World} {b lo m n cap cw co c gp go gw gm gt gd : Nat} {s sr : Nat → Nat} {st st' st0 : Sp} {col : Nat → Nat} {z mv : Bool} {o0 A Bv Cv a t : Int} {lp : Option Addr} {ll lc : Nat} {o : Blk}
theorem GB.kept (h : GB b gp go gw gm gt gd o0 A Bv Cv lp ll lc a o mv t W) (hG : GF w0 b lo gp go gw gm gt gd col) {x y : Nat} (q : Out x y W W') (hx : gd < x ∨ y ≤ gp) : GB b gp go gw gm gt gd o0 A Bv Cv lp ll lc a o mv t W' := by
 obtain ⟨⟨g1, g2, g3, g4, g5, g6, g7, g8⟩, _⟩ := hG; exact ⟨h.hp.kept q (by omega), q.heap h.ho (by omega), q.heap h.hw (by omega), h.hm.kept q (by omega), h.ht.kept q (by omega), h.hd.kept q (by omega)⟩
theorem GB.setT (h : GB b gp go gw gm gt gd o0 A Bv Cv lp ll lc a o mv t W) (hG : GF w0 b lo gp go gw gm gt gd col) (t' : Int) : GB b gp go gw gm gt gd o0 A Bv Cv lp ll lc a o mv t' (W.setCell ⟨gt, 0, none⟩ (.int .i64 t')) := by
 obtain ⟨⟨g1, g2, g3, g4, g5, g6, g7, g8⟩, _⟩ := hG; have q : Out gt (gt + 1) W (W.setCell ⟨gt, 0, none⟩ (.int .i64 t')) := (Out.refl _ _ _).setCell (p := ⟨gt, 0, none⟩) z1 _; exact ⟨h.hp.kept q (by omega), q.heap h.ho (by omega), q.heap h.hw (by omega), h.hm.kept q (by omega), h.ht.set _, h.hd.kept q (by omega)⟩
theorem GB.setD (h : GB b gp go gw gm gt gd o0 A Bv Cv lp ll lc a o mv t W) (hG : GF w0 b lo gp go gw gm gt gd col) : GB b gp go gw gm gt gd o0 A Bv Cv lp ll lc a o mv t (W.setCell ⟨gd, 0, none⟩ (.bool true)) := by
 obtain ⟨⟨g1, g2, g3, g4, g5, g6, g7, g8⟩, _⟩ := hG; have q : Out gd (gd + 1) W (W.setCell ⟨gd, 0, none⟩ (.bool true)) := (Out.refl _ _ _).setCell (p := ⟨gd, 0, none⟩) z1 _; exact ⟨h.hp.kept q (by omega), q.heap h.ho (by omega), q.heap h.hw (by omega), h.hm.kept q (by omega), h.ht.kept q (by omega), h.hd.set _⟩
theorem GB.setW (h : GB b gp go gw gm gt gd o0 A Bv Cv lp ll lc a o mv t W) (hG : GF w0 b lo gp go gw gm gt gd col) (a' : Int) (o' : Blk) (mv' : Bool) :
  GB b gp go gw gm gt gd o0 A Bv Cv lp ll lc a' o' mv' t ((((((W.setCell ⟨gw, 0, none⟩ (.int .i64 a')).setCell ⟨gw, 1, none⟩ (.int .i64 o'.1)).setCell ⟨gw, 2, none⟩ (.int .i64 o'.2.1)).setCell ⟨gw, 3, none⟩ (.int .i64 o'.2.2.1)).setCell ⟨gw, 4, none⟩ (.int .i64 o'.2.2.2)).setCell ⟨gm, 0, none⟩ (.bool mv')) := by
 obtain ⟨⟨g1, g2, g3, g4, g5, g6, g7, g8⟩, _⟩ := hG; have q5 := W0 W gw (.int .i64 a') (.int .i64 o'.1) (.int .i64 o'.2.1) (.int .i64 o'.2.2.1) (.int .i64 o'.2.2.2); have hw5 := Y1 (y0 := .int .i64 a') (y1 := .int .i64 o'.1) (y2 := .int .i64 o'.2.1) (y3 := .int .i64 o'.2.2.1) (y4 := .int .i64 o'.2.2.2) h.hw; have q6 := (Out.refl gm (gm + 1) (((((W.setCell ⟨gw, 0, none⟩ (.int .i64 a')).setCell ⟨gw, 1, none⟩ (.int .i64 o'.1)).setCell ⟨gw, 2, none⟩ (.int .i64 o'.2.1)).setCell ⟨gw, 3, none⟩ (.int .i64 o'.2.2.1)).setCell ⟨gw, 4, none⟩ (.int .i64 o'.2.2.2))).setCell (p := ⟨gm, 0, none⟩) z1 (.bool mv'); exact ⟨(h.hp.kept q5 (by omega)).kept q6 (by omega), q6.heap (q5.heap h.ho (by omega)) (by omega), q6.heap hw5 (by omega), (h.hm.kept q5 (by omega)).set _, (h.ht.kept q5 (by omega)).kept q6 (by omega), (h.hd.kept q5 (by omega)).kept q6 (by omega)⟩
theorem PS.far (h : PS B W b lo m m b s sr n cap cw co st col z c) {x y : Nat} (q : Out x y W W') (hb : b < x) (h9 : ∀ k, x ≤ k → col k = 9) : PS B W' b lo m m b s sr n cap cw co st col z c := by
 have hl := h.le; have hg := h.sp.1.glob; exact ⟨h.sp.kept q (.inl (by omega)) (.inl (by omega)), h.rf.kept q (.inl (by omega)), h.ks.chg (P := fun c => c = 9) (Chg.of_part q fun k k1 _ => h9 k k1) (fun _ h => .inr h), h.c7, h.le⟩
structure GS (B : Nat) (w0 : World) (b lo m n cap cw co c : Nat) (s sr : Nat → Nat) (st0 : Sp) (col : Nat → Nat) (z : Bool) (gp go gw gm gt gd : Nat) (o0 A Bv Cv : Int) (lp : Option Addr) (ll lc : Nat) (st : Sp) (t i : Nat) (W : World) : Prop where
 ps : PS B W b lo m m b s sr n cap cw co st col z c
 o : Out lo b w0 W
 gb : GB b gp go gw gm gt gd o0 A Bv Cv lp ll lc (afA n st i) (afO n st i) (afM n st i) (t : Int) W
 ch : ((t : Int) < Bv → st = st0) ∧ st.last ≤ st0.last + 1
 tl : t ≤ i ∧ i ≤ 64 * n
theorem GS.kept {i t : Nat} (h : GS B w0 b lo m n cap cw co c s sr st0 col z gp go gw gm gt gd o0 A Bv Cv lp ll lc st t i W) (hG : GF w0 b lo gp go gw gm gt gd col) {x y : Nat} (q : Out x y W W') (hx : gd < x ∨ y = 0) : GS B w0 b lo m n cap cw co c s sr st0 col z gp go gw gm gt gd o0 A Bv Cv lp ll lc st t i W' := by
 obtain ⟨⟨g1, g2, g3, g4, g5, g6, g7, g8⟩, g9⟩ := id hG; rcases hx with hx | rfl
 ·exact ⟨h.ps.far q (by omega) (fun k hk => g9 k (by omega)), h.o.past q (by omega), h.gb.kept hG q (.inl hx), h.ch, h.tl⟩
 ·have q0 : Out 0 0 W W' := ⟨q.1, q.2.1, q.2.2.1, q.size, fun k hk _ => q.block hk z0⟩
  exact ⟨h.ps.quiet q0, h.o.trans (q0.any _ _), h.gb.kept hG q0 z0, h.ch, h.tl⟩
theorem Z2 {i k t : Nat} {V V9 : World} {st' : Sp} {T1 v0 u1 u2 u3 u4 : Int} {v2 : Bool} (hG : GF w0 b lo gp go gw gm gt gd col) (f1 : PS B V b lo m m b s sr n cap cw co st' col z c) (f2 : Out lo b w0 V) (f3' : GB b gp go gw gm gt gd o0 A Bv Cv lp ll lc a o mv T1 V9) (f4 : Out 0 (gd + 1) W V) (q9 : Out 0 0 V V9) (f8 : (((t + 1 : Nat) : Int) < Bv → st' = st0) ∧ st'.last ≤ st0.last + 1) (hT : (t : Int) + 1 = T1) (hk : k < 64 * n ∧ i ≤ k) (ht : t ≤ i ∧ i ≤ 64 * n) (f5 : afA n st' (k + 1) = v0) (f6 : afO n st' (k + 1) = (u1, u2, u3, u4)) (f7 : afM n st' (k + 1) = v2) :
  GS B w0 b lo m n cap cw co c s sr st0 col z gp go gw gm gt gd o0 A Bv Cv lp ll lc st' (t + 1) (k + 1) ((((((V9.setCell ⟨gw, 0, none⟩ (.int .i64 v0)).setCell ⟨gw, 1, none⟩ (.int .i64 u1)).setCell ⟨gw, 2, none⟩ (.int .i64 u2)).setCell ⟨gw, 3, none⟩ (.int .i64 u3)).setCell ⟨gw, 4, none⟩ (.int .i64 u4)).setCell ⟨gm, 0, none⟩ (.bool v2)) ∧ Out 0 (gd + 1) W ((((((V9.setCell ⟨gw, 0, none⟩ (.int .i64 v0)).setCell ⟨gw, 1, none⟩ (.int .i64 u1)).setCell ⟨gw, 2, none⟩ (.int .i64 u2)).setCell ⟨gw, 3, none⟩ (.int .i64 u3)).setCell ⟨gw, 4, none⟩ (.int .i64 u4)).setCell ⟨gm, 0, none⟩ (.bool v2)) := by
 obtain ⟨⟨g1, g2, g3, g4, g5, g6, g7, g8⟩, g9⟩ := id hG; have q10 := out6 V9 g5 (.int .i64 v0) (.int .i64 u1) (.int .i64 u2) (.int .i64 u3) (.int .i64 u4) (.bool v2); refine ⟨⟨(f1.quiet q9).far q10 (by omega) (fun k hk => g9 k (by omega)), (f2.trans (q9.any _ _)).past q10 (by omega), ?_, f8, by omega⟩, (f4.trans (q9.any _ _)).trans (q10.wide (Nat.zero_le _) (by omega))⟩; rw [f5, f6, f7, show (((t + 1 : Nat) : Int)) = T1 from by omega]; exact f3'.setW hG v0 (u1, u2, u3, u4) v2
theorem K0 {i t : Nat} (hG : GF w0 b lo gp go gw gm gt gd col) (h : GS B w0 b lo m n cap cw co c s sr st0 col z gp go gw gm gt gd o0 A Bv Cv lp ll lc st t i W) (hlast : st0.last < 4611686018427387900) (hA : A < 1 ∨ (t : Int) < A) {k : Nat} (hk : nxr (ob n st) (64 * n) i = (k : Int)) {y1 y2 y3 y4 : Int} (hOk : st.O k = (y1, y2, y3, y4)) :
  Calls Tryz.prog 69 #[.agg #[.int .i64 (k : Int), .int .i64 y1, .int .i64 y2, .int .i64 y3, .int .i64 y4], .pointer (some ⟨gd, 0, none⟩), .pointer (some ⟨gm, 0, none⟩), .pointer (some ⟨gw, 0, none⟩), .pointer (some ⟨go, 0, none⟩), .pointer (some ⟨gt, 0, none⟩), .pointer (some ⟨gp, 0, none⟩)] W fun e W' => (∃ st', GS B w0 b lo m n cap cw co c s sr st0 col z gp go gw gm gt gd o0 A Bv Cv lp ll lc st' (t + 1) (k + 1) W') ∧ Out 0 (gd + 1) W W' ∧ e = .returned (.bool (decide (A < 1) || decide ((t : Int) + 1 < A))) := by
 have HG := Z0 hG; have hO := hk; obtain ⟨hM, hA', hO'⟩ := V5 hk; rw [hOk] at hO'; have hps := h.ps; have HK : Hid (k < 64 * n ∧ i ≤ k) := by
  rcases Q1 (ob n st) (64 * n) i with ⟨e, _⟩ | ⟨j, e, j1, j2, _⟩
  ·omega
  ·have := j2 h.tl.2; exact ⟨by omega, by omega⟩
 have HT := Z0 h.tl; have HLs := Z0 hlast; have Hst : Hid (st.last ≤ st0.last + 1 ∧ ((t : Int) < Bv → st = st0)) := ⟨h.ch.2, h.ch.1⟩
 obtain ⟨gb, hgb⟩ : ∃ g, W.heap.size = g := ⟨_, rfl⟩
 obtain ⟨W1, hW1⟩ : ∃ V, W.alloc (.cells #[.int .i64 (k : Int), .int .i64 y1, .int .i64 y2, .int .i64 y3, .int .i64 y4] 92) = V := ⟨_, rfl⟩
 have q1 : Out 0 0 W W1 := by rw [← hW1]; exact (Out.refl 0 0 _).alloc _
 have fB : W1.heap[gb]? = some (.cells #[.int .i64 (k : Int), .int .i64 y1, .int .i64 y2, .int .i64 y3, .int .i64 y4] 92 (0, 0)) := by rw [← hW1, ← hgb]; exact heap_alloc_new _ _
 have hbg : gd < gb := by have := h.gb.hd.lt; omega
 have hB1 := h.gb.kept hG q1 z0; have hP1 := h.ps.quiet q1; have hO1 := h.o.trans (q1.any _ _); obtain ⟨c0, c1, c2, c3, c4, _⟩ := V6 fB; obtain ⟨d0, d1, d2, d3, d4, _⟩ := V6 hB1.hw; rw [hA'] at d0; rw [hO'] at d1 d2 d3 d4; dsimp only at d1 d2 d3 d4; obtain ⟨_, _, cA, cB, cC, _⟩ := Y8 hB1.ho; have cP := hB1.hp.cell; have cT := hB1.ht.cell; have cTf := hB1.ht.frozen; have cD := hB1.hd.cell; have cDf := hB1.hd.frozen; have cM := hB1.hm.cell; rw [hM] at cM; obtain ⟨T1, hT1⟩ : ∃ T1 : Int, (t : Int) + 1 = T1 := ⟨_, rfl⟩
 have HT1 := Z0 hT1; have hB2 := hB1.setT hG T1; have q2 : Out gt (gt + 1) W1 (W1.setCell ⟨gt, 0, none⟩ (.int .i64 T1)) := (Out.refl _ _ _).setCell (p := ⟨gt, 0, none⟩) z1 _; have hP2 := hP1.far q2 (by have := hG.1; omega) (fun k hk => hG.2 k (by have := hG.1; omega)); have hO2 := hO1.past q2 (by have := hG.1; omega); have hQ2 : Out 0 (gd + 1) W (W1.setCell ⟨gt, 0, none⟩ (.int .i64 T1)) := (q1.any _ _).trans (q2.wide (Nat.zero_le _) (by have := hG.1; omega)); have d5 : (W1.setCell ⟨gt, 0, none⟩ (.int .i64 T1)).cell? ⟨gb, 0, none⟩ = some (.int .i64 (k : Int)) := q2.cell c0 (.inr (by have := hG.1; omega)); obtain ⟨W2, hW2⟩ : ∃ V, W1.setCell ⟨gt, 0, none⟩ (.int .i64 T1) = V := ⟨_, rfl⟩
 rw [hW2] at hB2 hP2 hO2 hQ2 d5; have e0 := hB2.ht.cell; obtain ⟨_, _, e5, e6, e7, _⟩ := Y8 hB2.ho; have e8 := hB2.hp.cell; have HB5 : Hid (W2.cell? ⟨gb, 0, none⟩ = some (.int .i64 (k : Int)) ∧ gd < gb) := ⟨d5, hbg⟩
 have HB6 : Hid (W2.cell? ⟨gb, 0, none⟩ = some (.int .i64 (k : Int))) := d5; have t0 : (0 : Int) ≤ (t : Int) := by omega
 have T0 : (0 : Int) ≤ T1 := by omega
 have t1 : (t : Int) ≤ 262144 := by have := h.tl; have := h.ps.sp.1.n2; omega
 have df : ((k : Int) != (k : Int)) = false := by simp
 have df2 : (y1 != y1) = false ∧ (y2 != y2) = false ∧ (y3 != y3) = false ∧ (y4 != y4) = false := by simp
 obtain ⟨e1, e2, e3, e4⟩ := df2; have df2 := e1; have HCq : Hid (t + 1 ≤ t + 1) := Nat.le_refl _; clear HCq hk hO hM hA' hO' hps q1 fB hB1 hP1 hO1 q2 hG h hlast hOk hbg; obtain ⟨yc, hyc⟩ : ∃ y, bits .and .i64 Cv 1 = y := ⟨_, rfl⟩
 go_enter Tryz.func69, Tryz.ntmps69
 rcases hA with hA | hA
 ·have hA0 : ¬ (1 : Int) ≤ A := by omega
  by_cases hB0 : T1 = Bv
  ·have hBb : (T1 == Bv) = true := by simpa using hB0
   have hB : Hid ((t : Int) + 1 = Bv) := hT1.trans hB0; clear hB0; by_cases y0 : yc = 0
   ·subst y0; have HTu := Z0 (q4s hP2 0 1 3 0 (by have := HLs.out; have := Hst.out.1; omega) (by omega) none 0 0); have H2 := Z0 (And.intro hP2 (And.intro hB2 (And.intro hO2 hQ2))); clear hP2 hB2 hO2 hQ2; go_wp2_with fail; (try rw [hW2]); clear d0 d1 d2 d3 d4 d5 df df2 e0 e1 e2 e3 e4 e5 e6 e7 e8 cA cB cC cP cT cTf cD cDf cM c0 c1 c2 c3 c4; clear hW2; refine HTu.out.mono ?_; rintro e V1 ⟨rfl, st1, P1, q1, l1⟩; obtain ⟨x1, x2, x3, x4⟩ := H2.out; have hg := HG.out; have x2' := (x2.kept HG.out q1 (.inr (by have := HG.out.1; omega)))
    have hB3 := x2'.setD HG.out; have q2 : Out gd (gd + 1) V1 (V1.setCell ⟨gd, 0, none⟩ (.bool true)) := (Out.refl _ _ _).setCell (p := ⟨gd, 0, none⟩) z1 _; have hP3 := P1.far q2 (by have := HG.out.1; omega) (fun k hk => HG.out.2 k (by have := HG.out.1; omega)); have hO3 := (x3.trans q1).past q2 (by have := HG.out.1; omega); have hQ3 : Out 0 (gd + 1) W (V1.setCell ⟨gd, 0, none⟩ (.bool true)) := (x4.trans (q1.wide (Nat.zero_le _) (by have := HG.out.1; omega))).trans (q2.wide (Nat.zero_le _) (Nat.le_refl _)); have HCh : Hid ((((t + 1 : Nat) : Int) < Bv → st1 = st0) ∧ st1.last ≤ st0.last + 1) := ⟨fun e => by have := hB.out; omega, by have h1 := Hst.out.1; have h2 := HLs.out; rw [Hst.out.2 (by have := hB.out; omega)] at l1; omega⟩
    obtain ⟨k0, k1⟩ := (And.intro x2'.hd.cell x2'.hd.frozen)
    have cG := q1.cell (HB5.out.1) (.inr (by have := HB5.out.2; have := HG.out.1; omega)); obtain ⟨V3, hV3⟩ : ∃ V3, V1.setCell ⟨gd, 0, none⟩ (.bool true) = V3 := ⟨_, rfl⟩
    rw [hV3] at hP3 hB3 hO3 hQ3; have cG3 : V3.cell? ⟨gb, 0, none⟩ = some (.int .i64 (k : Int)) := by rw [← hV3]; exact q2.cell cG (.inr (by have := HB5.out.2; omega))
    have cT := hB3.ht.cell; obtain ⟨_, _, cA, cB, cC, _⟩ := Y8 hB3.ho; have cP := hB3.hp.cell; clear P1 q1 l1 x1 x2 x3 x4 x2' q2 HTu H2 hg; have HAf := Z1 (hP3.two) (a := k + 1) (by have := HK.out; omega) (x := (k : Int)) (by omega); unfold q6a at HAf; obtain ⟨v0, hv0⟩ : ∃ v, afA n st1 (k + 1) = v := ⟨_, rfl⟩
    obtain ⟨v1, hv1⟩ : ∃ v, afO n st1 (k + 1) = v := ⟨_, rfl⟩
    obtain ⟨v2, hv2⟩ : ∃ v, afM n st1 (k + 1) = v := ⟨_, rfl⟩
    obtain ⟨u1, u2, u3, u4⟩ := v1; rw [hv0, hv1, hv2] at HAf; have HAf := Z0 HAf; have HF := Z0 (And.intro hP3 (And.intro hO3 (And.intro hB3 (And.intro hQ3 (And.intro hv0 (And.intro hv1 (And.intro hv2 HCh.out))))))); clear hP3 hB3 hO3 hQ3 hv0 hv1 hv2; go_wp2_with fail; (try rw [hV3]); clear k0 k1 cT cA cB cC cP cG cG3 hV3; refine HAf.out.mono ?_; rintro e V9 ⟨rfl, q9⟩; obtain ⟨f1, f2, f3, f4, f5, f6, f7, f8⟩ := HF.out; have f3' := f3.kept HG.out q9 z0; obtain ⟨m0, m1, m2, m3, m4, mf⟩ := V6 f3'.hw; have n0 := f3'.hm.cell; have n1 := f3'.hm.frozen; obtain ⟨_, _, r2, _, _, _⟩ := Y8 f3'.ho; have r5 := f3'.ht.cell; have HE := Z0 (Z2 HG.out f1 f2 f3' f4 q9 f8 HT1.out HK.out HT.out f5 f6 f7); have hne1 : gm ≠ gw := by have := HG.out.1; omega
    have hne2 : go ≠ gw := by have := HG.out.1; omega
    have hne3 : go ≠ gm := by have := HG.out.1; omega
    have hne4 : gt ≠ gw := by have := HG.out.1; omega
    have hne5 : gt ≠ gm := by have := HG.out.1; omega
    have hne6 := hne1.symm; have hne7 := hne2.symm; have hne8 := hne3.symm; have hne9 := hne4.symm; have hne10 := hne5.symm; clear f1 f2 f3 f4 f5 f6 f7 f8 f3' q9 HF HAf; go_wp2; go_ret; exact ⟨⟨_, HE.out.1⟩, HE.out.2, by simp [hA]⟩
   ·have y00 : (yc == 0) = false := by simpa using y0
    by_cases y1c : yc = 1
    ·subst y1c; obtain ⟨gk, hgk⟩ : ∃ g, W2.heap.size = g := ⟨_, rfl⟩
     obtain ⟨WK, hWK⟩ : ∃ V, W2.alloc (.cells #[.int .i64 (k : Int)] 3) = V := ⟨_, rfl⟩
     have qK : Out 0 0 W2 WK := by rw [← hWK]; exact (Out.refl 0 0 _).alloc _
     have fK : Box WK gk 3 (.int .i64 (k : Int)) := by rw [← hWK, ← hgk]; exact heap_alloc_new _ _
     have hbK : b ≤ gk := by have h1 := hP2.b_lt; omega
     have HKe := Z0 (q1x (hP2.quiet qK) (l := [(k : Int)]) (p := some ⟨gk, 0, none⟩) (cp := 1) (.inr ⟨gk, 0, rfl, fK.lt, fun j hj => by
      have : j = 0 := by simpa using hj
      subst this; exact fK.cell⟩) (fun _ g off e => by cases e; exact .inr hbK) (by simp))
     have H2 := Z0 (And.intro hP2 (And.intro hB2 (And.intro hO2 (And.intro hQ2 qK)))); have cG0 := qK.cell (show W2.cell? ⟨gb, 0, none⟩ = _ from HB6.out) z0; clear hP2 hB2 hO2 hQ2 fK hbK; go_wp2_with fail; (try rw [hW2]); (try rw [hgk]); (try rw [hWK]); clear d0 d1 d2 d3 d4 d5 df df2 e0 e1 e2 e3 e4 e5 e6 e7 e8 cA cB cC cP cT cTf cD cDf cM c0 c1 c2 c3 c4; clear hW2 hWK hgk; refine HKe.out.mono ?_; rintro e V1 ⟨rfl, P1, q1⟩; obtain ⟨x1, x2, x3, x4, x5⟩ := H2.out; have x2' := ((x2.kept HG.out x5 z0).kept HG.out q1 (.inr (by have := HG.out.1; omega)))
     have hB3 := x2'.setD HG.out; have q2 : Out gd (gd + 1) V1 (V1.setCell ⟨gd, 0, none⟩ (.bool true)) := (Out.refl _ _ _).setCell (p := ⟨gd, 0, none⟩) z1 _; have hP3 := P1.far q2 (by have := HG.out.1; omega) (fun k hk => HG.out.2 k (by have := HG.out.1; omega)); have hO3 := ((x3.trans (x5.any _ _)).trans q1).past q2 (by have := HG.out.1; omega); have hQ3 : Out 0 (gd + 1) W (V1.setCell ⟨gd, 0, none⟩ (.bool true)) := ((x4.trans (x5.any _ _)).trans (q1.wide (Nat.zero_le _) (by have := HG.out.1; omega))).trans (q2.wide (Nat.zero_le _) (Nat.le_refl _)); have HCh : Hid ((((t + 1 : Nat) : Int) < Bv → kpE n st [(k : Int)] = st0) ∧ (kpE n st [(k : Int)]).last ≤ st0.last + 1) := ⟨fun e => by have := hB.out; omega, by rw [q6w, Hst.out.2 (by have := hB.out; omega)]; omega⟩
     obtain ⟨k0, k1⟩ := (And.intro x2'.hd.cell x2'.hd.frozen)
     have cG := q1.cell cG0 (.inr (by have := HB5.out.2; have := HG.out.1; omega)); obtain ⟨V3, hV3⟩ : ∃ V3, V1.setCell ⟨gd, 0, none⟩ (.bool true) = V3 := ⟨_, rfl⟩
     rw [hV3] at hP3 hB3 hO3 hQ3; have cG3 : V3.cell? ⟨gb, 0, none⟩ = some (.int .i64 (k : Int)) := by rw [← hV3]; exact q2.cell cG (.inr (by have := HB5.out.2; omega))
     have cT := hB3.ht.cell; obtain ⟨_, _, cA, cB, cC, _⟩ := Y8 hB3.ho; have cP := hB3.hp.cell; clear P1 q1 x1 x2 x3 x4 x5 x2' q2 HKe H2 cG0; have HAf := Z1 (hP3.two) (a := k + 1) (by have := HK.out; omega) (x := (k : Int)) (by omega); unfold q6a at HAf; obtain ⟨v0, hv0⟩ : ∃ v, afA n (kpE n st [(k : Int)]) (k + 1) = v := ⟨_, rfl⟩
     obtain ⟨v1, hv1⟩ : ∃ v, afO n (kpE n st [(k : Int)]) (k + 1) = v := ⟨_, rfl⟩
     obtain ⟨v2, hv2⟩ : ∃ v, afM n (kpE n st [(k : Int)]) (k + 1) = v := ⟨_, rfl⟩
     obtain ⟨u1, u2, u3, u4⟩ := v1; rw [hv0, hv1, hv2] at HAf; have HAf := Z0 HAf; have HF := Z0 (And.intro hP3 (And.intro hO3 (And.intro hB3 (And.intro hQ3 (And.intro hv0 (And.intro hv1 (And.intro hv2 HCh.out))))))); clear hP3 hB3 hO3 hQ3 hv0 hv1 hv2; go_wp2_with fail; (try rw [hV3]); clear k0 k1 cT cA cB cC cP cG cG3 hV3; refine HAf.out.mono ?_; rintro e V9 ⟨rfl, q9⟩; obtain ⟨f1, f2, f3, f4, f5, f6, f7, f8⟩ := HF.out; have f3' := f3.kept HG.out q9 z0; obtain ⟨m0, m1, m2, m3, m4, mf⟩ := V6 f3'.hw; have n0 := f3'.hm.cell; have n1 := f3'.hm.frozen; obtain ⟨_, _, r2, _, _, _⟩ := Y8 f3'.ho; have r5 := f3'.ht.cell; have HE := Z0 (Z2 HG.out f1 f2 f3' f4 q9 f8 HT1.out HK.out HT.out f5 f6 f7); have hne1 : gm ≠ gw := by have := HG.out.1; omega
     have hne2 : go ≠ gw := by have := HG.out.1; omega
     have hne3 : go ≠ gm := by have := HG.out.1; omega
     have hne4 : gt ≠ gw := by have := HG.out.1; omega
     have hne5 : gt ≠ gm := by have := HG.out.1; omega
     have hne6 := hne1.symm; have hne7 := hne2.symm; have hne8 := hne3.symm; have hne9 := hne4.symm; have hne10 := hne5.symm; clear f1 f2 f3 f4 f5 f6 f7 f8 f3' q9 HF HAf; go_wp2; go_ret; exact ⟨⟨_, HE.out.1⟩, HE.out.2, by simp [hA]⟩
    ·have y11 : (yc == 1) = false := by simpa using y1c
     have HCq : Hid ((((t + 1 : Nat) : Int) < Bv → st = st0) ∧ st.last ≤ st0.last + 1) := ⟨fun e => by have := hB.out; omega, Hst.out.1⟩
     have HAf := Z1 (hP2.two) (a := k + 1) (by have := HK.out; omega) (x := (k : Int)) (by omega); unfold q6a at HAf; obtain ⟨v0, hv0⟩ : ∃ v, afA n st (k + 1) = v := ⟨_, rfl⟩
     obtain ⟨v1, hv1⟩ : ∃ v, afO n st (k + 1) = v := ⟨_, rfl⟩
     obtain ⟨v2, hv2⟩ : ∃ v, afM n st (k + 1) = v := ⟨_, rfl⟩
     obtain ⟨u1, u2, u3, u4⟩ := v1; rw [hv0, hv1, hv2] at HAf; have HAf := Z0 HAf; have HF := Z0 (And.intro hP2 (And.intro hO2 (And.intro hB2 (And.intro hQ2 (And.intro hv0 (And.intro hv1 (And.intro hv2 HCq.out))))))); clear hP2 hB2 hO2 hQ2 hv0 hv1 hv2; go_wp2_with fail; (try rw [hW2]); clear d0 d1 d2 d3 d4 d5 df df2 e0 e1 e2 e3 e4 e5 e6 e7 e8 cA cB cC cP cT cTf cD cDf cM c0 c1 c2 c3 c4; clear hW2; refine HAf.out.mono ?_; rintro e V9 ⟨rfl, q9⟩; obtain ⟨f1, f2, f3, f4, f5, f6, f7, f8⟩ := HF.out; have f3' := f3.kept HG.out q9 z0; obtain ⟨m0, m1, m2, m3, m4, mf⟩ := V6 f3'.hw; have n0 := f3'.hm.cell; have n1 := f3'.hm.frozen; obtain ⟨_, _, r2, _, _, _⟩ := Y8 f3'.ho; have r5 := f3'.ht.cell; have HE := Z0 (Z2 HG.out f1 f2 f3' f4 q9 f8 HT1.out HK.out HT.out f5 f6 f7); have hne1 : gm ≠ gw := by have := HG.out.1; omega
     have hne2 : go ≠ gw := by have := HG.out.1; omega
     have hne3 : go ≠ gm := by have := HG.out.1; omega
     have hne4 : gt ≠ gw := by have := HG.out.1; omega
     have hne5 : gt ≠ gm := by have := HG.out.1; omega
     have hne6 := hne1.symm; have hne7 := hne2.symm; have hne8 := hne3.symm; have hne9 := hne4.symm; have hne10 := hne5.symm; clear f1 f2 f3 f4 f5 f6 f7 f8 f3' q9 HF HAf; go_wp2; go_ret; exact ⟨⟨_, HE.out.1⟩, HE.out.2, by simp [hA]⟩
  ·have hBb : (T1 == Bv) = false := by simpa using hB0
   have hB : Hid ((t : Int) + 1 ≠ Bv) := fun e => hB0 (hT1.symm.trans e)
   clear hB0; have HCq : Hid ((((t + 1 : Nat) : Int) < Bv → st = st0) ∧ st.last ≤ st0.last + 1) := ⟨fun e => Hst.out.2 (by have := hB.out; omega), Hst.out.1⟩
   have HAf := Z1 (hP2.two) (a := k + 1) (by have := HK.out; omega) (x := (k : Int)) (by omega); unfold q6a at HAf; obtain ⟨v0, hv0⟩ : ∃ v, afA n st (k + 1) = v := ⟨_, rfl⟩
   obtain ⟨v1, hv1⟩ : ∃ v, afO n st (k + 1) = v := ⟨_, rfl⟩
   obtain ⟨v2, hv2⟩ : ∃ v, afM n st (k + 1) = v := ⟨_, rfl⟩
   obtain ⟨u1, u2, u3, u4⟩ := v1; rw [hv0, hv1, hv2] at HAf; have HAf := Z0 HAf; have HF := Z0 (And.intro hP2 (And.intro hO2 (And.intro hB2 (And.intro hQ2 (And.intro hv0 (And.intro hv1 (And.intro hv2 HCq.out))))))); clear hP2 hB2 hO2 hQ2 hv0 hv1 hv2; go_wp2_with fail; (try rw [hW2]); clear d0 d1 d2 d3 d4 d5 df df2 e0 e1 e2 e3 e4 e5 e6 e7 e8 cA cB cC cP cT cTf cD cDf cM c0 c1 c2 c3 c4; clear hW2; refine HAf.out.mono ?_; rintro e V9 ⟨rfl, q9⟩; obtain ⟨f1, f2, f3, f4, f5, f6, f7, f8⟩ := HF.out; have f3' := f3.kept HG.out q9 z0; obtain ⟨m0, m1, m2, m3, m4, mf⟩ := V6 f3'.hw; have n0 := f3'.hm.cell; have n1 := f3'.hm.frozen; obtain ⟨_, _, r2, _, _, _⟩ := Y8 f3'.ho; have r5 := f3'.ht.cell; have HE := Z0 (Z2 HG.out f1 f2 f3' f4 q9 f8 HT1.out HK.out HT.out f5 f6 f7); have hne1 : gm ≠ gw := by have := HG.out.1; omega
   have hne2 : go ≠ gw := by have := HG.out.1; omega
   have hne3 : go ≠ gm := by have := HG.out.1; omega
   have hne4 : gt ≠ gw := by have := HG.out.1; omega
   have hne5 : gt ≠ gm := by have := HG.out.1; omega
   have hne6 := hne1.symm; have hne7 := hne2.symm; have hne8 := hne3.symm; have hne9 := hne4.symm; have hne10 := hne5.symm; clear f1 f2 f3 f4 f5 f6 f7 f8 f3' q9 HF HAf; go_wp2; go_ret; exact ⟨⟨_, HE.out.1⟩, HE.out.2, by simp [hA]⟩
 ·have hA0 : ¬ A ≤ (t : Int) := by omega
  by_cases hB0 : T1 = Bv
  ·have hBb : (T1 == Bv) = true := by simpa using hB0
   have hB : Hid ((t : Int) + 1 = Bv) := hT1.trans hB0; clear hB0; by_cases y0 : yc = 0
   ·subst y0; have HTu := Z0 (q4s hP2 0 1 3 0 (by have := HLs.out; have := Hst.out.1; omega) (by omega) none 0 0); have H2 := Z0 (And.intro hP2 (And.intro hB2 (And.intro hO2 hQ2))); clear hP2 hB2 hO2 hQ2; go_wp2_with fail; (try rw [hW2]); clear d0 d1 d2 d3 d4 d5 df df2 e0 e1 e2 e3 e4 e5 e6 e7 e8 cA cB cC cP cT cTf cD cDf cM c0 c1 c2 c3 c4; clear hW2; refine HTu.out.mono ?_; rintro e V1 ⟨rfl, st1, P1, q1, l1⟩; obtain ⟨x1, x2, x3, x4⟩ := H2.out; have hg := HG.out; have x2' := (x2.kept HG.out q1 (.inr (by have := HG.out.1; omega)))
    have hB3 := x2'.setD HG.out; have q2 : Out gd (gd + 1) V1 (V1.setCell ⟨gd, 0, none⟩ (.bool true)) := (Out.refl _ _ _).setCell (p := ⟨gd, 0, none⟩) z1 _; have hP3 := P1.far q2 (by have := HG.out.1; omega) (fun k hk => HG.out.2 k (by have := HG.out.1; omega)); have hO3 := (x3.trans q1).past q2 (by have := HG.out.1; omega); have hQ3 : Out 0 (gd + 1) W (V1.setCell ⟨gd, 0, none⟩ (.bool true)) := (x4.trans (q1.wide (Nat.zero_le _) (by have := HG.out.1; omega))).trans (q2.wide (Nat.zero_le _) (Nat.le_refl _)); have HCh : Hid ((((t + 1 : Nat) : Int) < Bv → st1 = st0) ∧ st1.last ≤ st0.last + 1) := ⟨fun e => by have := hB.out; omega, by have h1 := Hst.out.1; have h2 := HLs.out; rw [Hst.out.2 (by have := hB.out; omega)] at l1; omega⟩
    obtain ⟨k0, k1⟩ := (And.intro x2'.hd.cell x2'.hd.frozen)
    have cG := q1.cell (HB5.out.1) (.inr (by have := HB5.out.2; have := HG.out.1; omega)); obtain ⟨V3, hV3⟩ : ∃ V3, V1.setCell ⟨gd, 0, none⟩ (.bool true) = V3 := ⟨_, rfl⟩
    rw [hV3] at hP3 hB3 hO3 hQ3; have cG3 : V3.cell? ⟨gb, 0, none⟩ = some (.int .i64 (k : Int)) := by rw [← hV3]; exact q2.cell cG (.inr (by have := HB5.out.2; omega))
    have cT := hB3.ht.cell; obtain ⟨_, _, cA, cB, cC, _⟩ := Y8 hB3.ho; have cP := hB3.hp.cell; clear P1 q1 l1 x1 x2 x3 x4 x2' q2 HTu H2 hg; have HAf := Z1 (hP3.two) (a := k + 1) (by have := HK.out; omega) (x := (k : Int)) (by omega); unfold q6a at HAf; obtain ⟨v0, hv0⟩ : ∃ v, afA n st1 (k + 1) = v := ⟨_, rfl⟩
    obtain ⟨v1, hv1⟩ : ∃ v, afO n st1 (k + 1) = v := ⟨_, rfl⟩
    obtain ⟨v2, hv2⟩ : ∃ v, afM n st1 (k + 1) = v := ⟨_, rfl⟩
    obtain ⟨u1, u2, u3, u4⟩ := v1; rw [hv0, hv1, hv2] at HAf; have HAf := Z0 HAf; have HF := Z0 (And.intro hP3 (And.intro hO3 (And.intro hB3 (And.intro hQ3 (And.intro hv0 (And.intro hv1 (And.intro hv2 HCh.out))))))); clear hP3 hB3 hO3 hQ3 hv0 hv1 hv2; go_wp2_with fail; (try rw [hV3]); clear k0 k1 cT cA cB cC cP cG cG3 hV3; refine HAf.out.mono ?_; rintro e V9 ⟨rfl, q9⟩; obtain ⟨f1, f2, f3, f4, f5, f6, f7, f8⟩ := HF.out; have f3' := f3.kept HG.out q9 z0; obtain ⟨m0, m1, m2, m3, m4, mf⟩ := V6 f3'.hw; have n0 := f3'.hm.cell; have n1 := f3'.hm.frozen; obtain ⟨_, _, r2, _, _, _⟩ := Y8 f3'.ho; have r5 := f3'.ht.cell; have HE := Z0 (Z2 HG.out f1 f2 f3' f4 q9 f8 HT1.out HK.out HT.out f5 f6 f7); have hne1 : gm ≠ gw := by have := HG.out.1; omega
    have hne2 : go ≠ gw := by have := HG.out.1; omega
    have hne3 : go ≠ gm := by have := HG.out.1; omega
    have hne4 : gt ≠ gw := by have := HG.out.1; omega
    have hne5 : gt ≠ gm := by have := HG.out.1; omega
    have hne6 := hne1.symm; have hne7 := hne2.symm; have hne8 := hne3.symm; have hne9 := hne4.symm; have hne10 := hne5.symm; clear f1 f2 f3 f4 f5 f6 f7 f8 f3' q9 HF HAf; have hA2 : ¬ A < 1 := by omega
    by_cases hA3 : T1 < A
    ·go_wp2; go_ret; exact ⟨⟨_, HE.out.1⟩, HE.out.2, by have := HT1.out; rw [this]; simp [hA3]⟩
    ·go_wp2; go_ret; exact ⟨⟨_, HE.out.1⟩, HE.out.2, by have := HT1.out; rw [this]; simp [hA2, hA3]⟩
   ·have y00 : (yc == 0) = false := by simpa using y0
    by_cases y1c : yc = 1
    ·subst y1c; obtain ⟨gk, hgk⟩ : ∃ g, W2.heap.size = g := ⟨_, rfl⟩
     obtain ⟨WK, hWK⟩ : ∃ V, W2.alloc (.cells #[.int .i64 (k : Int)] 3) = V := ⟨_, rfl⟩
     have qK : Out 0 0 W2 WK := by rw [← hWK]; exact (Out.refl 0 0 _).alloc _
     have fK : Box WK gk 3 (.int .i64 (k : Int)) := by rw [← hWK, ← hgk]; exact heap_alloc_new _ _
     have hbK : b ≤ gk := by have h1 := hP2.b_lt; omega
     have HKe := Z0 (q1x (hP2.quiet qK) (l := [(k : Int)]) (p := some ⟨gk, 0, none⟩) (cp := 1) (.inr ⟨gk, 0, rfl, fK.lt, fun j hj => by
      have : j = 0 := by simpa using hj
      subst this; exact fK.cell⟩) (fun _ g off e => by cases e; exact .inr hbK) (by simp))
     have H2 := Z0 (And.intro hP2 (And.intro hB2 (And.intro hO2 (And.intro hQ2 qK)))); have cG0 := qK.cell (show W2.cell? ⟨gb, 0, none⟩ = _ from HB6.out) z0; clear hP2 hB2 hO2 hQ2 fK hbK; go_wp2_with fail; (try rw [hW2]); (try rw [hgk]); (try rw [hWK]); clear d0 d1 d2 d3 d4 d5 df df2 e0 e1 e2 e3 e4 e5 e6 e7 e8 cA cB cC cP cT cTf cD cDf cM c0 c1 c2 c3 c4; clear hW2 hWK hgk; refine HKe.out.mono ?_; rintro e V1 ⟨rfl, P1, q1⟩; obtain ⟨x1, x2, x3, x4, x5⟩ := H2.out; have x2' := ((x2.kept HG.out x5 z0).kept HG.out q1 (.inr (by have := HG.out.1; omega)))
     have hB3 := x2'.setD HG.out; have q2 : Out gd (gd + 1) V1 (V1.setCell ⟨gd, 0, none⟩ (.bool true)) := (Out.refl _ _ _).setCell (p := ⟨gd, 0, none⟩) z1 _; have hP3 := P1.far q2 (by have := HG.out.1; omega) (fun k hk => HG.out.2 k (by have := HG.out.1; omega)); have hO3 := ((x3.trans (x5.any _ _)).trans q1).past q2 (by have := HG.out.1; omega); have hQ3 : Out 0 (gd + 1) W (V1.setCell ⟨gd, 0, none⟩ (.bool true)) := ((x4.trans (x5.any _ _)).trans (q1.wide (Nat.zero_le _) (by have := HG.out.1; omega))).trans (q2.wide (Nat.zero_le _) (Nat.le_refl _)); have HCh : Hid ((((t + 1 : Nat) : Int) < Bv → kpE n st [(k : Int)] = st0) ∧ (kpE n st [(k : Int)]).last ≤ st0.last + 1) := ⟨fun e => by have := hB.out; omega, by rw [q6w, Hst.out.2 (by have := hB.out; omega)]; omega⟩
     obtain ⟨k0, k1⟩ := (And.intro x2'.hd.cell x2'.hd.frozen)
     have cG := q1.cell cG0 (.inr (by have := HB5.out.2; have := HG.out.1; omega)); obtain ⟨V3, hV3⟩ : ∃ V3, V1.setCell ⟨gd, 0, none⟩ (.bool true) = V3 := ⟨_, rfl⟩
     rw [hV3] at hP3 hB3 hO3 hQ3; have cG3 : V3.cell? ⟨gb, 0, none⟩ = some (.int .i64 (k : Int)) := by rw [← hV3]; exact q2.cell cG (.inr (by have := HB5.out.2; omega))
     have cT := hB3.ht.cell; obtain ⟨_, _, cA, cB, cC, _⟩ := Y8 hB3.ho; have cP := hB3.hp.cell; clear P1 q1 x1 x2 x3 x4 x5 x2' q2 HKe H2 cG0; have HAf := Z1 (hP3.two) (a := k + 1) (by have := HK.out; omega) (x := (k : Int)) (by omega); unfold q6a at HAf; obtain ⟨v0, hv0⟩ : ∃ v, afA n (kpE n st [(k : Int)]) (k + 1) = v := ⟨_, rfl⟩
     obtain ⟨v1, hv1⟩ : ∃ v, afO n (kpE n st [(k : Int)]) (k + 1) = v := ⟨_, rfl⟩
     obtain ⟨v2, hv2⟩ : ∃ v, afM n (kpE n st [(k : Int)]) (k + 1) = v := ⟨_, rfl⟩
     obtain ⟨u1, u2, u3, u4⟩ := v1; rw [hv0, hv1, hv2] at HAf; have HAf := Z0 HAf; have HF := Z0 (And.intro hP3 (And.intro hO3 (And.intro hB3 (And.intro hQ3 (And.intro hv0 (And.intro hv1 (And.intro hv2 HCh.out))))))); clear hP3 hB3 hO3 hQ3 hv0 hv1 hv2; go_wp2_with fail; (try rw [hV3]); clear k0 k1 cT cA cB cC cP cG cG3 hV3; refine HAf.out.mono ?_; rintro e V9 ⟨rfl, q9⟩; obtain ⟨f1, f2, f3, f4, f5, f6, f7, f8⟩ := HF.out; have f3' := f3.kept HG.out q9 z0; obtain ⟨m0, m1, m2, m3, m4, mf⟩ := V6 f3'.hw; have n0 := f3'.hm.cell; have n1 := f3'.hm.frozen; obtain ⟨_, _, r2, _, _, _⟩ := Y8 f3'.ho; have r5 := f3'.ht.cell; have HE := Z0 (Z2 HG.out f1 f2 f3' f4 q9 f8 HT1.out HK.out HT.out f5 f6 f7); have hne1 : gm ≠ gw := by have := HG.out.1; omega
     have hne2 : go ≠ gw := by have := HG.out.1; omega
     have hne3 : go ≠ gm := by have := HG.out.1; omega
     have hne4 : gt ≠ gw := by have := HG.out.1; omega
     have hne5 : gt ≠ gm := by have := HG.out.1; omega
     have hne6 := hne1.symm; have hne7 := hne2.symm; have hne8 := hne3.symm; have hne9 := hne4.symm; have hne10 := hne5.symm; clear f1 f2 f3 f4 f5 f6 f7 f8 f3' q9 HF HAf; have hA2 : ¬ A < 1 := by omega
     by_cases hA3 : T1 < A
     ·go_wp2; go_ret; exact ⟨⟨_, HE.out.1⟩, HE.out.2, by have := HT1.out; rw [this]; simp [hA3]⟩
     ·go_wp2; go_ret; exact ⟨⟨_, HE.out.1⟩, HE.out.2, by have := HT1.out; rw [this]; simp [hA2, hA3]⟩
    ·have y11 : (yc == 1) = false := by simpa using y1c
     have HCq : Hid ((((t + 1 : Nat) : Int) < Bv → st = st0) ∧ st.last ≤ st0.last + 1) := ⟨fun e => by have := hB.out; omega, Hst.out.1⟩
     have HAf := Z1 (hP2.two) (a := k + 1) (by have := HK.out; omega) (x := (k : Int)) (by omega); unfold q6a at HAf; obtain ⟨v0, hv0⟩ : ∃ v, afA n st (k + 1) = v := ⟨_, rfl⟩
     obtain ⟨v1, hv1⟩ : ∃ v, afO n st (k + 1) = v := ⟨_, rfl⟩
     obtain ⟨v2, hv2⟩ : ∃ v, afM n st (k + 1) = v := ⟨_, rfl⟩
     obtain ⟨u1, u2, u3, u4⟩ := v1; rw [hv0, hv1, hv2] at HAf; have HAf := Z0 HAf; have HF := Z0 (And.intro hP2 (And.intro hO2 (And.intro hB2 (And.intro hQ2 (And.intro hv0 (And.intro hv1 (And.intro hv2 HCq.out))))))); clear hP2 hB2 hO2 hQ2 hv0 hv1 hv2; go_wp2_with fail; (try rw [hW2]); clear d0 d1 d2 d3 d4 d5 df df2 e0 e1 e2 e3 e4 e5 e6 e7 e8 cA cB cC cP cT cTf cD cDf cM c0 c1 c2 c3 c4; clear hW2; refine HAf.out.mono ?_; rintro e V9 ⟨rfl, q9⟩; obtain ⟨f1, f2, f3, f4, f5, f6, f7, f8⟩ := HF.out; have f3' := f3.kept HG.out q9 z0; obtain ⟨m0, m1, m2, m3, m4, mf⟩ := V6 f3'.hw; have n0 := f3'.hm.cell; have n1 := f3'.hm.frozen; obtain ⟨_, _, r2, _, _, _⟩ := Y8 f3'.ho; have r5 := f3'.ht.cell; have HE := Z0 (Z2 HG.out f1 f2 f3' f4 q9 f8 HT1.out HK.out HT.out f5 f6 f7); have hne1 : gm ≠ gw := by have := HG.out.1; omega
     have hne2 : go ≠ gw := by have := HG.out.1; omega
     have hne3 : go ≠ gm := by have := HG.out.1; omega
     have hne4 : gt ≠ gw := by have := HG.out.1; omega
     have hne5 : gt ≠ gm := by have := HG.out.1; omega
     have hne6 := hne1.symm; have hne7 := hne2.symm; have hne8 := hne3.symm; have hne9 := hne4.symm; have hne10 := hne5.symm; clear f1 f2 f3 f4 f5 f6 f7 f8 f3' q9 HF HAf; have hA2 : ¬ A < 1 := by omega
     by_cases hA3 : T1 < A
     ·go_wp2; go_ret; exact ⟨⟨_, HE.out.1⟩, HE.out.2, by have := HT1.out; rw [this]; simp [hA3]⟩
     ·go_wp2; go_ret; exact ⟨⟨_, HE.out.1⟩, HE.out.2, by have := HT1.out; rw [this]; simp [hA2, hA3]⟩
  ·have hBb : (T1 == Bv) = false := by simpa using hB0
   have hB : Hid ((t : Int) + 1 ≠ Bv) := fun e => hB0 (hT1.symm.trans e)
   clear hB0; have HCq : Hid ((((t + 1 : Nat) : Int) < Bv → st = st0) ∧ st.last ≤ st0.last + 1) := ⟨fun e => Hst.out.2 (by have := hB.out; omega), Hst.out.1⟩
   have HAf := Z1 (hP2.two) (a := k + 1) (by have := HK.out; omega) (x := (k : Int)) (by omega); unfold q6a at HAf; obtain ⟨v0, hv0⟩ : ∃ v, afA n st (k + 1) = v := ⟨_, rfl⟩
   obtain ⟨v1, hv1⟩ : ∃ v, afO n st (k + 1) = v := ⟨_, rfl⟩
   obtain ⟨v2, hv2⟩ : ∃ v, afM n st (k + 1) = v := ⟨_, rfl⟩
   obtain ⟨u1, u2, u3, u4⟩ := v1; rw [hv0, hv1, hv2] at HAf; have HAf := Z0 HAf; have HF := Z0 (And.intro hP2 (And.intro hO2 (And.intro hB2 (And.intro hQ2 (And.intro hv0 (And.intro hv1 (And.intro hv2 HCq.out))))))); clear hP2 hB2 hO2 hQ2 hv0 hv1 hv2; go_wp2_with fail; (try rw [hW2]); clear d0 d1 d2 d3 d4 d5 df df2 e0 e1 e2 e3 e4 e5 e6 e7 e8 cA cB cC cP cT cTf cD cDf cM c0 c1 c2 c3 c4; clear hW2; refine HAf.out.mono ?_; rintro e V9 ⟨rfl, q9⟩; obtain ⟨f1, f2, f3, f4, f5, f6, f7, f8⟩ := HF.out; have f3' := f3.kept HG.out q9 z0; obtain ⟨m0, m1, m2, m3, m4, mf⟩ := V6 f3'.hw; have n0 := f3'.hm.cell; have n1 := f3'.hm.frozen; obtain ⟨_, _, r2, _, _, _⟩ := Y8 f3'.ho; have r5 := f3'.ht.cell; have HE := Z0 (Z2 HG.out f1 f2 f3' f4 q9 f8 HT1.out HK.out HT.out f5 f6 f7); have hne1 : gm ≠ gw := by have := HG.out.1; omega
   have hne2 : go ≠ gw := by have := HG.out.1; omega
   have hne3 : go ≠ gm := by have := HG.out.1; omega
   have hne4 : gt ≠ gw := by have := HG.out.1; omega
   have hne5 : gt ≠ gm := by have := HG.out.1; omega
   have hne6 := hne1.symm; have hne7 := hne2.symm; have hne8 := hne3.symm; have hne9 := hne4.symm; have hne10 := hne5.symm; clear f1 f2 f3 f4 f5 f6 f7 f8 f3' q9 HF HAf; have hA2 : ¬ A < 1 := by omega
   by_cases hA3 : T1 < A
   ·go_wp2; go_ret; exact ⟨⟨_, HE.out.1⟩, HE.out.2, by have := HT1.out; rw [this]; simp [hA3]⟩
   ·go_wp2; go_ret; exact ⟨⟨_, HE.out.1⟩, HE.out.2, by have := HT1.out; rw [this]; simp [hA2, hA3]⟩
end
section
variable {B : Nat} {w W W' : World} {b lo m n cap cw co c : Nat} {s sr : Nat → Nat} {st : Sp} {col : Nat → Nat} {z : Bool} {o0 A Bv Cv : Int} {lp : Option Addr} {ll lc : Nat}
theorem PS.recol {col' : Nat → Nat} (h : PS B w b lo m m b s sr n cap cw co st col z c) (e : ∀ k, k < w.heap.size → col' k = col k) : PS B w b lo m m b s sr n cap cw co st col' z c :=
 ⟨h.sp, h.rf, h.ks.recol e, fun k hk => by
  have h1 := h.sp.1.top; have h2 := h.rf.top; have h3 := h.sp.1.glob; have h4 := h.le; have h5 := h.rf.glob; rw [e k (by omega)]; exact h.c7 k hk, h.le⟩
theorem K3 (h : PS B w b lo m m b s sr n cap cw co st col z c) (hlast : st.last < 4611686018427387900) : Calls Tryz.prog 31 #[.pointer (some ⟨b, 0, none⟩), .agg #[.int .i64 o0, .int .i64 17, .int .i64 A, .int .i64 Bv, .int .i64 Cv, .slice lp ll lc]] w fun e w' => e = .returned (.bool true) ∧ ∃ st' col', PS B w' b lo m m b s sr n cap cw co st' col' z c ∧ Out lo b w w' ∧ st'.last ≤ st.last + 1 ∧ ∀ k, k < w.heap.size → col' k = col k := by
 obtain ⟨cG, hcG⟩ : ∃ cG : Nat → Nat, cG = fun k => if k < w.heap.size then col k else 9 := ⟨_, rfl⟩
 have hag : ∀ k, k < w.heap.size → cG k = col k := fun k hk => by rw [hcG]; exact if_pos hk
 have h9 : ∀ k, w.heap.size ≤ k → cG k = 9 := fun k hk => by rw [hcG]; exact if_neg (by omega)
 have hP := h.recol hag; obtain ⟨gp, hgp⟩ : ∃ g, w.heap.size = g := ⟨_, rfl⟩
 have hbp : b < gp := by have := h.b_lt; omega
 have HP := Z0 hP; have HAg := Z0 (And.intro hag h9); have HL := Z0 hlast; obtain ⟨W1, hW1⟩ : ∃ V, (w.alloc (.cells #[.pointer (some ⟨b, 0, none⟩)] 22)).alloc (.cells #[.int .i64 o0, .int .i64 17, .int .i64 A, .int .i64 Bv, .int .i64 Cv, .slice lp ll lc] 29) = V := ⟨_, rfl⟩
 have q1 : Out 0 0 w W1 := by rw [← hW1]; exact ((Out.refl 0 0 _).alloc _).alloc _
 have f1 : Box W1 gp 22 (.pointer (some ⟨b, 0, none⟩)) := by rw [← hW1, ← hgp]; exact K4
 have f2 : W1.heap[gp + 1]? = some (.cells #[.int .i64 o0, .int .i64 17, .int .i64 A, .int .i64 Bv, .int .i64 Cv, .slice lp ll lc] 29 (0, 0)) := by rw [← hW1, ← hgp]; exact heap_alloc2_new _ _ _
 have s1 : W1.heap.size = gp + 2 := by rw [← hW1, ← hgp]; simp
 have c1 := f1.cell; have HAf := Z1 ((hP.quiet q1).two) (a := 0) (Nat.zero_le _) (x := -1) (by omega); unfold q6a at HAf; obtain ⟨v0, hv0⟩ : ∃ v, afA n st 0 = v := ⟨_, rfl⟩
 obtain ⟨v1, hv1⟩ : ∃ v, afO n st 0 = v := ⟨_, rfl⟩
 obtain ⟨v2, hv2⟩ : ∃ v, afM n st 0 = v := ⟨_, rfl⟩
 obtain ⟨u1, u2, u3, u4⟩ := v1; rw [hv0, hv1, hv2] at HAf; have HAf := Z0 HAf; have HV := Z0 (And.intro hv0 (And.intro hv1 hv2)); have H1 := Z0 (And.intro q1 (And.intro f1 (And.intro f2 s1))); clear h hlast hag h9 hP hcG q1 f2 s1 hv0 hv1 hv2; go_enter Tryz.func31, Tryz.ntmps31
 go_wp2_with fail; refine HAf.out.mono ?_; rintro e W2 ⟨rfl, q2⟩; have f3 := (f1.kept q2 z0)
 obtain ⟨gw, hgw⟩ : ∃ g, W2.heap.size = g := ⟨_, rfl⟩
 obtain ⟨gm, hgm⟩ : ∃ g, gw + 1 = g := ⟨_, rfl⟩
 obtain ⟨gt, hgt⟩ : ∃ g, gm + 1 = g := ⟨_, rfl⟩
 obtain ⟨gd, hgd⟩ : ∃ g, gt + 1 = g := ⟨_, rfl⟩
 obtain ⟨go, hgo⟩ : ∃ g, gp + 1 = g := ⟨_, rfl⟩
 obtain ⟨Wa, hWa⟩ : ∃ V, W2.alloc (.cells #[.int .i64 v0, .int .i64 u1, .int .i64 u2, .int .i64 u3, .int .i64 u4] 92) = V := ⟨_, rfl⟩
 obtain ⟨Wb, hWb⟩ : ∃ V, Wa.alloc (.cells #[.bool v2] 4) = V := ⟨_, rfl⟩
 obtain ⟨Wc, hWc⟩ : ∃ V, Wb.alloc (.cells #[.int .i64 0] 3) = V := ⟨_, rfl⟩
 obtain ⟨W3, hW3⟩ : ∃ V, Wc.alloc (.cells #[.bool true] 4) = V := ⟨_, rfl⟩
 have qa : Out 0 0 W2 Wa := by rw [← hWa]; exact (Out.refl 0 0 _).alloc _
 have qb : Out 0 0 Wa Wb := by rw [← hWb]; exact (Out.refl 0 0 _).alloc _
 have qc : Out 0 0 Wb Wc := by rw [← hWc]; exact (Out.refl 0 0 _).alloc _
 have qd : Out 0 0 Wc W3 := by rw [← hW3]; exact (Out.refl 0 0 _).alloc _
 have sa : Wa.heap.size = gm := by rw [← hWa, World.size_alloc, hgw, hgm]
 have sb : Wb.heap.size = gt := by rw [← hWb, World.size_alloc, sa, hgt]
 have sc : Wc.heap.size = gd := by rw [← hWc, World.size_alloc, sb, hgd]
 have s3 : W3.heap.size = gd + 1 := by rw [← hW3, World.size_alloc, sc]
 have ka : Wa.heap[gw]? = some (.cells #[.int .i64 v0, .int .i64 u1, .int .i64 u2, .int .i64 u3, .int .i64 u4] 92 (0, 0)) := by rw [← hWa, ← hgw]; exact heap_alloc_new _ _
 have kb : Box Wb gm 4 (.bool v2) := by rw [← hWb, ← sa]; exact heap_alloc_new _ _
 have kc : Box Wc gt 3 (.int .i64 0) := by rw [← hWc, ← sb]; exact heap_alloc_new _ _
 have kd : Box W3 gd 4 (.bool true) := by rw [← hW3, ← sc]; exact heap_alloc_new _ _
 have q23 : Out 0 0 W2 W3 := ((qa.trans qb).trans qc).trans qd; have f3' := f3.kept q23 z0; have HGF : Hid (GF w b lo gp go gw gm gt gd cG) := ⟨⟨by have := HP.out.le; omega, hbp, by omega, by have := q2.size; have := H1.out.2.2.2; omega, by omega, by omega, by omega, by omega⟩, fun k hk => HAg.out.2 k (by omega)⟩
 have hgb : GB b gp go gw gm gt gd o0 A Bv Cv lp ll lc v0 (u1, u2, u3, u4) v2 0 W3 := ⟨f3', q23.heap (q2.heap (by rw [← hgo]; exact H1.out.2.2.1) z0) z0, ((qb.trans qc).trans qd).heap ka z0, (qc.trans qd).heap kb z0, qd.heap kc z0, kd⟩
 have q03 : Out 0 0 w W3 := (H1.out.1.trans q2).trans q23; have hgs : GS B w b lo m n cap cw co c s sr st cG z gp go gw gm gt gd o0 A Bv Cv lp ll lc st 0 0 W3 := ⟨HP.out.quiet q03, q03.any _ _, by rw [HV.out.1, HV.out.2.1, HV.out.2.2]; exact hgb, ⟨fun _ => rfl, by omega⟩, ⟨Nat.le_refl _, Nat.zero_le _⟩⟩
 have c4 := f3'.cell; have c5 := hgs.ps.ks.cells.1; have HGs := Z0 hgs; have hSA := z4i (s 14) W3; obtain ⟨gA, hgA⟩ : ∃ g, W3.heap.size = g := ⟨_, rfl⟩
 obtain ⟨W4, hW4⟩ : ∃ V, W3.alloc (.cells #[.pointer (some ⟨s 14, 0, none⟩)] 34) = V := ⟨_, rfl⟩
 have q34 : Out 0 0 W3 W4 := by rw [← hW4]; exact (Out.refl 0 0 _).alloc _
 have kA : Box W4 gA 34 (.pointer (some ⟨s 14, 0, none⟩)) := by rw [← hW4, ← hgA]; exact heap_alloc_new _ _
 have s4 : W4.heap.size = gA + 1 := by rw [← hW4, World.size_alloc, hgA]
 have hgA2 : gA = gd + 1 := by omega
 rw [hgA, hW4] at hSA; have HSA := Z0 hSA; have HW4 := Z0 (And.intro q34 (And.intro kA (And.intro s4 hgA2))); have hAll : Calls Tryz.prog 117 #[.func (.func 69) #[] #[.pointer (some ⟨gd, 0, none⟩), .pointer (some ⟨gm, 0, none⟩), .pointer (some ⟨gw, 0, none⟩), .pointer (some ⟨go, 0, none⟩), .pointer (some ⟨gt, 0, none⟩), .pointer (some ⟨gp, 0, none⟩)], .pointer (some ⟨gA, 0, none⟩)] W4 fun e w' => (∃ v, e = .returned v) ∧ ((∃ st' t i, GS B w b lo m n cap cw co c s sr st cG z gp go gw gm gt gd o0 A Bv Cv lp ll lc st' t i w' ∧ afM n st' i = false) ∨ (∃ st' t i, GS B w b lo m n cap cw co c s sr st cG z gp go gw gm gt gd o0 A Bv Cv lp ll lc st' t i w' ∧ (1 ≤ A ∧ (t : Int) = A) ∧ Box w' gA 34 (.pointer (some ⟨s 14, 0, none⟩)))) := by
  have hG := HGF.out; have hgd2 := hgA2; refine K2 (lo := lo) (hi := m) (n := n) (cap := cap) (g := gA) (s := s) (I := fun p W => ∃ st' t, GS B w b lo m n cap cw co c s sr st cG z gp go gw gm gt gd o0 A Bv Cv lp ll lc st' t p W ∧ (A < 1 ∨ (t : Int) < A) ∧ Box W gA 34 (.pointer (some ⟨s 14, 0, none⟩)))
   (J := fun W => ∃ st' t i, GS B w b lo m n cap cw co c s sr st cG z gp go gw gm gt gd o0 A Bv Cv lp ll lc st' t i W ∧ afM n st' i = false) (Jx := fun W => ∃ st' t i, GS B w b lo m n cap cw co c s sr st cG z gp go gw gm gt gd o0 A Bv Cv lp ll lc st' t i W ∧ (1 ≤ A ∧ (t : Int) = A) ∧ Box W gA 34 (.pointer (some ⟨s 14, 0, none⟩))) ?_ ?_ ?_ ?_ ?_ ?_ ?_ ?_
  ·rintro p W ⟨st', t, g1, g2, g3⟩; exact ⟨g1.tl.2, _, g1.ps.sp.1, B7 st', g3⟩
  ·rintro p V V' x y ⟨st', t, g1, g2, g3⟩ o hx; exact ⟨st', t, g1.kept hG o (by omega), g2, g3.kept o (by omega)⟩
  ·rintro V V' x y ⟨st', t, i, g1, g2⟩ o hx; exact ⟨st', t, i, g1.kept hG o (by omega), g2⟩
  ·rintro V V' x y ⟨st', t, i, g1, g2, g3⟩ o hx; exact ⟨st', t, i, g1.kept hG o (by omega), g2, g3.kept o (by omega)⟩
  ·rintro p V r k bk ⟨st', t, g1, g2, g3⟩ hr hn hb; obtain ⟨r1, r2⟩ := z2j hr g1.ps.sp.1; rw [r1] at hn; rw [r2] at hb; have hn' : nxr (ob n st') (64 * n) p = (k : Int) := hn; have hob : st'.O k = bk := by
    have hb' : obM st' (k : Int) = some bk := hb; unfold obM at hb'; split at hb'
    ·rw [show ((k : Nat) : Int).toNat = k from by omega] at hb'; exact Option.some.inj hb'
    ·cases hb'
   obtain ⟨y1, y2, y3, y4⟩ := bk; refine (K0 hG g1 HL.out g2 hn' hob).mono ?_; rintro e V' ⟨⟨st2, g4⟩, q, rfl⟩; refine ⟨(q.wide (Nat.le_refl _) (by omega)).sv, ?_⟩; have g5 := g3.kept q (.inr (by omega)); by_cases a1 : A < 1
   ·exact .inl ⟨by simp [a1], st2, t + 1, g4, .inl a1, g5⟩
   ·by_cases a2 : (t : Int) + 1 < A
    ·exact .inl ⟨by simp [a2], st2, t + 1, g4, .inr (by omega), g5⟩
    ·exact .inr ⟨by simp [a1, a2], st2, t + 1, _, g4, ⟨by omega, by omega⟩, g5⟩
  ·rintro V ⟨st', t, i, g1, g2, g3⟩; exact ⟨_, g1.ps.sp.1, g3⟩
  ·rintro p V r ⟨st', t, g1, g2, g3⟩ hr hn; obtain ⟨r1, r2⟩ := z2j hr g1.ps.sp.1; rw [r1] at hn; exact ⟨st', t, p, g1, (V4 hn).1⟩
  ·exact ⟨st, 0, HGs.out.kept hG q34 (.inr rfl), by omega, kA⟩
 have HAll := Z0 hAll; clear hAll hSA q34 kA s4 hgA2 hgs hgb q03 q23 f3 f3' ka kb kc kd qa qb qc qd sa sb sc s3 q2; have HEq := Z0 (And.intro hWa (And.intro hWb (And.intro hWc (And.intro hW3 (And.intro hgm (And.intro hgt (And.intro hgd hgo))))))); rw [← hW3, ← hWc, ← hWb, ← hWa] at c4 c5; clear hWa hWb hWc hW3 hgm hgt hgd hgA hW4; go_wp2_with fail; obtain ⟨hWa, hWb, hWc, hW3, hgm, hgt, hgd, hgo⟩ := HEq.out; rw [hWa, hWb, hWc, hW3]; (try rw [hgm]); (try rw [hgt]); (try rw [hgd]); clear hWa hWb hWc hW3 hgm hgt hgd; refine HSA.out.mono ?_; rintro e V ⟨rfl, rfl⟩; clear c4 c5 HEq; go_wp2_with fail; refine HAll.out.mono ?_; rintro e W5 ⟨⟨vv, rfl⟩, hJ⟩; clear HAll HSA; rcases hJ with ⟨st', t, i, g1, g2⟩ | ⟨st', t, i, g1, ⟨g2, g3⟩, -⟩
 ·have r1 := g1.gb.hd.cell; have r2 := g1.gb.hm.cell; rw [g2] at r2; have FIN : Hid (∃ st' col', PS B W5 b lo m m b s sr n cap cw co st' col' z c ∧ Out lo b w W5 ∧ st'.last ≤ st.last + 1 ∧ ∀ k, k < w.heap.size → col' k = col k) := ⟨st', cG, g1.ps, g1.o, g1.ch.2, HAg.out.1⟩
  clear g1 g2; go_wp2; go_ret; exact ⟨rfl, FIN.out⟩
 ·have r1 := g1.gb.hd.cell; have r2 := g1.gb.hm.cell; obtain ⟨_, _, r3, _⟩ := Y8 g1.gb.ho; have r4 := g1.gb.ht.cell; rw [g3] at r4; have r5 : (A == A) = true := by simp
  have FIN : Hid (∃ st' col', PS B W5 b lo m m b s sr n cap cw co st' col' z c ∧ Out lo b w W5 ∧ st'.last ≤ st.last + 1 ∧ ∀ k, k < w.heap.size → col' k = col k) := ⟨st', cG, g1.ps, g1.o, g1.ch.2, HAg.out.1⟩
  generalize afM n st' i = mv at r2
  clear g1 g3; cases mv with
  | false =>
   go_wp2; go_ret; exact ⟨rfl, FIN.out⟩
  | true =>
   go_wp2; go_ret; exact ⟨rfl, FIN.out⟩
end
section
variable {B : Nat} {w w' : World} {b lo hi m n cap cw co c : Nat} {s sr : Nat → Nat} {st st' : Sp} {col col' : Nat → Nat} {z : Bool}
theorem X5 (h : PS B w b lo m m b s sr n cap cw co st col z c) (o0 o2 o3 o4 : Int) (hlast : st.last < 4611686018427387900) (lp : Option Addr) (ll lc : Nat) : Calls Tryz.prog 11 #[.pointer (some ⟨b, 0, none⟩), .agg #[.int .i64 o0, .int .i64 17, .int .i64 o2, .int .i64 o3, .int .i64 o4, .slice lp ll lc]] w fun e w' => e = .returned (.bool true) ∧ ∃ st' col', PS B w' b lo m m b s sr n cap cw co st' col' z c ∧ Out lo b w w' ∧ st'.last ≤ st.last + 1 ∧ ∀ k, k < w.heap.size → col' k = col k := by
 have HP := Z0 h; obtain ⟨bo, hbo⟩ : ∃ bo, w.heap.size = bo := ⟨_, rfl⟩
 have HBo : Hid (b < bo) := by rw [← hbo]; exact h.b_lt
 clear h; go_enter Tryz.func11, Tryz.ntmps11
 go_wp2_with fail; obtain ⟨W, hW⟩ : ∃ W, w.alloc (.cells #[.int .i64 o0, .int .i64 17, .int .i64 o2, .int .i64 o3, .int .i64 o4, .slice lp ll lc] 29) = W := ⟨_, rfl⟩
 have oW : Out 0 0 w W := by rw [← hW]; exact (Out.refl 0 0 _).alloc _
 have fO : W.heap[bo]? = some (.cells #[.int .i64 o0, .int .i64 17, .int .i64 o2, .int .i64 o3, .int .i64 o4, .slice lp ll lc] 29 (0, 0)) := by rw [← hW, ← hbo]; exact heap_alloc_new _ _
 (try rw [hW]); clear hW hbo; obtain ⟨x0, x1, x2, x3, x4, x5⟩ := Y8 fO; have HGo := Z0 (K3 (HP.out.quiet oW) (o0 := o0) (A := o2) (Bv := o3) (Cv := o4) (lp := lp) (ll := ll) (lc := lc) hlast); have HO := Z0 oW; clear oW fO hlast; go_wp2_with fail; refine HGo.out.mono ?_; rintro e V ⟨rfl, st', col', P, q, l, ag⟩; have hE : Hid (∃ st' col', PS B V b lo m m b s sr n cap cw co st' col' z c ∧ Out lo b w V ∧ st'.last ≤ st.last + 1 ∧ ∀ k, k < w.heap.size → col' k = col k) := ⟨st', col', P, (HO.out.any lo b).trans q, l, fun k hk => ag k (Nat.lt_of_lt_of_le hk HO.out.size)⟩
 clear P q l ag; go_wp2; go_ret; exact ⟨rfl, hE.out⟩
end
section
variable {B : Nat} {w w' : World} {q : Pr} {st st' : Sp} {col col' : Nat → Nat} {c : Nat}
theorem K6 (h : PQ B w q st col true c) {e : Ending} (g : e = .returned (.bool true) ∧ ∃ col', PS B w' q.b q.lo q.m q.m q.b q.s q.sr q.n q.cap q.cw q.co st col' true (c + 2) ∧ Fix col col' w w') : e = .returned (.bool true) ∧ ∃ st' col', PQ B w' q st' col' true (c + 3) ∧ GX q col col' w w' := by
 obtain ⟨e1, col', P, f⟩ := g; exact ⟨e1, st, col', PQ.mono (c := c + 2) ⟨P, by have := h.2; omega⟩ (by omega), GX.of_fix f⟩
theorem K1 (h : PQ B w q st col true c) {e : Ending} (g : e = .returned (.bool true) ∧ ∃ st' col', PS B w' q.b q.lo q.m q.m q.b q.s q.sr q.n q.cap q.cw q.co st' col' true c ∧ Out q.lo q.b w w' ∧ st'.last ≤ st.last + 1 ∧ ∀ k, k < w.heap.size → col' k = col k) : e = .returned (.bool true) ∧ ∃ st' col', PQ B w' q st' col' true (c + 3) ∧ GX q col col' w w' := by
 obtain ⟨e1, st', col', P, o, l, ag⟩ := g; have x : GX q col col w w' := GX.of_out o; exact ⟨e1, st', col', ⟨⟨P.sp, P.rf, P.ks.mono (by omega), P.c7, P.le⟩, by have := h.2; omega⟩, ⟨x.1.1, fun k hk h7 => by rw [ag k hk]; exact x.1.2 k hk h7⟩, fun k hk h7 => by rw [ag k hk]; exact h7⟩
end
theorem look_finds : z7g 15 17 := fun B w q st col c o0 k a b' d lp lc l h hc k1 k2 ha hb hl hg hn hx => by
 have hk : k = 15 ∨ k = 16 ∨ k = 17 := by omega
 rcases hk with rfl | rfl | rfl
 ·exact (X2 h.1 o0 a b' d lp l.length lc).mono fun e w' g => z2e h g
 ·exact (X4 h.1 (by omega) o0 a b' d lp l.length lc).mono fun e w' g => K6 h g
 ·exact (X5 h.1 o0 a b' d (by have := h.2; omega) lp l.length lc).mono fun e w' g => K1 h g
end Go.Proofs.YtjbbkeoolodeaaaGreatDoor
