import Derived.Test.YtjbbkeoolodeaaaGreatDoorC30
import Derived.Test.YtjbbkeoolodeaaaGreatDoorC12
import Derived.Test.YtjbbkeoolodeaaaGreatDoorC21
import Derived.Test.YtjbbkeoolodeaaaGreatDoorC38
import Derived.Test.YtjbbkeoolodeaaaGreatDoorC42
import Derived.Test.YtjbbkeoolodeaaaGreatDoorC44
import Derived.Test.YtjbbkeoolodeaaaGreatDoorC36
import Derived.Test.YtjbbkeoolodeaaaGreatDoorC45
namespace Go.Proofs.YtjbbkeoolodeaaaGreatDoor
open Go.RowKit
set_option linter.unusedVariables false
set_option maxRecDepth 100000
set_option maxHeartbeats 16000000
set_option linter.unusedSimpArgs false
def rdV (r : Raw) (a i : Int) : Int := if z4v r a i = 0 then r.W (a + i).toNat else 0
section
variable {w : World} {lo hi n cap : Nat} {s : Nat → Nat} {r : Raw}
theorem j5v (h : RawAt w lo hi s n cap r) (hM : z5a n r) (a i : Int) : Calls Tryz.prog 53 #[.pointer (some ⟨s 14, 0, none⟩), .int .i64 a, .int .i64 i] w fun e w' => e = .returned (.tuple #[.int .i64 (rdV r a i), .agg #[.int .i64 (z4v r a i), .int .i64 (z3w r a)]]) ∧ Out 0 0 w w' := by
 have h0 : Out 0 0 w (w.alloc (.cells #[.int .i64 0, .int .i64 0] 50)) := (Out.refl 0 0 w).alloc _; have hz : (w.alloc (.cells #[.int .i64 0, .int .i64 0] 50)).heap[w.heap.size]? = some (.cells #[.int .i64 0, .int .i64 0] 50 (0, 0)) := heap_alloc_new _ _; have HZ := Z0 hz; have H0 := Z0 h0; have HR := Z0 (fun w' (o : Out 0 0 w w') => h.quiet o); have HT : Hid (hi ≤ w.heap.size) := h.top; have HC := Z0 (z4u (h.quiet h0) hM a i); unfold z3l at HC; by_cases hc : z4v r a i = 0
 ·obtain ⟨e2, j, hj, j1, j2, j3⟩ := wrd0 hM hc; have e3 : rdV r a i = r.W (a + i).toNat := by unfold rdV; rw [if_pos hc]
  rw [hc, e2] at HC; rw [hc, e2, e3]; have hn := h.n2; have b1 : (0 : Int) ≤ a + i := by omega
  have b2 : a + i < ((64 * n : Nat) : Int) := by omega
  have b3 : ((64 * n : Nat) : Int) ≤ 262144 := by omega
  have J1 : Hid ((a + i).toNat < 64 * n) := by show _ < _; omega
  generalize hm : 64 * n = m at *
  clear h hM h0 hz hc e2 e3 hj j1 hn; go_enter Tryz.func53, Tryz.ntmps53
  go_wp2_with (first
   | (go_at_call 100; refine HC.out.mono ?_; rintro e w1 ⟨rfl, ho⟩; obtain ⟨q4, q5, q6, q7⟩ := Z7 ((ho.alloc (.cells #[.int .i64 0, .int .i64 0] 50)).heap HZ.out z0); obtain ⟨q0, q1, q2, q3⟩ := Z7 (heap_alloc_new w1 (.cells #[.int .i64 0, .int .i64 0] 50)); have HO := Z0 (ho.alloc (.cells #[.int .i64 0, .int .i64 0] 50)); obtain ⟨c0, c1, c2, c3, c4, c5⟩ := (HR.out _ (H0.out.trans HO.out)).cells; have hcell := (HR.out _ (H0.out.trans HO.out)).words.cell (i := (a + i).toNat) (by rw [hm]; exact J1.out); clear ho))
  exact z3s Tryz.results53 rfl rfl rfl (W7 (HO.out.heap HZ.out z0)) ⟨rfl, (H0.out.trans HO.out).set2 (.inr (Nat.le_refl _)) _ _⟩
 ·have e3 : rdV r a i = 0 := by unfold rdV; rw [if_neg hc]
  rw [e3]; have e4 : (z4v r a i == 0) = false := by simpa using hc
  generalize z4v r a i = u at *
  generalize z3w r a = y at *
  clear h hM h0 hz hc e3; go_enter Tryz.func53, Tryz.ntmps53
  go_wp2_with (first
   | (go_at_call 100; refine HC.out.mono ?_; rintro e w1 ⟨rfl, ho⟩; obtain ⟨q4, q5, q6, q7⟩ := Z7 ((ho.alloc (.cells #[.int .i64 u, .int .i64 y] 50)).heap HZ.out z0); obtain ⟨q0, q1, q2, q3⟩ := Z7 (heap_alloc_new w1 (.cells #[.int .i64 u, .int .i64 y] 50)); have HO := Z0 (ho.alloc (.cells #[.int .i64 u, .int .i64 y] 50)); clear ho))
  go_region_with fail
  all_goals
   go_wp2; exact z3s Tryz.results53 rfl rfl rfl (W7 (((HO.out.drew)).heap HZ.out z0)) ⟨rfl, (((H0.out.trans HO.out).drew)).set2 (.inr (Nat.le_refl _)) _ _⟩
end
theorem Out.trans' {a b c : World} {F : Nat} (h : Out 0 0 a b) (o : Out F (F + 1) b c) (hf : a.heap.size = F) : Out 0 0 a c := Z9 h o (.inl (by omega))
section
variable {w : World} {lo hi n cw co : Nat} {s : Nat → Nat} {st : Sp}
theorem q0u (h : RfAt w lo hi s n cw co st) (hI : Inv n st) (a i : Int) : Calls Tryz.prog 54 #[.pointer (some ⟨s 0, 0, none⟩), .int .i64 a, .int .i64 i] w fun e w' => e = .returned (.tuple #[.int .i64 (rdV (Z6 n st) a i), z3l (z4v (Z6 n st) a i) (z3w (Z6 n st) a)]) ∧ Out 0 0 w w' := by
 have h2 := h.n2; have o1 : Out 0 0 w (w.alloc (.cells #[.int .i64 0, .int .i64 0] 97)) := (Out.refl 0 0 w).alloc _; have f1 : (w.alloc (.cells #[.int .i64 0, .int .i64 0] 97)).heap[w.heap.size]? = some (.cells #[.int .i64 0, .int .i64 0] 97 (0, 0)) := heap_alloc_new _ _; have hC := z8e (h.quiet o1) hI a i; obtain ⟨e2, he2⟩ : ∃ e2, z3w (Z6 n st) a = e2 := ⟨_, rfl⟩
 obtain ⟨e3, he3⟩ : ∃ e3, z4v (Z6 n st) a i = e3 := ⟨_, rfl⟩
 rw [he2, he3] at hC; unfold z3l at hC; have HC := Z0 hC; have hV : Hid (rdV (Z6 n st) a i = if e3 = 0 then st.W (a + i).toNat else 0) := by
  show _ = _
  unfold rdV; rw [he3]; rfl
 rw [he2, he3]; have H1 := Z0 (And.intro o1 f1); have HR := Z0 (And.intro h hI); have HE := Z0 (And.intro he2 he3); clear h hI hC o1 f1 he2 he3; go_enter Tryz.func54, Tryz.ntmps54
 go_wp2_with fail; refine HC.out.mono ?_; rintro e w1 ⟨rfl, ho⟩; have fF := ho.heap H1.out.2 (.inr (Nat.zero_le _)); have oB : Out 0 0 w1 (w1.alloc (.cells #[.int .i64 e3, .int .i64 e2] 97)) := (Out.refl 0 0 w1).alloc _; have fB := oB.heap fF (.inr (Nat.zero_le _)); have fN : (w1.alloc (.cells #[.int .i64 e3, .int .i64 e2] 97)).heap[w1.heap.size]? = some (.cells #[.int .i64 e3, .int .i64 e2] 97 (0, 0)) := heap_alloc_new _ _; obtain ⟨F, hF⟩ : ∃ F, w.heap.size = F := ⟨_, rfl⟩
 rw [hF] at fF fB ⊢; have hlt := Q4 fF; have HO := Z0 ((H1.out.1.trans ho).trans oB); have HSz : Hid (w.heap.size = F ∧ F < w1.heap.size) := ⟨hF, by omega⟩
 have hh := HR.out.1.quiet HO.out; by_cases h0 : e3 = 0
 ·subst h0; obtain ⟨hA, j, hj, hjn, ha0, hi1⟩ := wrd0 (z7e HR.out.2) HE.out.2; have he : e2 = 0 := by rw [← HE.out.1]; exact hA
  subst he; have c0 := hh.cells.1; obtain ⟨M, hM⟩ : ∃ M, 64 * n = M := ⟨_, rfl⟩
  rw [hM] at c0; have d0 := hh.rw.cell (i := j) hjn; obtain ⟨y, hy⟩ : ∃ y, st.W j = y := ⟨_, rfl⟩
  (try dsimp only at d0); rw [hy] at d0; obtain ⟨x0, x1, x2, x3⟩ := Z7 fB; have j0 : (0 : Int) ≤ (j : Int) := by omega
  have j1 : (j : Int) < (M : Int) := by omega
  have j2 : (M : Int) ≤ 262144 := by omega
  have HFS := Z0 fB; have HJ : Hid (rdV (Z6 n st) a i = y) := by
   show _ = _
   rw [hV.out, if_pos rfl, hj, show ((j : Nat) : Int).toNat = j from by omega, hy]
  clear fF fB fN oB ho hF hlt hh hA hjn hM hy ha0 hi1 h2; go_wp2; refine z9g (g := F) Tryz.results54 rfl rfl rfl (z2i HFS.out _ _) ⟨by rw [HJ.out]; rfl, ?_⟩; exact Z9 HO.out (((Out.refl F (F + 1) _).setCell (p := ⟨F, 0, none⟩) (.inl ⟨Nat.le_refl _, Nat.lt_succ_self _⟩) _).setCell (p := ⟨F, 1, none⟩) (.inl ⟨Nat.le_refl _, Nat.lt_succ_self _⟩) _) (.inl (by have := HSz.out; omega))
 ·have h0b : (e3 != 0) = true := by simpa using h0
  have HJ : Hid (rdV (Z6 n st) a i = 0) := by show _ = _; rw [hV.out, if_neg h0]
  have HFB := Z0 (And.intro fB fN); obtain ⟨z0, z1, z2, z3⟩ := Z7 fN; clear fF fB fN oB ho hF hlt hh h2; go_wp2_with fail; obtain ⟨W2, hW2⟩ : ∃ W, w1.alloc (.cells #[.int .i64 e3, .int .i64 e2] 97) = W := ⟨_, rfl⟩
  obtain ⟨B, hB⟩ : ∃ B, w1.heap.size = B := ⟨_, rfl⟩
  rw [hW2] at HFB HO z0 z1; rw [hB] at HFB HSz z0 z1; rw [hW2, hB]; clear hW2 hB z2 z3; refine wp_region_held_drew (S := fun w' => w'.cell? ⟨B, 0, none⟩ = some (.int .i64 e3) ∧ w'.cell? ⟨B, 1, none⟩ = some (.int .i64 e2)) (by kernel_rfl) ?hS1 (fun hHeld => ?rest1)
  case hS1 => exact ⟨z0, z1⟩
  obtain ⟨Z3, hZ⟩ : ∃ Z, W2.drew = Z := ⟨_, rfl⟩
  have OZ3 : Out 0 0 W2 Z3 := by rw [← hZ]; exact (Out.refl 0 0 W2).drew
  rw [hZ] at hHeld ⊢; clear hZ; refine tk 0 ?_; refine tk 1 ?_; refine rd1 2 fun KK hK => ?_
  simp only [xa, xb, xc]; have fF := OZ3.heap HFB.out.1 (.inr (Nat.zero_le _)); obtain ⟨x0, x1, x2, x3⟩ := Z7 fF; go_simp; clear x0 x1 x2 x3; obtain ⟨XE, hXE⟩ : ∃ W, (Z3.setCell ⟨F, 0, none⟩ (.int .i64 e3)).setCell ⟨F, 1, none⟩ (.int .i64 e2) = W := ⟨_, rfl⟩
  have o1 : Out F (F + 1) Z3 XE := by rw [← hXE]; exact ((Out.refl F (F + 1) _).setCell (p := ⟨F, 0, none⟩) (.inl ⟨Nat.le_refl _, Nat.lt_succ_self _⟩) _).setCell (p := ⟨F, 1, none⟩) (.inl ⟨Nat.le_refl _, Nat.lt_succ_self _⟩) _
  have fX : XE.heap[F]? = some (.cells #[.int .i64 e3, .int .i64 e2] 97 (0, 0)) := by rw [← hXE]; exact z2i fF _ _
  rw [hXE]; clear hXE fF; refine hK.out _ _ ?hS4 (fun hHeld2 => ?rest4)
  case hS4 => exact ⟨o1.cell hHeld.1 (.inr (by have := HSz.out; show F + 1 ≤ B; omega)), o1.cell hHeld.2 (.inr (by have := HSz.out; show F + 1 ≤ B; omega))⟩
  clear hK KK; replace hHeld := hHeld2; clear hHeld2; refine dn ?_; clear hHeld; have HFX := Z0 fX; have HOX := Z0 ((HO.out.trans OZ3).trans' o1 HSz.out.1); clear fX o1 OZ3 z0 z1; go_wp2; exact z9g (g := F) Tryz.results54 rfl rfl rfl HFX.out ⟨by rw [HJ.out]; rfl, HOX.out⟩
end
section
variable {w w' : World} {b lo hi lo' hi' n cap cw co : Nat} {s sr : Nat → Nat} {st : Sp}
theorem Two.quiet (h : Two w b lo hi lo' hi' s sr n cap cw co st) (o : Out 0 0 w w') : Two w' b lo hi lo' hi' s sr n cap cw co st :=
 ⟨h.sp.quiet o, h.rf.quiet o, o.cell h.p0 z0, o.cell h.p1 z0⟩
theorem j0s (hI : Inv n st) (a : Int) : ∃ v1 v2 v3 v4 v5 ok, (∀ w lo hi s cap, SpAt w lo hi s n cap st → Calls Tryz.prog 51 #[.pointer (some ⟨s 14, 0, none⟩), .int .i64 a] w fun e w' => e = .returned (.tuple #[.agg #[.int .i64 v1, .int .i64 v2, .int .i64 v3, .int .i64 v4, .int .i64 v5], .bool ok]) ∧ Out 0 0 w w') ∧
  (∀ w lo hi s cw co, RfAt w lo hi s n cw co st → Calls Tryz.prog 52 #[.pointer (some ⟨s 0, 0, none⟩), .int .i64 a] w fun e w' => e = .returned (.tuple #[.agg #[.int .i64 v1, .int .i64 v2, .int .i64 v3, .int .i64 v4, .int .i64 v5], .bool ok]) ∧ Out 0 0 w w') := by
 cases hob : obM st a with
 | none =>
  refine ⟨0, 0, 0, 0, 0, false, fun w lo hi s cap h => z8v h.1 hob, fun w lo hi s cw co h => z2c h (fun k e hk => ?_)⟩; unfold obM at hob; cases hh : Q7 (st.O k) with
  | false => rfl
  | true => rw [if_pos ⟨by omega, by rw [e, show ((k : Nat) : Int).toNat = k from by omega]; exact hh⟩] at hob; cases hob
 | some bk =>
  obtain ⟨k, rfl, hk, hbk⟩ : ∃ k : Nat, a = (k : Int) ∧ Q7 (st.O k) = true ∧ st.O k = bk := by
   unfold obM at hob; split at hob
   ·rename_i q
    exact ⟨a.toNat, by omega, q.2, by simpa using hob⟩
   ·cases hob
  obtain ⟨b1, b2, b3, b4⟩ := bk; exact ⟨k, b1, b2, b3, b4, true, fun w lo hi s cap h => z5c h.1 hob, fun w lo hi s cw co h => z1z h (hI.objs k hk).1 hk hbk⟩
theorem z9u (h : Two w b lo hi lo' hi' s sr n cap cw co st) (a i : Int) : Calls Tryz.prog 20 #[.pointer (some ⟨b, 0, none⟩), .int .i64 a, .int .i64 i] w fun e w' => e = .returned (.bool true) ∧ Out 0 0 w w' := by
 obtain ⟨v1, v2, v3, v4, v5, ok, hB, hC⟩ := j0s h.sp.2 a; have hI := h.sp.2; have HB := Z0 (fun W (o : Out 0 0 w W) => hB W _ _ _ _ (h.quiet o).sp); have HC := Z0 (fun W (o : Out 0 0 w W) => hC W _ _ _ _ _ (h.quiet o).rf); have hR := fun W (o : Out 0 0 w W) => j5v (h.quiet o).sp.1 (z7e hI) a i
 have hR' := fun W (o : Out 0 0 w W) => q0u (h.quiet o).rf hI a i
 have hK := fun W (o : Out 0 0 w W) => q1u (h.quiet o).sp.1 (z7e hI) a
 have hK' := fun W (o : Out 0 0 w W) => z2n (h.quiet o).rf hI a
 obtain ⟨x1, hx1⟩ : ∃ x, rdV (Z6 n st) a i = x := ⟨_, rfl⟩
 obtain ⟨x2, hx2⟩ : ∃ x, z4v (Z6 n st) a i = x := ⟨_, rfl⟩
 obtain ⟨x3, hx3⟩ : ∃ x, z3w (Z6 n st) a = x := ⟨_, rfl⟩
 obtain ⟨x4, hx4⟩ : ∃ x, z8k (Z6 n st) a = x := ⟨_, rfl⟩
 unfold z3l at hR' hK hK'; simp only [hx1, hx2, hx3, hx4] at hR hR' hK hK'; obtain ⟨X, hX⟩ : ∃ X, s 14 = X := ⟨_, rfl⟩
 obtain ⟨Y, hY⟩ : ∃ Y, sr 0 = Y := ⟨_, rfl⟩
 have p0 := h.p0; have p1 := h.p1; rw [hX] at p0 HB; rw [hY] at p1 HC; simp only [hX] at hR hK; simp only [hY] at hR' hK'; have HR := Z0 hR; have HR' := Z0 hR'; have HK := Z0 hK; have HK' := Z0 hK'; clear h hB hC hI hR hR' hK hK' hx1 hx2 hx3 hx4 hX hY; have blt : b < w.heap.size := by
  by_cases q : b < w.heap.size
  ·exact q
  ·have : w.heap[b]? = none := by simp; omega
   simp [World.cell?, this] at p0
 go_enter Tryz.func20, Tryz.ntmps20
 go_wp2_with fail; refine (HB.out _ (Out.refl 0 0 w)).mono ?_; rintro e w1 ⟨rfl, o1⟩; have oB := o1.alloc (.cells #[.int .i64 v1, .int .i64 v2, .int .i64 v3, .int .i64 v4, .int .i64 v5] 92); have pB := oB.cell p1 z0; have fB : (w1.alloc (.cells #[.int .i64 v1, .int .i64 v2, .int .i64 v3, .int .i64 v4, .int .i64 v5] 92)).heap[w1.heap.size]? = some (.cells #[.int .i64 v1, .int .i64 v2, .int .i64 v3, .int .i64 v4, .int .i64 v5] 92) := heap_alloc_new _ _; obtain ⟨b1, hb1⟩ : ∃ b1, w1.heap.size = b1 := ⟨_, rfl⟩
 rw [hb1] at fB; have H1 := Z0 (And.intro oB fB); clear o1 oB fB; go_wp2_with fail; clear pB; refine (HC.out _ H1.out.1).mono ?_; rintro e w2 ⟨rfl, o2⟩; have oC := (H1.out.1.trans o2).alloc (.cells #[.int .i64 v1, .int .i64 v2, .int .i64 v3, .int .i64 v4, .int .i64 v5] 92); have pC := oC.cell p0 z0; have fC : (w2.alloc (.cells #[.int .i64 v1, .int .i64 v2, .int .i64 v3, .int .i64 v4, .int .i64 v5] 92)).heap[w2.heap.size]? = some (.cells #[.int .i64 v1, .int .i64 v2, .int .i64 v3, .int .i64 v4, .int .i64 v5] 92) := heap_alloc_new _ _; have fB2 := (o2.alloc (.cells #[.int .i64 v1, .int .i64 v2, .int .i64 v3, .int .i64 v4, .int .i64 v5] 92)).heap H1.out.2 z0; obtain ⟨c1, hc1⟩ : ∃ c1, w2.heap.size = c1 := ⟨_, rfl⟩
 rw [hc1] at fC; have H2 := Z0 (And.intro oC (And.intro fB2 fC)); clear o2 oC fC fB2; go_wp2_with fail; clear pC; refine (HR.out _ H2.out.1).mono ?_; rintro e w3 ⟨rfl, o3⟩; have oF := (H2.out.1.trans o3).alloc (.cells #[.int .i64 x2, .int .i64 x3] 50); have oF' := o3.alloc (.cells #[.int .i64 x2, .int .i64 x3] 50); have pF := oF.cell p1 z0; have fF : (w3.alloc (.cells #[.int .i64 x2, .int .i64 x3] 50)).heap[w3.heap.size]? = some (.cells #[.int .i64 x2, .int .i64 x3] 50 (0, 0)) := heap_alloc_new _ _; obtain ⟨f1, hf1⟩ : ∃ f1, w3.heap.size = f1 := ⟨_, rfl⟩
 rw [hf1] at fF; have H3 := Z0 (And.intro oF (And.intro (oF'.heap H2.out.2.1 z0) (And.intro (oF'.heap H2.out.2.2 z0) fF))); clear o3 oF oF' fF; go_wp2_with fail; clear pF; refine (HR'.out _ H3.out.1).mono ?_; rintro e w4 ⟨rfl, o4⟩; have oG := (H3.out.1.trans o4).alloc (.cells #[.int .i64 x2, .int .i64 x3] 97); have oG' := o4.alloc (.cells #[.int .i64 x2, .int .i64 x3] 97); have fG : (w4.alloc (.cells #[.int .i64 x2, .int .i64 x3] 97)).heap[w4.heap.size]? = some (.cells #[.int .i64 x2, .int .i64 x3] 97 (0, 0)) := heap_alloc_new _ _; obtain ⟨g1, hg1⟩ : ∃ g1, w4.heap.size = g1 := ⟨_, rfl⟩
 rw [hg1] at fG; have H4 := Z0 (And.intro oG (And.intro (oG'.heap H3.out.2.1 z0) (And.intro (oG'.heap H3.out.2.2.1 z0) (And.intro (oG'.heap H3.out.2.2.2 z0) fG)))); clear o4 oG oG' fG; go_wp2_with fail; obtain ⟨V, hV⟩ : ∃ V, w4.alloc (.cells #[.int .i64 x2, .int .i64 x3] 97) = V := ⟨_, rfl⟩
 rw [hV] at H4; (try rw [hV]); have r0 := H4.out.1.cell p0 z0; have r1 := H4.out.1.cell p1 z0; obtain ⟨m0, m1, m2, m3, m4⟩ := V7 H4.out.2.1; obtain ⟨k0, k1, k2, k3, k4⟩ := V7 H4.out.2.2.1; obtain ⟨u0, u1, _, _⟩ := Z7 H4.out.2.2.2.1; obtain ⟨t0, t1, _, _⟩ := Z7 H4.out.2.2.2.2; have hOV := H4.out.1; clear hV; refine wp_region_held_drew (S := fun w' => w'.cell? ⟨b, 0, none⟩ = some (.pointer (some ⟨X, 0, none⟩)) ∧ w'.cell? ⟨b, 1, none⟩ = some (.pointer (some ⟨Y, 0, none⟩)) ∧ w'.cell? ⟨b1, 0, none⟩ = some (.int .i64 v1) ∧ w'.cell? ⟨b1, 1, none⟩ = some (.int .i64 v2) ∧ w'.cell? ⟨b1, 2, none⟩ = some (.int .i64 v3) ∧ w'.cell? ⟨b1, 3, none⟩ = some (.int .i64 v4) ∧ w'.cell? ⟨b1, 4, none⟩ = some (.int .i64 v5) ∧ w'.cell? ⟨c1, 0, none⟩ = some (.int .i64 v1) ∧ w'.cell? ⟨c1, 1, none⟩ = some (.int .i64 v2) ∧ w'.cell? ⟨c1, 2, none⟩ = some (.int .i64 v3) ∧ w'.cell? ⟨c1, 3, none⟩ = some (.int .i64 v4) ∧ w'.cell? ⟨c1, 4, none⟩ = some (.int .i64 v5) ∧ w'.cell? ⟨f1, 0, none⟩ = some (.int .i64 x2) ∧ w'.cell? ⟨f1, 1, none⟩ = some (.int .i64 x3) ∧ w'.cell? ⟨g1, 0, none⟩ = some (.int .i64 x2) ∧ w'.cell? ⟨g1, 1, none⟩ = some (.int .i64 x3) ∧ Out 0 0 w w') (by kernel_rfl) ?hS1 (fun hHeld => ?rest1)
 case hS1 => exact ⟨r0, r1, m0, m1, m2, m3, m4, k0, k1, k2, k3, k4, u0, u1, t0, t1, hOV.drew⟩
 refine tk 0 ?_; refine tk 1 ?_; refine tk 2 ?_; refine tk 3 ?_; refine tk 4 ?_; refine tk 5 ?_; refine tk 6 ?_; refine tk 7 ?_; refine tk 8 ?_; refine tk 9 ?_; refine tk 10 ?_; refine tk 11 ?_; refine tk 12 ?_; refine tk 13 ?_; refine tk 15 ?_; refine tk 16 ?_; refine tk 17 ?_; refine tk 18 ?_; refine tk 19 ?_; refine rd1 14 fun KK hK => ?_
 simp only [xa, xb, xc]; go_simp; refine (HK.out _ hHeld.2.2.2.2.2.2.2.2.2.2.2.2.2.2.2.2).mono ?_; rintro e V1 ⟨rfl, q1⟩; refine hK.out _ _ ?hS21 (fun hHeld2 => ?rest21)
 case hS21 => exact ⟨q1.cell hHeld.1 z0, q1.cell hHeld.2.1 z0, q1.cell hHeld.2.2.1 z0, q1.cell hHeld.2.2.2.1 z0, q1.cell hHeld.2.2.2.2.1 z0, q1.cell hHeld.2.2.2.2.2.1 z0, q1.cell hHeld.2.2.2.2.2.2.1 z0, q1.cell hHeld.2.2.2.2.2.2.2.1 z0, q1.cell hHeld.2.2.2.2.2.2.2.2.1 z0, q1.cell hHeld.2.2.2.2.2.2.2.2.2.1 z0, q1.cell hHeld.2.2.2.2.2.2.2.2.2.2.1 z0, q1.cell hHeld.2.2.2.2.2.2.2.2.2.2.2.1 z0, q1.cell hHeld.2.2.2.2.2.2.2.2.2.2.2.2.1 z0, q1.cell hHeld.2.2.2.2.2.2.2.2.2.2.2.2.2.1 z0, q1.cell hHeld.2.2.2.2.2.2.2.2.2.2.2.2.2.2.1 z0, q1.cell hHeld.2.2.2.2.2.2.2.2.2.2.2.2.2.2.2.1 z0, hHeld.2.2.2.2.2.2.2.2.2.2.2.2.2.2.2.2.trans q1⟩
 clear hK KK; replace hHeld := hHeld2; clear hHeld2; refine rd1 20 fun KK hK => ?_
 simp only [xa, xb, xc]; go_simp; refine (HK'.out _ hHeld.2.2.2.2.2.2.2.2.2.2.2.2.2.2.2.2).mono ?_; rintro e V2 ⟨rfl, q2⟩; refine hK.out _ _ ?hS22 (fun hHeld2 => ?rest22)
 case hS22 => exact ⟨q2.cell hHeld.1 z0, q2.cell hHeld.2.1 z0, q2.cell hHeld.2.2.1 z0, q2.cell hHeld.2.2.2.1 z0, q2.cell hHeld.2.2.2.2.1 z0, q2.cell hHeld.2.2.2.2.2.1 z0, q2.cell hHeld.2.2.2.2.2.2.1 z0, q2.cell hHeld.2.2.2.2.2.2.2.1 z0, q2.cell hHeld.2.2.2.2.2.2.2.2.1 z0, q2.cell hHeld.2.2.2.2.2.2.2.2.2.1 z0, q2.cell hHeld.2.2.2.2.2.2.2.2.2.2.1 z0, q2.cell hHeld.2.2.2.2.2.2.2.2.2.2.2.1 z0, q2.cell hHeld.2.2.2.2.2.2.2.2.2.2.2.2.1 z0, q2.cell hHeld.2.2.2.2.2.2.2.2.2.2.2.2.2.1 z0, q2.cell hHeld.2.2.2.2.2.2.2.2.2.2.2.2.2.2.1 z0, q2.cell hHeld.2.2.2.2.2.2.2.2.2.2.2.2.2.2.2.1 z0, hHeld.2.2.2.2.2.2.2.2.2.2.2.2.2.2.2.2.trans q2⟩
 clear hK KK; replace hHeld := hHeld2; clear hHeld2; refine rd1 21 fun KK hK => ?_
 simp only [xa, xb, xc]; go_simp; refine (z0l _ _ _).mono ?_; rintro e V3 ⟨rfl, q3⟩; refine hK.out _ _ ?hS23 (fun hHeld2 => ?rest23)
 case hS23 => exact ⟨q3.cell hHeld.1 z0, q3.cell hHeld.2.1 z0, q3.cell hHeld.2.2.1 z0, q3.cell hHeld.2.2.2.1 z0, q3.cell hHeld.2.2.2.2.1 z0, q3.cell hHeld.2.2.2.2.2.1 z0, q3.cell hHeld.2.2.2.2.2.2.1 z0, q3.cell hHeld.2.2.2.2.2.2.2.1 z0, q3.cell hHeld.2.2.2.2.2.2.2.2.1 z0, q3.cell hHeld.2.2.2.2.2.2.2.2.2.1 z0, q3.cell hHeld.2.2.2.2.2.2.2.2.2.2.1 z0, q3.cell hHeld.2.2.2.2.2.2.2.2.2.2.2.1 z0, q3.cell hHeld.2.2.2.2.2.2.2.2.2.2.2.2.1 z0, q3.cell hHeld.2.2.2.2.2.2.2.2.2.2.2.2.2.1 z0, q3.cell hHeld.2.2.2.2.2.2.2.2.2.2.2.2.2.2.1 z0, q3.cell hHeld.2.2.2.2.2.2.2.2.2.2.2.2.2.2.2.1 z0, hHeld.2.2.2.2.2.2.2.2.2.2.2.2.2.2.2.2.trans q3⟩
 clear hK KK; replace hHeld := hHeld2; clear hHeld2; refine tk 22 ?_; refine tk 23 ?_; refine tk 24 ?_; refine tk 25 ?_; refine tk 26 ?_; refine tk 27 ?_; refine tk 28 ?_; refine tk 29 ?_; refine tk 30 ?_; refine rd1 31 fun KK hK => ?_
 simp only [xa, xb, xc]; go_simp; refine (z0l _ _ _).mono ?_; rintro e V4 ⟨rfl, q4⟩; refine hK.out _ _ ?hS33 (fun hHeld2 => ?rest33)
 case hS33 => exact ⟨q4.cell hHeld.1 z0, q4.cell hHeld.2.1 z0, q4.cell hHeld.2.2.1 z0, q4.cell hHeld.2.2.2.1 z0, q4.cell hHeld.2.2.2.2.1 z0, q4.cell hHeld.2.2.2.2.2.1 z0, q4.cell hHeld.2.2.2.2.2.2.1 z0, q4.cell hHeld.2.2.2.2.2.2.2.1 z0, q4.cell hHeld.2.2.2.2.2.2.2.2.1 z0, q4.cell hHeld.2.2.2.2.2.2.2.2.2.1 z0, q4.cell hHeld.2.2.2.2.2.2.2.2.2.2.1 z0, q4.cell hHeld.2.2.2.2.2.2.2.2.2.2.2.1 z0, q4.cell hHeld.2.2.2.2.2.2.2.2.2.2.2.2.1 z0, q4.cell hHeld.2.2.2.2.2.2.2.2.2.2.2.2.2.1 z0, q4.cell hHeld.2.2.2.2.2.2.2.2.2.2.2.2.2.2.1 z0, q4.cell hHeld.2.2.2.2.2.2.2.2.2.2.2.2.2.2.2.1 z0, hHeld.2.2.2.2.2.2.2.2.2.2.2.2.2.2.2.2.trans q4⟩
 clear hK KK; replace hHeld := hHeld2; clear hHeld2; refine tk 32 ?_; refine tk 33 ?_; refine dn ?_; have hE := hHeld.2.2.2.2.2.2.2.2.2.2.2.2.2.2.2.2; clear hHeld; go_wp2; go_ret; exact ⟨rfl, hE⟩
end
section
variable {B : Nat} {w w' : World} {b lo hi m n cap cw co c : Nat} {s sr : Nat → Nat} {st st' : Sp} {col : Nat → Nat} {z : Bool}
theorem q3a (h : PS B w b lo m m b s sr n cap cw co st col z c) (o0 o2 o3 o4 : Int) (lp : Option Addr) (ll lc : Nat) : Calls Tryz.prog 11 #[.pointer (some ⟨b, 0, none⟩), .agg #[.int .i64 o0, .int .i64 11, .int .i64 o2, .int .i64 o3, .int .i64 o4, .slice lp ll lc]] w fun e w' => e = .returned (.bool true) ∧ Out 0 0 w w' := by
 have HP := Z0 h; obtain ⟨bo, hbo⟩ : ∃ bo, w.heap.size = bo := ⟨_, rfl⟩
 have HBo : Hid (b < bo) := by rw [← hbo]; exact h.b_lt
 clear h; go_enter Tryz.func11, Tryz.ntmps11
 go_wp2_with fail; obtain ⟨W, hW⟩ : ∃ W, w.alloc (.cells #[.int .i64 o0, .int .i64 11, .int .i64 o2, .int .i64 o3, .int .i64 o4, .slice lp ll lc] 29) = W := ⟨_, rfl⟩
 have oW : Out 0 0 w W := by rw [← hW]; exact (Out.refl 0 0 _).alloc _
 have fO : W.heap[bo]? = some (.cells #[.int .i64 o0, .int .i64 11, .int .i64 o2, .int .i64 o3, .int .i64 o4, .slice lp ll lc] 29 (0, 0)) := by rw [← hW, ← hbo]; exact heap_alloc_new _ _
 (try rw [hW]); clear hW hbo; have HSe := Z0 (z9u (HP.out.quiet oW).two o2 1); have HO := Z0 oW; obtain ⟨_, x1, x2, x3, x4, x5⟩ := Y8 fO; clear oW fO; go_wp2_with fail; refine HSe.out.mono ?_; rintro e V1 ⟨rfl, q1⟩; have hE := Z0 (HO.out.trans q1); clear q1; go_wp2; go_ret; exact ⟨rfl, hE.out⟩
theorem q2d (h : PS B w b lo m m b s sr n cap cw co st col z c) (o0 o2 o3 o4 : Int) (lp : Option Addr) (ll lc : Nat) : Calls Tryz.prog 11 #[.pointer (some ⟨b, 0, none⟩), .agg #[.int .i64 o0, .int .i64 13, .int .i64 o2, .int .i64 o3, .int .i64 o4, .slice lp ll lc]] w fun e w' => e = .returned (.bool true) ∧ Out 0 0 w w' := by
 have HP := Z0 h; obtain ⟨bo, hbo⟩ : ∃ bo, w.heap.size = bo := ⟨_, rfl⟩
 have HBo : Hid (b < bo) := by rw [← hbo]; exact h.b_lt
 clear h; go_enter Tryz.func11, Tryz.ntmps11
 go_wp2_with fail; obtain ⟨W, hW⟩ : ∃ W, w.alloc (.cells #[.int .i64 o0, .int .i64 13, .int .i64 o2, .int .i64 o3, .int .i64 o4, .slice lp ll lc] 29) = W := ⟨_, rfl⟩
 have oW : Out 0 0 w W := by rw [← hW]; exact (Out.refl 0 0 _).alloc _
 have fO : W.heap[bo]? = some (.cells #[.int .i64 o0, .int .i64 13, .int .i64 o2, .int .i64 o3, .int .i64 o4, .slice lp ll lc] 29 (0, 0)) := by rw [← hW, ← hbo]; exact heap_alloc_new _ _
 (try rw [hW]); clear hW hbo; have HSe := Z0 (z9u (HP.out.quiet oW).two o2 o3); have HO := Z0 oW; obtain ⟨_, x1, x2, x3, x4, x5⟩ := Y8 fO; clear oW fO; go_wp2_with fail; refine HSe.out.mono ?_; rintro e V1 ⟨rfl, q1⟩; have hE := Z0 (HO.out.trans q1); clear q1; go_wp2; go_ret; exact ⟨rfl, hE.out⟩
end
section
variable {B : Nat} {w w' : World} {b lo hi m n cap cw co c : Nat} {s sr : Nat → Nat} {st st' : Sp} {col : Nat → Nat} {z : Bool}
theorem q1z (h : PS B w b lo m m b s sr n cap cw co st col z c) (o0 o2 o3 o4 : Int) (hb2 : -9223372036854775808 ≤ o2 ∧ o2 ≤ 9223372036854775807) (lp : Option Addr) (ll lc : Nat) : Calls Tryz.prog 11 #[.pointer (some ⟨b, 0, none⟩), .agg #[.int .i64 o0, .int .i64 12, .int .i64 o2, .int .i64 o3, .int .i64 o4, .slice lp ll lc]] w fun e w' => e = .returned (.bool true) ∧ Out 0 0 w w' := by
 have HP := Z0 h; obtain ⟨bo, hbo⟩ : ∃ bo, w.heap.size = bo := ⟨_, rfl⟩
 have HBo : Hid (b < bo) := by rw [← hbo]; exact h.b_lt
 clear h; go_enter Tryz.func11, Tryz.ntmps11
 go_wp2_with fail; obtain ⟨W, hW⟩ : ∃ W, w.alloc (.cells #[.int .i64 o0, .int .i64 12, .int .i64 o2, .int .i64 o3, .int .i64 o4, .slice lp ll lc] 29) = W := ⟨_, rfl⟩
 have oW : Out 0 0 w W := by rw [← hW]; exact (Out.refl 0 0 _).alloc _
 have fO : W.heap[bo]? = some (.cells #[.int .i64 o0, .int .i64 12, .int .i64 o2, .int .i64 o3, .int .i64 o4, .slice lp ll lc] 29 (0, 0)) := by rw [← hW, ← hbo]; exact heap_alloc_new _ _
 (try rw [hW]); clear hW hbo; obtain ⟨a0, ha0⟩ : ∃ a, q7w n st o2 = a := ⟨_, rfl⟩
 have HNt : Hid (∀ V, Out 0 0 w V → Calls Tryz.prog 21 #[.pointer (some ⟨b, 0, none⟩), .int .i64 o2] V fun e w' => e = .returned (.int .i64 a0) ∧ Out 0 0 V w') := fun V o => by
  have q := q0j (HP.out.quiet o).two HP.out.le.2.2 o2 hb2.1 hb2.2; rw [ha0] at q; exact q
 clear ha0; have HSe : Hid (∀ V, Out 0 0 w V → Calls Tryz.prog 20 #[.pointer (some ⟨b, 0, none⟩), .int .i64 a0, .int .i64 o3] V fun e w' => e = .returned (.bool true) ∧ Out 0 0 V w') := fun V o => z9u (HP.out.quiet o).two a0 o3
 obtain ⟨p0, p1⟩ := (HP.out.quiet oW).ks.cells; obtain ⟨_, x1, x2, x3, x4, x5⟩ := Y8 fO; go_wp2_with fail; refine wp_region_held_drew (S := fun w' => w'.cell? ⟨b, 0, none⟩ = some (.pointer (some ⟨s 14, 0, none⟩)) ∧ w'.cell? ⟨b, 1, none⟩ = some (.pointer (some ⟨sr 0, 0, none⟩)) ∧ w'.cell? ⟨bo, 2, none⟩ = some (.int .i64 o2) ∧ w'.cell? ⟨bo, 3, none⟩ = some (.int .i64 o3) ∧ w'.cell? ⟨bo, 4, none⟩ = some (.int .i64 o4)) (by kernel_rfl) ?hS125 (fun hHeld => ?rest125)
 case hS125 => exact ⟨p0, p1, x2, x3, x4⟩
 obtain ⟨Z, hZ⟩ : ∃ Z, W.drew = Z := ⟨_, rfl⟩
 have oZ : Out 0 0 W Z := by rw [← hZ]; exact (Out.refl 0 0 _).drew
 rw [hZ] at hHeld ⊢; clear hZ p0 p1 x1 x2 x3 x4 x5; refine tk 0 ?_; refine tk 1 ?_; refine tk 2 ?_; refine tk 3 ?_; refine tk 5 ?_; refine tk 6 ?_; refine rd1 4 fun KK hK => ?_
 simp only [xa, xb, xc]; go_simp; refine (HNt.out _ (oW.trans oZ)).mono ?_; rintro e V1 ⟨rfl, q1⟩; refine hK.out _ _ ?hS132 (fun hHeld2 => ?rest132)
 case hS132 => exact ⟨q1.cell hHeld.1 z0, q1.cell hHeld.2.1 z0, q1.cell hHeld.2.2.1 z0, q1.cell hHeld.2.2.2.1 z0, q1.cell hHeld.2.2.2.2 z0⟩
 clear hK KK; replace hHeld := hHeld2; clear hHeld2; refine rd1 7 fun KK hK => ?_
 simp only [xa, xb, xc]; go_simp; refine (HSe.out _ ((oW.trans oZ).trans q1)).mono ?_; rintro e V2 ⟨rfl, q2⟩; refine hK.out _ _ ?hS133 (fun hHeld2 => ?rest133)
 case hS133 => exact ⟨q2.cell hHeld.1 z0, q2.cell hHeld.2.1 z0, q2.cell hHeld.2.2.1 z0, q2.cell hHeld.2.2.2.1 z0, q2.cell hHeld.2.2.2.2 z0⟩
 clear hK KK; replace hHeld := hHeld2; clear hHeld2; refine tk 8 ?_; refine dn ?_; have o5 := oW.trans (oZ.trans (q1.trans q2)); clear hHeld oZ q1 q2; go_wp2; go_ret; exact ⟨rfl, o5⟩
end
theorem look_words : z7g 10 13 := fun B w q st col c o0 k a b' d lp lc l h hc k1 k2 ha hb hl hg hn hx => by
 have hk : k = 10 ∨ k = 11 ∨ k = 12 ∨ k = 13 := by omega
 rcases hk with rfl | rfl | rfl | rfl
 ·exact (z5s h.1 o0 a b' d lp l.length lc).mono fun e w' g => z2e h g
 ·exact (q3a h.1 o0 a b' d lp l.length lc).mono fun e w' g => z2e h g
 ·exact (q1z h.1 o0 a b' d ha lp l.length lc).mono fun e w' g => z2e h g
 ·exact (q2d h.1 o0 a b' d lp l.length lc).mono fun e w' g => z2e h g
end Go.Proofs.YtjbbkeoolodeaaaGreatDoor
