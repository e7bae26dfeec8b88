import Derived.Test.YtjbbkeoolodeaabGreatDoorA30
import Derived.Test.YtjbbkeoolodeaabGreatDoorA16
import Derived.Test.YtjbbkeoolodeaabGreatDoorA19
import Derived.Test.YtjbbkeoolodeaabGreatDoorA17
import Derived.Deep.RegionHeld3
namespace Go.Proofs.YtjbbkeoolodeaabGreatDoor
open Go.RowKit
set_option linter.unusedVariables false
set_option maxRecDepth 100000
set_option maxHeartbeats 16000000
set_option linter.unusedSimpArgs false
def q6n (n : Nat) (st : Sp) (z : Int) : Int := match K5 n st z with | some (a, _) => (a : Int) | none => -1
def q6o (n : Nat) (st : Sp) (z : Int) : Bool := match K5 n st z with | some (_, b) => b | none => false
section
variable {w : World} {lo hi n cw co : Nat} {s : Nat → Nat} {st : Sp}
theorem z5t (h : RfAt w lo hi s n cw co st) {z : Int} (z1 : 1 ≤ z) (z2 : z ≤ 1024) : Calls Tryz.prog 56 #[.pointer (some ⟨s 0, 0, none⟩), .int .i64 z] w fun e w' => e = .returned (.tuple #[.int .i64 (q6n n st z), .bool (q6o n st z)]) ∧ Out 0 0 w w' := by
 have h2 := h.n2; have hg : 4 ≤ w.heap.size := by have := h.glob; have := h.top; have := h.inn 0 (by omega); omega
 have HOf := Z0 (fun w => z1u z w); have HPg := Z0 (fun w => z2q z w); have HCp := Z0 (z6v h.rt hg); have c1 := h.cells.2.1; have HH := Z0 h; by_cases hz : z ≤ 32
 ·have hs := W9 z1 hz; obtain ⟨c, hc⟩ : ∃ c : Nat, ofV z = (c : Int) := ⟨(ofV z).toNat, by omega⟩
  rw [hc] at HOf; have c8 : c < 8 := by omega
  have ci0 : (0 : Int) ≤ (c : Int) := by omega
  have ci1 : (c : Int) ≤ 7 := by omega
  have ci8 : ((c : Int) == 8) = false := by simp; omega
  have HP : Hid (K5 n st z = if 0 ≤ nf n st (c : Int) 0 then some ((nf n st (c : Int) 0).toNat, false) else (U2 st.S n 1).map fun p => (64 * p, true)) := by
   show _ = _
   unfold K5; rw [if_neg (by omega), hc]
  clear h hg z1 z2 hz hs hc; go_enter Tryz.func56, Tryz.ntmps56
  go_wp2_with (go_at_call 57; refine Z5 (HOf.out _) ?_); refine HCp.out.mono ?_; rintro e w1 ⟨b', bw', rfl, ht, hb1, hb2, ho1⟩; have HN := Z0 (G0 (HH.out.quiet ho1) c8 (f := 0) (by omega)); have HT := Z0 (z2h ht (c : Int)); have HO1 := Z0 (And.intro ho1 (And.intro hb1 hb2)); obtain ⟨y, hy⟩ : ∃ y, nf n st (c : Int) 0 = y := ⟨_, rfl⟩
  have hym : y ≤ 262144 := by rw [← hy]; unfold nf; have := x0j (fr n st (c : Int)) (64 * n) 0; omega
  rw [hy] at HN HP; clear ht hb1 hb2 ho1 hy HCp c1; go_wp2_with fail; refine HN.out.mono ?_; rintro e wx ⟨rfl, hwx⟩; rw [hwx]; clear hwx wx; by_cases h0 : 0 ≤ y
  ·have HQ := Z0 HP.out; rw [if_pos h0] at HQ; go_wp2; go_ret2; refine ⟨?_, HO1.out.1⟩; unfold q6n q6o; rw [HQ.out]
   show Ending.returned (Value.tuple #[.int .i64 y, .bool false]) = .returned (.tuple #[.int .i64 ((y.toNat : Nat) : Int), .bool false])
   rw [show ((y.toNat : Nat) : Int) = y from by omega]
  ·have HQ := Z0 HP.out; rw [if_neg h0] at HQ; have hcb : U7 (c : Int) = true := by unfold U7; simp; omega
   have hE : tcE st.S n (c : Int) = if (U2 st.S n 1).isSome then 0 else 20 := by unfold tcE; rw [hcb]; rfl
   have hP : tcP st.S n (c : Int) = (U2 st.S n 1).getD 0 := by unfold tcP; rw [hcb]; rfl
   rw [hE, hP] at HT; clear hE hP hcb; go_wp2_with fail; refine HT.out.mono ?_; rintro e w2 ⟨rfl, _, ho2⟩; have HO2 := Z0 (Z9 HO1.out.1 ho2 (.inl HO1.out.2.2)); clear ho2 HT; cases hr : U2 st.S n 1 with
   | none =>
    rw [hr] at HQ; go_wp2; go_ret2; refine ⟨?_, HO2.out⟩; unfold q6n q6o; rw [HQ.out]; rfl
   | some p =>
    rw [hr] at HQ; have hp := (G3 hr).1; have p0 : (0 : Int) ≤ (p : Int) := by omega
    have p1 : (p : Int) ≤ 4096 := by omega
    go_wp2; go_ret2; refine ⟨?_, HO2.out⟩; unfold q6n q6o; rw [HQ.out]
    show Ending.returned (Value.tuple #[.int .i64 ((p : Int) * 64), .bool true]) = .returned (.tuple #[.int .i64 ((64 * p : Nat) : Int), .bool true])
    rw [show ((64 * p : Nat) : Int) = (p : Int) * 64 from by omega]
 ·have hk := z6f (s := z) (by omega) z2; obtain ⟨k, hkk⟩ : ∃ k, ((z + 63) / 64).toNat = k := ⟨_, rfl⟩
  rw [hkk] at hk; have h8 : ofV z = 8 := by unfold ofV; omega
  have hpg : J4 z = (k : Int) := by unfold J4; rw [if_pos (by omega), hk.2.2]
  rw [h8] at HOf; rw [hpg] at HPg; have HP : Hid (K5 n st z = (U2 st.S n k).map fun p => (64 * p, false)) := by
   show _ = _
   unfold K5; rw [if_pos (by omega), hkk]
  have HK := Z0 (And.intro hk.1 hk.2.1); clear h hg z1 z2 hz hk hkk h8 hpg; go_enter Tryz.func56, Tryz.ntmps56
  go_wp2_with (go_at_call 57; refine Z5 (HOf.out _) ?_); refine HCp.out.mono ?_; rintro e w1 ⟨b', bw', rfl, ht, hb1, hb2, ho1⟩; have hT := z8p ht (k : Int); have hcb : q4b (k : Int) = true := by have := HK.out; unfold q4b; simp; omega
  have hE : trE st.S n (k : Int) = if (U2 st.S n k).isSome then 0 else 20 := by unfold trE; rw [hcb]; rfl
  have hP : trP st.S n (k : Int) = (U2 st.S n k).getD 0 := by unfold trP; rw [hcb]; rfl
  rw [hE, hP] at hT; have HT := Z0 hT; have HO1 := Z0 (And.intro ho1 (And.intro hb1 hb2)); clear ht hb1 hb2 ho1 HCp c1 hE hP hcb hT; go_wp2_with (go_at_call 107; refine Z5 (HPg.out _) ?_); refine HT.out.mono ?_; rintro e w2 ⟨rfl, _, ho2⟩; have HO2 := Z0 (Z9 HO1.out.1 ho2 (.inl HO1.out.2.2)); clear ho2 HT; cases hr : U2 st.S n k with
  | none =>
   rw [hr] at HP; go_wp2; go_ret2; refine ⟨?_, HO2.out⟩; unfold q6n q6o; rw [HP.out]; rfl
  | some p =>
   rw [hr] at HP; have hp := (G3 hr).1; have p0 : (0 : Int) ≤ (p : Int) := by omega
   have p1 : (p : Int) ≤ 4096 := by omega
   go_wp2; go_ret2; refine ⟨?_, HO2.out⟩; unfold q6n q6o; rw [HP.out]
   show Ending.returned (Value.tuple #[.int .i64 ((p : Int) * 64), .bool false]) = .returned (.tuple #[.int .i64 ((64 * p : Nat) : Int), .bool false])
   rw [show ((64 * p : Nat) : Int) = (p : Int) * 64 from by omega]
end
section
variable {w : World} {lo hi n cw co : Nat} {s : Nat → Nat} {st : Sp}
theorem j7s {p : Nat} (hI : Inv n st) (hb : Q7 (st.O p) = false) : J5 (Z6 n st) (p + 1) = J5 (Z6 n st) p := by
 have : (Z6 n st).P p = false := by show ob n st p = false; rw [z9j hI]; exact hb
 conv => lhs; unfold J5
 rw [this]; rfl
theorem j2k {p : Nat} (hb : Q7 (st.O p) = true) : (Z6 n st).M (p : Int) = some (st.O p) := by
 show obM st (p : Int) = _
 unfold obM; rw [show ((p : Nat) : Int).toNat = p from by omega, if_pos ⟨by omega, hb⟩]
theorem j0g {p : Nat} (hI : Inv n st) : (Z6 n st).P p = Q7 (st.O p) := by show ob n st p = _; rw [z9j hI]
theorem j3l {p : Nat} (hI : Inv n st) (hb : Q7 (st.O p) = true) : J5 (Z6 n st) (p + 1) = J5 (Z6 n st) p ++ [(p, st.O p)] :=
 q3h (by rw [j0g hI]; exact hb) (j2k hb)
theorem z3y (h : RfAt w lo hi s n cw co st) (hI : Inv n st) : Calls Tryz.prog 36 #[.pointer (some ⟨s 0, 0, none⟩)] w fun e w' => ∃ v, e = .returned v ∧ F8 w' w.heap.size v (J5 (Z6 n st) (64 * n)) ∧ Out 0 0 w w' := by
 obtain ⟨i0, hi0, hz0, hz1, hz2⟩ := Q3 z6s; have h2 := h.n2; obtain ⟨M, hM⟩ : ∃ M, 64 * n = M := ⟨_, rfl⟩
 have M1 : (M : Int) ≤ 262144 := by omega
 have M0 : (0 : Int) ≤ (M : Int) := by omega
 have HH := Z0 h; have HM := Z0 hM; have HI := Z0 hI; rw [hM]; have HS0 : Hid (hi ≤ w.heap.size ∧ 4 ≤ w.heap.size) := by
  have := h.glob; have := h.top; have := h.inn 0 (by omega); exact ⟨h.top, by omega⟩
 have b0 : F8 w w.heap.size (.slice none 0 0) (J5 (Z6 n st) 0) := ⟨rfl, .inl ⟨rfl, rfl⟩⟩
 have HB0 := Z0 b0; clear h h2 hM hI b0; go_enter Tryz.func36, Tryz.ntmps36
 go_wp2_with fail; go_loopw [3, 4] (fun l u wr => ∃ (a : Nat) (v : Value), l = v ∧ u = .int .i64 (a : Int) ∧ a ≤ M ∧ F8 wr w.heap.size v (J5 (Z6 n st) a) ∧ Out 0 0 w wr) (fun _ u _ => M - (intOf u).toNat)
 case atStart => exact ⟨0, _, rfl, rfl, Nat.zero_le _, HB0.out, Out.refl _ _ _⟩
 case round =>
  obtain ⟨a, _, rfl, rfl, ab, hL, hO⟩ := hrel; have a0 : (0 : Int) ≤ (a : Int) := by omega
  have hR := HH.out.quiet hO; have c2 := hR.cells.2.2.1; rw [HM.out] at c2; have HL := Z0 hL; have HO := Z0 hO; have HR := Z0 hR; clear hL hO hR; by_cases ha : a < M
  ·have a1 : (a : Int) < (M : Int) := by omega
   have hm := HM.out; have d0 := HR.out.ro.cell (i := a * 5) (by omega); have d1 := HR.out.ro.cell (i := a * 5 + 1) (by omega); have d2 := HR.out.ro.cell (i := a * 5 + 2) (by omega); have d3 := HR.out.ro.cell (i := a * 5 + 3) (by omega); have d4 := HR.out.ro.cell (i := a * 5 + 4) (by omega); cases hb : Q7 (st.O a) with
   | false =>
    rw [z3g, hb, if_neg (by simp)] at d1; have HN := Z0 (j7s HI.out hb); clear hb d0 d2 d3 d4 hm; go_wp2_with fail; exact ⟨⟨a + 1, u3, rfl, by congr 1, by omega, by rw [HN.out]; exact HL.out, HO.out⟩, by simp [intOf] <;> omega⟩
   | true =>
    obtain ⟨o0, o1, o2, o3, o4⟩ := q2o (st := st) hb; have HN := Z0 (j3l HI.out hb); obtain ⟨b1, b2, b3, b4, hO⟩ : ∃ b1 b2 b3 b4, st.O a = (b1, b2, b3, b4) := ⟨_, _, _, _, rfl⟩
    rw [hO] at o1 o2 o3 o4 HN; dsimp only at o1 o2 o3 o4; rw [o0] at d0; rw [o1] at d1; rw [o2] at d2; rw [o3] at d3; rw [o4] at d4; have hk0 : b1 ≠ 0 := by rw [hO] at hb; unfold Q7 at hb; simpa using hb
    have hkb : (b1 != 0) = true := by simpa using hk0
    have hlen := z4o (Z6 n st) a; obtain ⟨m, hmm⟩ : ∃ m, (J5 (Z6 n st) a).length = m := ⟨_, rfl⟩
    obtain ⟨xs, hxs⟩ : ∃ xs, bks (J5 (Z6 n st) a) = xs := ⟨_, rfl⟩
    have hl := HL.out; unfold F8 at hl; rw [hmm, hxs] at hl; have HMX := Z0 (And.intro hmm hxs); have HV := Z0 (Z8 hl); have HMm : Hid (m ≤ 262144) := by show _ ≤ _; omega
    have HL3 : Hid ((wr.alloc (.cells #[.int .i64 (a : Int), .int .i64 b1, .int .i64 b2, .int .i64 b3, .int .i64 b4] 97)).ownsRow w.heap.size 97 5 u3 m xs) := z0q hl ((Out.refl 0 0 wr).alloc _) (Nat.zero_le _); have HN3 := Z0 (q9y (heap_alloc_new wr (.cells #[.int .i64 (a : Int), .int .i64 b1, .int .i64 b2, .int .i64 b3, .int .i64 b4] 97))); have HG3 : Hid (w.heap.size ≤ (wr.alloc (.cells #[.int .i64 (a : Int), .int .i64 b1, .int .i64 b2, .int .i64 b3, .int .i64 b4] 97)).heap.size) := by
     show _ ≤ _
     have := HO.out.size; rw [World.size_alloc]; omega
    have hne : s 4 ≠ wr.heap.size := by have := HR.out.inn 4 (by omega); have := HR.out.top; omega
    clear hb hO hmm hxs hl hlen o0 o1 o2 o3 o4 hm; go_wp2_with (at_builtin; refine wpList_append_own _ rfl _ _ 70 rfl w.heap.size 97 i0 (.agg #[.int .i64 0, .int .i64 0, .int .i64 0, .int .i64 0, .int .i64 0]) 5 40 Tryz.underlying70 hi0 hz0 hz1 hz2 rfl (by decide) u3 m xs rfl HL3.out ⟨wr.heap.size, 0, none⟩ 1 1 [.int .i64 (a : Int), .int .i64 b1, .int .i64 b2, .int .i64 b3, .int .i64 b4] rfl rfl HN3.out (by intro u hu; simp at hu; rcases hu with rfl | rfl | rfl | rfl | rfl <;> rfl) (by unfold maxLen; have := HMm.out; omega) (by have := HMm.out; omega) HG3.out ?_; intro v' w1 hown' hgrow hnil; have HP4 := Z0 hown'; have HO4 := Z0 (z7j (base := w.heap.size) hgrow (fun g h => (HV.out g h).1)); clear hown' hgrow hnil); have o3 : Out 0 0 wr (wr.alloc (.cells #[.int .i64 (a : Int), .int .i64 b1, .int .i64 b2, .int .i64 b3, .int .i64 b4] 97)) := (Out.refl 0 0 wr).alloc _; refine ⟨⟨a + 1, v', rfl, by congr 1, by omega, ?_, Z9 (HO.out.trans o3) HO4.out (.inl (Nat.le_refl _))⟩, by simp [intOf] <;> omega⟩; unfold F8; rw [HN.out, z9i, List.length_append, HMX.out.1, HMX.out.2]; exact HP4.out
  ·have e : a = M := by omega
   subst e; go_wp2; go_ret; exact ⟨u3, rfl, HL.out, HO.out⟩
end
theorem j8m (a b : Int) (w : World) : (Instr.field 56 (.agg #[.int .i64 a, .int .i64 b]) 0).run Tryz.prog w = .ok (.int .i64 a) w := by kernel_rfl
def lkP (n : Nat) (r : Raw) (c f k : Nat) : Bool := q6g n r c k || (z1m n r c k && decide (k < f))
theorem j9f {N i : Nat} {b : Bool} (hi : i < N) : nxr (fun k => decide (k = i) && b) N 0 = if b then (i : Int) else -1 := by
 cases b with
 | true => rw [if_pos rfl]; exact z3n hi (Nat.zero_le _) (by simp) (fun j _ hj => by simp; omega)
 | false =>
  rw [if_neg (by simp)]; rcases Q1 (fun k => decide (k = i) && false) N 0 with ⟨e, _⟩ | ⟨j, _, _, _, e, _⟩
  ·exact e
  ·simp at e
theorem j8k (A : Nat → Bool) (N : Nat) : nxr A N N = -1 := by
 rcases Q1 A N N with ⟨e, _⟩ | ⟨j, _, e, k, _⟩
 ·exact e
 ·have := k (Nat.le_refl _); omega
theorem j3i {A : Nat → Bool} {N j : Nat} (hj : j < N) : nxr A N j = if A j then (j : Int) else nxr A N (j + 1) := by
 cases h : A j with
 | true => rw [if_pos rfl]; exact z3n hj (Nat.le_refl _) h (fun k h1 h2 => by omega)
 | false =>
  rw [if_neg (by simp)]; rcases Q1 A N (j + 1) with ⟨e, f⟩ | ⟨i, e, i1, i2, i3, i4⟩
  ·rw [e]; rcases Q1 A N j with ⟨e2, _⟩ | ⟨i, _, i1, i2, i3, _⟩
   ·exact e2
   ·have hji := i2 (by omega); by_cases q : i = j
    ·rw [q, h] at i3; cases i3
    ·rw [f i (by omega) i1] at i3; cases i3
  ·rw [e]; have := i2 (by omega); exact z3n i1 (by omega) i3 (fun k h1 h2 => by
    by_cases q : k = j
    ·rw [q]; exact h
    ·exact i4 k (by omega) h2)
section
variable {n : Nat} {st : Sp}
theorem j5y {c : Nat} {f : Nat} (hf : ∀ k, k < f → k < 64 * n → fr n st (c : Int) k = false) : nxr (lkP n (Z6 n st) c f) (64 * n) 0 = nxr (q6g n (Z6 n st) c) (64 * n) 0 := by
 refine z2m fun k _ hk => ?_
 unfold lkP; by_cases h : k < f
 ·have : z1m n (Z6 n st) c k = false := by
   show (fr n st (c : Int) k && _) = false
   rw [hf k h hk]; rfl
  rw [this]; simp
 ·simp [h]
theorem j8q {c f : Nat} (hf : 64 * n ≤ f) : nxr (lkP n (Z6 n st) c f) (64 * n) 0 = nxr (q6g n (Z6 n st) (c + 1)) (64 * n) 0 := by
 refine z2m fun k _ hk => ?_
 unfold lkP; conv => rhs; unfold q6g
 rw [show decide (k < f) = true from by simp; omega, Bool.and_true]
theorem j7n {c i f : Nat} (hi : i < 64 * n) (hfr : fr n st (c : Int) i = true) (hf1 : i < f) (hf : ∀ k, i < k → k < f → k < 64 * n → fr n st (c : Int) k = false) :
  nxr (lkP n (Z6 n st) c f) (64 * n) 0 = if st.W i ≠ Y7 (nf n st (c : Int) (i + 1)) ∧ (nxr (lkP n (Z6 n st) c i) (64 * n) 0 < 0 ∨ (i : Int) < nxr (lkP n (Z6 n st) c i) (64 * n) 0) then (i : Int) else nxr (lkP n (Z6 n st) c i) (64 * n) 0 := by
 have e : nxr (lkP n (Z6 n st) c f) (64 * n) 0 = nxr (fun k => lkP n (Z6 n st) c i k || (decide (k = i) && !(st.W i == Y7 (nf n st (c : Int) (i + 1))))) (64 * n) 0 := by
  refine z2m fun k _ hk => ?_
  unfold lkP; by_cases h1 : k < i
  ·rw [show decide (k < f) = true from by simp; omega, show decide (k < i) = true from by simp; omega, show decide (k = i) = false from by simp; omega]; simp
  ·rw [show decide (k < i) = false from by simp; omega]; by_cases h2 : k = i
   ·subst h2; rw [show decide (k < f) = true from by simp; omega]; have : z1m n (Z6 n st) c k = !(st.W k == Y7 (nf n st (c : Int) (k + 1))) := by
     show (fr n st (c : Int) k && _) = _
     rw [hfr]; rfl
    rw [this]; simp
   ·rw [show decide (k = i) = false from by simp; omega]; by_cases h3 : k < f
    ·have : z1m n (Z6 n st) c k = false := by
      show (fr n st (c : Int) k && _) = false
      rw [hf k (by omega) h3 hk]; rfl
     rw [this]; simp
    ·simp [h3]
 rw [e, j6y, j9f hi]; by_cases hb : st.W i = Y7 (nf n st (c : Int) (i + 1))
 ·rw [show (st.W i == Y7 (nf n st (c : Int) (i + 1))) = true from by simpa using hb]; rw [if_neg (by simp), if_neg (fun q => q.1 hb)]
 ·rw [show (st.W i == Y7 (nf n st (c : Int) (i + 1))) = false from by simpa using hb]; simp only [Bool.not_false, if_true]; by_cases q : nxr (lkP n (Z6 n st) c i) (64 * n) 0 < 0 ∨ (i : Int) < nxr (lkP n (Z6 n st) c i) (64 * n) 0
  ·rw [if_pos ⟨by omega, q⟩, if_pos ⟨hb, q⟩]
  ·rw [if_neg (fun z => q z.2), if_neg (fun z => q z.2)]
theorem x1g {k : Nat} (hI : Inv n st) : z1t (Z6 n st) k = (Q7 (st.O k) && !(st.W k == X9 k (st.O k).1 (st.O k).2.1)) := by
 unfold z1t; rw [j0g hI]; cases hb : Q7 (st.O k) with
 | false => rfl
 | true => rw [j2k hb]; rfl
theorem j9v {k : Nat} (hb : Q7 (st.O k) = true) : z8k (Z6 n st) (k : Int) = if st.W k = X9 k (st.O k).1 (st.O k).2.1 then 0 else 21 := by
 unfold z8k; rw [j2k hb, show ((k : Nat) : Int).toNat = k from by omega]; rfl
end
theorem z8f (n : Nat) (st : Sp) (c : Int) {f : Nat} (hf : f ≤ 64 * n) : ∃ f', f ≤ f' ∧ ((nf n st c f = -1 ∧ 64 * n ≤ f') ∨ (nf n st c f = (f' : Int) ∧ f' < 64 * n ∧ fr n st c f' = true)) ∧ ∀ k, f ≤ k → k < f' → k < 64 * n → fr n st c k = false := by
 unfold nf; rcases Q1 (fr n st c) (64 * n) f with ⟨e, h⟩ | ⟨i, e, i1, i2, i3, i4⟩
 ·exact ⟨64 * n, hf, .inl ⟨e, Nat.le_refl _⟩, fun k h1 _ h3 => h k h1 h3⟩
 ·exact ⟨i, i2 hf, .inr ⟨e, i1, i3⟩, fun k h1 h2 _ => i4 k h1 h2⟩
section
variable {w : World} {lo hi n cw co : Nat} {s : Nat → Nat} {st : Sp}
theorem q2u (h : RfAt w lo hi s n cw co st) (hI : Inv n st) : Calls Tryz.prog 39 #[.pointer (some ⟨s 0, 0, none⟩)] w fun e w' => e = .returned (.int .i64 (nxr (q6g n (Z6 n st) 8) (64 * n) 0)) ∧ Out 0 0 w w' := by
 have h2 := h.n2; obtain ⟨M, hM⟩ : ∃ M, 64 * n = M := ⟨_, rfl⟩
 have M1 : (M : Int) ≤ 262144 := by omega
 have M0 : (0 : Int) ≤ (M : Int) := by omega
 have HH := Z0 h; have HM := Z0 hM; have HI := Z0 hI; have c2 := h.cells.2.2.1; rw [hM] at c2; have hfe := j8m; clear h h2 hM hI; go_enter Tryz.func39, Tryz.ntmps39
 go_wp2_with fail; clear c2; go_loopw [3, 4] (fun l u wr => ∃ j : Nat, u = .int .i64 ((j : Int) - 1) ∧ l = .int .i64 (nxr (z1t (Z6 n st)) (64 * n) j) ∧ j ≤ M ∧ Out 0 0 w wr) (fun _ u _ => (intOf u + 1).toNat)
 case atStart => exact ⟨M, rfl, by rw [HM.out, j8k], Nat.le_refl _, Out.refl _ _ _⟩
 case round =>
  obtain ⟨j, rfl, rfl, jb, hO⟩ := hrel; have hR := HH.out.quiet hO; have c2 := hR.cells.2.2.1; rw [HM.out] at c2; have HO := Z0 hO; have HR := Z0 hR; clear hO hR; by_cases hj : 0 < j
  ·obtain ⟨a, rfl⟩ : ∃ a, j = a + 1 := ⟨j - 1, by omega⟩
   have ea : ((a + 1 : Nat) : Int) - 1 = (a : Int) := by omega
   rw [ea]; have a0 : (0 : Int) ≤ (a : Int) := by omega
   have a1 : (a : Int) < (M : Int) := by omega
   have hm := HM.out; have d1 := HR.out.ro.cell (i := a * 5 + 1) (by omega); rw [z3g] at d1; have hbk := j3i (A := z1t (Z6 n st)) (N := 64 * n) (j := a) (by omega); rw [x1g HI.out] at hbk; obtain ⟨x, hx⟩ : ∃ x, nxr (z1t (Z6 n st)) (64 * n) (a + 1) = x := ⟨_, rfl⟩
   rw [hx] at hbk ⊢; cases hb : Q7 (st.O a) with
   | false =>
    rw [hb, if_neg (by simp)] at d1; rw [hb] at hbk; simp only [Bool.false_and, Bool.false_eq_true, if_false] at hbk; have HN := Z0 hbk; clear hb hm hbk hx; go_wp2_with fail; exact ⟨⟨a, by congr 1, by rw [HN.out], by omega, HO.out⟩, by simp [intOf] <;> omega⟩
   | true =>
    have hck := j9v (n := n) hb; have HC := Z0 (z2n HR.out HI.out (a : Int)); rw [hb, if_pos rfl] at d1; rw [hb, Bool.true_and] at hbk; obtain ⟨k, hk⟩ : ∃ k, (st.O a).1 = k := ⟨_, rfl⟩
    rw [hk] at d1 hck hbk; have hk0 : k ≠ 0 := by unfold Q7 at hb; rw [hk] at hb; simpa using hb
    have hkb : (k != 0) = true := by simpa using hk0
    obtain ⟨ca, hca⟩ : ∃ ca, z3w (Z6 n st) (a : Int) = ca := ⟨_, rfl⟩
    rw [hca] at HC; unfold z3l at HC; by_cases hg : st.W a = X9 a k (st.O a).2.1
    ·rw [if_pos hg] at hck; rw [hck] at HC; rw [show (st.W a == X9 a k (st.O a).2.1) = true from by simpa using hg] at hbk; simp only [Bool.not_true, Bool.false_eq_true, if_false] at hbk; have HN := Z0 hbk; clear hb hm hbk hx hk hca hg hck; go_wp2_with (go_at_call 70; refine HC.out.mono ?_; rintro e w1 ⟨rfl, ho⟩); exact ⟨⟨a, by congr 1, by rw [HN.out], by omega, HO.out.trans ho⟩, by simp [intOf] <;> omega⟩
    ·rw [if_neg hg] at hck; rw [hck] at HC; rw [show (st.W a == X9 a k (st.O a).2.1) = false from by simpa using hg] at hbk; simp only [Bool.not_false, if_true] at hbk; have HN := Z0 hbk; clear hb hm hbk hx hk hca hg hck; go_wp2_with (go_at_call 70; refine HC.out.mono ?_; rintro e w1 ⟨rfl, ho⟩); exact ⟨⟨a, by congr 1, by rw [HN.out], by omega, HO.out.trans ho⟩, by simp [intOf] <;> omega⟩
  ·have e : j = 0 := by omega
   subst e; have e1 : ((0 : Nat) : Int) - 1 = -1 := rfl; rw [e1]; obtain ⟨L0, hL0⟩ : ∃ L0, nxr (z1t (Z6 n st)) (64 * n) 0 = L0 := ⟨_, rfl⟩
   rw [hL0]; have HL0 := Z0 hL0; clear hL0 c2; go_wp2_with fail; go_loopw [3, 5] (fun l u wq => ∃ c : Nat, u = .int .i64 (c : Int) ∧ l = .int .i64 (nxr (q6g n (Z6 n st) c) (64 * n) 0) ∧ c ≤ 8 ∧ Out 0 0 w wq) (fun _ u _ => (8 - intOf u).toNat)
   case atStart => exact ⟨0, rfl, by rw [← HL0.out]; rfl, Nat.zero_le _, HO.out⟩
   case round =>
    clear HO HR HL0; obtain ⟨c, rfl, rfl, cb, hO⟩ := hrel; have hR := HH.out.quiet hO; have HO := Z0 hO; have c0 : (0 : Int) ≤ (c : Int) := by omega
    by_cases hc : c < 8
    ·have c1 : (c : Int) < 8 := by omega
     have HNx := Z0 (G0 hR hc (f := 0) (Nat.zero_le _)); rw [show ((0 : Nat) : Int) = 0 from rfl] at HNx; obtain ⟨f0, _, hf0, hz0⟩ := z8f n st (c : Int) (f := 0) (Nat.zero_le _); have HS0 := Z0 (And.intro (j5y (n := n) (st := st) (c := c) (f := f0) (fun k h1 h2 => hz0 k (Nat.zero_le _) h1 h2)) hf0); obtain ⟨x0, hx0⟩ : ∃ x, nf n st (c : Int) 0 = x := ⟨_, rfl⟩
     obtain ⟨L0, hL0⟩ : ∃ x, nxr (q6g n (Z6 n st) c) (64 * n) 0 = x := ⟨_, rfl⟩
     rw [hx0] at HNx HS0; rw [hL0] at HS0 ⊢; clear hO hR hf0 hz0 hx0 hL0; go_wp2_with (go_at_call 59; refine Z5 HNx.out ?_); go_loopw [3, 6] (fun l u wq => ∃ f : Nat, l = .int .i64 (nxr (lkP n (Z6 n st) c f) (64 * n) 0) ∧ ((u = .int .i64 (-1) ∧ 64 * n ≤ f) ∨ (u = .int .i64 (f : Int) ∧ f < 64 * n ∧ fr n st (c : Int) f = true)) ∧ Out 0 0 w wq) (fun _ u _ => ((M : Int) - (if intOf u < 0 then (M : Int) else intOf u)).toNat)
     case atStart =>
      refine ⟨f0, by rw [HS0.out.1], ?_, HO.out⟩; rcases HS0.out.2 with ⟨e, h⟩ | ⟨e, h⟩
      ·exact .inl ⟨by rw [e], h⟩
      ·exact .inr ⟨by rw [e], h⟩
     case round =>
      clear HO HNx HS0; obtain ⟨f, rfl, hu, hO⟩ := hrel; have hR := HH.out.quiet hO; rcases hu with ⟨rfl, hf⟩ | ⟨rfl, hf, hfr⟩
      ·have HE := Z0 (And.intro (j8q (n := n) (st := st) (c := c) hf) hO); clear hO hR hf; go_wp2_with fail; exact ⟨⟨c + 1, by congr 1, by rw [HE.out.1], by omega, HE.out.2⟩, by simp [intOf] <;> omega⟩
      ·have hm := HM.out; have f0 : (0 : Int) ≤ (f : Int) := by omega
       have f1 : (f : Int) < (M : Int) := by omega
       have c0' := hR.cells.1; rw [hm] at c0'; have d0 := hR.rw.cell (i := f) hf; have HN2 := Z0 (G0 hR hc (f := f + 1) (by omega)); obtain ⟨f', hf1, hfx, hfz⟩ := z8f n st (c : Int) (f := f + 1) (by omega); have hSt := j7n (n := n) (st := st) (c := c) (i := f) (f := f') hf hfr (by omega) (fun k h1 h2 h3 => hfz k h1 h2 h3); have hge : -1 ≤ nf n st (c : Int) (f + 1) ∧ nf n st (c : Int) (f + 1) ≤ 262143 := by
        rcases hfx with ⟨e, _⟩ | ⟨e, h, _⟩ <;> rw [e] <;> omega
       have HLk := Z0 (fun w => z0w hge.1 hge.2 w); obtain ⟨x, hx⟩ : ∃ x, nf n st (c : Int) (f + 1) = x := ⟨_, rfl⟩
       obtain ⟨L, hL⟩ : ∃ L, nxr (lkP n (Z6 n st) c f) (64 * n) 0 = L := ⟨_, rfl⟩
       obtain ⟨y, hy⟩ : ∃ y, st.W f = y := ⟨_, rfl⟩
       obtain ⟨z, hz⟩ : ∃ z, Y7 x = z := ⟨_, rfl⟩
       rw [hx] at HN2 hfx hSt HLk hge; rw [hL] at hSt ⊢; rw [hy] at d0 hSt; rw [hz] at hSt HLk; rw [show ((f + 1 : Nat) : Int) = (f : Int) + 1 from by omega] at HN2; have HX := Z0 (And.intro hfx hf1); have x1 := hge.1; have x2 := hge.2; have HEnd : Hid (∀ (l : Int) (W : World), nxr (lkP n (Z6 n st) c f') (64 * n) 0 = l → Out 0 0 w W → (∃ f : Nat, Value.int .i64 l = .int .i64 (nxr (lkP n (Z6 n st) c f) (64 * n) 0) ∧ ((Value.int .i64 x = .int .i64 (-1) ∧ 64 * n ≤ f) ∨ (Value.int .i64 x = .int .i64 (f : Int) ∧ f < 64 * n ∧ fr n st (c : Int) f = true)) ∧ Out 0 0 w W)) := by
        intro l W hl ho; refine ⟨f', by rw [hl], ?_, ho⟩; rcases HX.out.1 with ⟨e, h⟩ | ⟨e, h⟩
        ·exact .inl ⟨by rw [e], h⟩
        ·exact .inr ⟨by rw [e], h⟩
       have HMs : Hid ((M : Int) - (if x < 0 then (M : Int) else x) < (M : Int) - (f : Int)) := by
        show _ < _
        rcases HX.out.1 with ⟨e, h⟩ | ⟨e, h, _⟩
        ·rw [e, if_pos (by omega)]; omega
        ·have := HX.out.2; rw [e, if_neg (by omega)]; omega
       clear hR hfr hfx hfz hge hx hL hy hz hm hf hf1 HX; by_cases hyz : y = z
       ·have e1 : (y != z) = false := by simpa using hyz
        rw [if_neg (fun q => q.1 hyz)] at hSt; have HSt := Z0 hSt; clear hyz hSt; go_wp2_with (go_at_call 59; refine Z5 HN2.out ?_); refine wp_region_held_drew (S := fun w' => w'.cell? ⟨s 0, 0, none⟩ = some (.slice (some ⟨s 1, 0, none⟩) M cw) ∧ w'.cell? ⟨s 1, f, none⟩ = some (.int .i64 y)) (by kernel_rfl) ?hS1 (fun hHeld => ?rest1)
        case hS1 => exact ⟨c0', d0⟩
        refine tk 0 ?_; refine tk 1 ?_; refine tk 2 ?_; refine tk 3 ?_; refine tk 4 ?_; refine tk 5 ?_; refine tk 6 ?_; refine tk 7 ?_; refine rd1 8 fun KK hK => ?_
        simp only [xa, xb, xc]; go_simp; refine Z5 (HLk.out _) ?_; refine hK.out _ _ ?hS10 (fun hHeld2 => ?rest10)
        case hS10 => exact hHeld
        clear hK KK; replace hHeld := hHeld2; clear hHeld2; refine tk 9 ?_; refine tk 10 ?_; refine sk 11 ?_; refine sk 12 ?_; refine sk 13 ?_; refine sk 14 ?_; refine sk 15 ?_; refine sk 16 ?_; refine sk 17 ?_; refine tk 18 ?_; refine dn ?_; clear hHeld; have hOd := hO.drew; clear hO; go_wp2_with fail; exact ⟨HEnd.out _ _ HSt.out hOd, by have := HMs.out; simp [intOf] <;> omega⟩
       ·have e1 : (y != z) = true := by simpa using hyz
        by_cases hl : L < 0
        ·have e2 : decide (L < 0) = true := by simpa using hl
         rw [if_pos ⟨hyz, .inl hl⟩] at hSt; have HSt := Z0 hSt; clear hyz hSt; go_wp2_with (go_at_call 59; refine Z5 HN2.out ?_); refine wp_region_held_drew (S := fun w' => w'.cell? ⟨s 0, 0, none⟩ = some (.slice (some ⟨s 1, 0, none⟩) M cw) ∧ w'.cell? ⟨s 1, f, none⟩ = some (.int .i64 y)) (by kernel_rfl) ?hS21 (fun hHeld => ?rest21)
         case hS21 => exact ⟨c0', d0⟩
         refine tk 0 ?_; refine tk 1 ?_; refine tk 2 ?_; refine tk 3 ?_; refine tk 4 ?_; refine tk 5 ?_; refine tk 6 ?_; refine tk 7 ?_; refine rd1 8 fun KK hK => ?_
         simp only [xa, xb, xc]; go_simp; refine Z5 (HLk.out _) ?_; refine hK.out _ _ ?hS30 (fun hHeld2 => ?rest30)
         case hS30 => exact hHeld
         clear hK KK; replace hHeld := hHeld2; clear hHeld2; refine tk 9 ?_; refine tk 10 ?_; refine tk 11 ?_; refine tk 12 ?_; refine tk 13 ?_; refine sk 14 ?_; refine sk 15 ?_; refine sk 16 ?_; refine tk 17 ?_; refine tk 18 ?_; refine dn ?_; clear hHeld; have hOd := hO.drew; clear hO; go_wp2_with fail; exact ⟨HEnd.out _ _ HSt.out hOd, by have := HMs.out; simp [intOf] <;> omega⟩
        ·have e2 : decide (L < 0) = false := by simpa using hl
         by_cases hq : (f : Int) < L
         ·have e3 : decide ((f : Int) < L) = true := by simpa using hq
          rw [if_pos ⟨hyz, .inr hq⟩] at hSt; have HSt := Z0 hSt; clear hyz hSt; go_wp2_with (go_at_call 59; refine Z5 HN2.out ?_); refine wp_region_held_drew (S := fun w' => w'.cell? ⟨s 0, 0, none⟩ = some (.slice (some ⟨s 1, 0, none⟩) M cw) ∧ w'.cell? ⟨s 1, f, none⟩ = some (.int .i64 y)) (by kernel_rfl) ?hS41 (fun hHeld => ?rest41)
          case hS41 => exact ⟨c0', d0⟩
          refine tk 0 ?_; refine tk 1 ?_; refine tk 2 ?_; refine tk 3 ?_; refine tk 4 ?_; refine tk 5 ?_; refine tk 6 ?_; refine tk 7 ?_; refine rd1 8 fun KK hK => ?_
          simp only [xa, xb, xc]; go_simp; refine Z5 (HLk.out _) ?_; refine hK.out _ _ ?hS50 (fun hHeld2 => ?rest50)
          case hS50 => exact hHeld
          clear hK KK; replace hHeld := hHeld2; clear hHeld2; refine tk 9 ?_; refine tk 10 ?_; refine tk 11 ?_; refine tk 12 ?_; refine tk 13 ?_; refine tk 14 ?_; refine tk 15 ?_; refine tk 16 ?_; refine tk 17 ?_; refine tk 18 ?_; refine dn ?_; clear hHeld; have hOd := hO.drew; clear hO; go_wp2_with fail; exact ⟨HEnd.out _ _ HSt.out hOd, by have := HMs.out; simp [intOf] <;> omega⟩
         ·have e3 : decide ((f : Int) < L) = false := by simpa using hq
          rw [if_neg (fun z => z.2.elim hl hq)] at hSt; have HSt := Z0 hSt; clear hyz hSt; go_wp2_with (go_at_call 59; refine Z5 HN2.out ?_); refine wp_region_held_drew (S := fun w' => w'.cell? ⟨s 0, 0, none⟩ = some (.slice (some ⟨s 1, 0, none⟩) M cw) ∧ w'.cell? ⟨s 1, f, none⟩ = some (.int .i64 y)) (by kernel_rfl) ?hS61 (fun hHeld => ?rest61)
          case hS61 => exact ⟨c0', d0⟩
          refine tk 0 ?_; refine tk 1 ?_; refine tk 2 ?_; refine tk 3 ?_; refine tk 4 ?_; refine tk 5 ?_; refine tk 6 ?_; refine tk 7 ?_; refine rd1 8 fun KK hK => ?_
          simp only [xa, xb, xc]; go_simp; refine Z5 (HLk.out _) ?_; refine hK.out _ _ ?hS70 (fun hHeld2 => ?rest70)
          case hS70 => exact hHeld
          clear hK KK; replace hHeld := hHeld2; clear hHeld2; refine tk 9 ?_; refine tk 10 ?_; refine tk 11 ?_; refine tk 12 ?_; refine tk 13 ?_; refine tk 14 ?_; refine tk 15 ?_; refine tk 16 ?_; refine tk 17 ?_; refine tk 18 ?_; refine dn ?_; clear hHeld; have hOd := hO.drew; clear hO; go_wp2_with fail; exact ⟨HEnd.out _ _ HSt.out hOd, by have := HMs.out; simp [intOf] <;> omega⟩
    ·have e : c = 8 := by omega
     subst e; clear hO hR; go_wp2; go_ret; exact ⟨rfl, HO.out⟩
end
end Go.Proofs.YtjbbkeoolodeaabGreatDoor
