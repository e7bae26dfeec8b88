import Derived.Test.YtjbbkeoolodeaabGreatDoorA37
import Derived.Test.YtjbbkeoolodeaabGreatDoorA17
import Derived.Test.YtjbbkeoolodeaabGreatDoorA21
import Derived.Test.YtjbbkeoolodeaabGreatDoorA26
namespace Go.Proofs.YtjbbkeoolodeaabGreatDoor
open Go.RowKit
set_option linter.unusedVariables false
set_option maxRecDepth 100000
set_option maxHeartbeats 16000000
set_option linter.unusedSimpArgs false
def Cov (S : Nat → Int × Int × Int) (O : Nat → Blk) (p q : Nat) : Prop := ∃ h, h < p ∧ G6 S O h = false ∧ ((S h).1 = 1 ∨ (S h).1 = 2) ∧ h ≤ q ∧ q < h + z4t (S h)
section
variable {n : Nat} {st : Sp}
theorem q4d {x : Int × Int × Int} (h : x.1 = 1) : z4t x = 1 := by unfold z4t; rw [if_neg (by omega)]
theorem j5d {O : Nat → Blk} {p : Nat} (hg : Good n st.S) (hp : p < n) (h : Cov st.S O p p) : st.S p = (3, 0, 0) := by
 obtain ⟨h, h1, h2, h3, h4, h5⟩ := h; rcases h3 with e | e
 ·rw [q4d e] at h5; omega
 ·rcases hg h (by omega) with q | ⟨c, _, _, q⟩ | ⟨k, k1, k2, k3, q, k5⟩ | ⟨q, _⟩
  ·rw [q] at e; cases e
  ·rw [q] at e; cases e
  ·have : z4t (st.S h) = k := by rw [q]; unfold z4t; simp
   rw [this] at h5; exact k5 p h1 h5
  ·rw [q] at e; cases e
theorem x1i {O : Nat → Blk} (hg : Good n st.S) : ∀ p, p ≤ n → ∀ q, (Cov st.S O p q → gkS n { st with O := O } p q = (0, 0, 0)) ∧ (¬Cov st.S O p q → gkS n { st with O := O } p q = st.S q)
 | 0, _, q => ⟨fun ⟨h, h1, _⟩ => by omega, fun _ => rfl⟩
 | p + 1, hp, q => by
  have ih := x1i (O := O) hg p (by omega); obtain ⟨T, hT⟩ : ∃ T, gkS n { st with O := O } p = T := ⟨_, rfl⟩
  rw [hT] at ih; have hs : gkS n { st with O := O } (p + 1) = if G6 T O p then T else gvS T n (p : Int) := by rw [← hT]; rfl
  rw [hs]; have hin : inB n (p : Int) = true := by unfold inB; simp; omega
  have hup : Cov st.S O p q → Cov st.S O (p + 1) q := fun ⟨h, h1, h2⟩ => ⟨h, by omega, h2⟩
  have hdn : (¬((st.S p).1 = 1 ∨ (st.S p).1 = 2) ∨ G6 st.S O p = true ∨ ¬(p ≤ q ∧ q < p + z4t (st.S p))) → Cov st.S O (p + 1) q → Cov st.S O p q := fun hor ⟨h, h1, h2, h3, h4, h5⟩ => by
   by_cases e : h = p
   ·subst e; rcases hor with x | x | x
    ·exact absurd h3 x
    ·rw [x] at h2; cases h2
    ·exact absurd ⟨h4, h5⟩ x
   ·exact ⟨h, by omega, h2, h3, h4, h5⟩
  by_cases hc : Cov st.S O p p
  ·have h3 := j5d hg (by omega) hc; have ht := (ih p).1 hc; have hu : G6 T O p = false := by unfold G6; rw [ht]; rfl
   have hv : gvS T n (p : Int) = T := by
    unfold gvS z4n; rw [show ((p : Nat) : Int).toNat = p from by omega, ht, hin]; rfl
   rw [hu, if_neg (by simp), hv]; have hd := hdn (.inl (by rw [h3]; rintro (e | e) <;> cases e)); exact ⟨fun h => (ih q).1 (hd h), fun h => (ih q).2 (fun x => h (hup x))⟩
  ·have ht := (ih p).2 hc; have hu : G6 T O p = G6 st.S O p := by unfold G6; rw [ht]
   rw [hu]; cases hup2 : G6 st.S O p with
   | true =>
    rw [if_pos rfl]; have hd := hdn (.inr (.inl hup2)); exact ⟨fun h => (ih q).1 (hd h), fun h => (ih q).2 (fun x => h (hup x))⟩
   | false =>
    rw [if_neg (by simp)]; unfold gvS z4n; rw [show ((p : Nat) : Int).toNat = p from by omega, ht, hin]; by_cases hk : (st.S p).1 = 1 ∨ (st.S p).1 = 2
    ·have : (true && ((st.S p).1 == 1 || (st.S p).1 == 2)) = true := by simpa using hk
     rw [this, if_pos rfl]; unfold setF; by_cases hr : p ≤ q ∧ q < p + z4t (st.S p)
     ·rw [if_pos hr]; exact ⟨fun _ => rfl, fun h => absurd ⟨p, by omega, hup2, hk, hr.1, hr.2⟩ h⟩
     ·rw [if_neg hr]; have hd := hdn (.inr (.inr hr)); exact ⟨fun h => (ih q).1 (hd h), fun h => (ih q).2 (fun x => h (hup x))⟩
    ·have : (true && ((st.S p).1 == 1 || (st.S p).1 == 2)) = false := by simpa using hk
     rw [this, if_neg (by simp)]; have hd := hdn (.inl hk); exact ⟨fun h => (ih q).1 (hd h), fun h => (ih q).2 (fun x => h (hup x))⟩
theorem q4n {O : Nat → Blk} {p : Nat} : ∀ i, q4i O p i = true ↔ ∃ j, j < i ∧ Q7 (O (64 * p + j)) = true
 | 0 => ⟨fun h => (by cases h), fun ⟨j, h, _⟩ => absurd h (Nat.not_lt_zero _)⟩
 | i + 1 => by
  unfold q4i; rw [Bool.or_eq_true, q4n i]; constructor
  ·rintro (⟨j, h1, h2⟩ | h)
   ·exact ⟨j, by omega, h2⟩
   ·exact ⟨i, by omega, h⟩
  ·rintro ⟨j, h1, h2⟩; by_cases e : j = i
   ·exact .inr (e ▸ h2)
   ·exact .inl ⟨j, by omega, h2⟩
theorem j5n {P : Nat → Bool} {lo hi j : Nat} (h1 : lo ≤ j) (h2 : j < hi) (hp : P j = true) : 0 < z6o P lo hi := by
 exact Nat.pos_of_ne_zero (j0v (S := fun j => decide (lo ≤ j) && P j) (a := j) (by simp [h1, hp]) hi h2)
theorem cntR_none {P : Nat → Bool} {lo hi : Nat} : (z6o P lo hi == 0) = true ↔ ∀ j, lo ≤ j → j < hi → P j = false := by
 rw [beq_iff_eq]; constructor
 ·intro h j h1 h2; cases hp : P j with
  | false => rfl
  | true =>
   exfalso
   have := j5n (P := P) (lo := lo) (hi := hi) (j := j) h1 h2 hp; omega
 ·intro h; unfold z6o; exact z4q fun j hj => by
   by_cases e : lo ≤ j
   ·simp [h j e hj]
   ·simp [e]
theorem q9c {kp : Nat → Bool} {q : Nat} (hI : Inv n st) (hq : q < n) (hk : (st.S q).1 = 1) : G6 st.S (kpO st kp) q = !(z6o (ob n { st with O := kpO st kp }) (64 * q) (64 * q + 64) == 0) := by
 have hu : G6 st.S (kpO st kp) q = q4i (kpO st kp) q 64 := by unfold G6; rw [if_neg (by omega), if_pos hk]
 rw [hu]; cases ha : q4i (kpO st kp) q 64 with
 | true =>
  obtain ⟨j, j1, j2⟩ := (q4n 64).1 ha; cases hc : (z6o (ob n { st with O := kpO st kp }) (64 * q) (64 * q + 64) == 0) with
  | false => rfl
  | true =>
   have := cntR_none.1 hc (64 * q + j) (by omega) (by omega); unfold ob at this; rw [show decide (64 * q + j < 64 * n) = true from by simp; omega] at this; have h2 : Q7 (kpO st kp (64 * q + j)) = false := this; rw [j2] at h2; cases h2
 | false =>
  have : (z6o (ob n { st with O := kpO st kp }) (64 * q) (64 * q + 64) == 0) = true := cntR_none.2 fun j j1 j2 => by
   cases hb : ob n { st with O := kpO st kp } j with
   | false => rfl
   | true =>
    unfold ob at hb; rw [Bool.and_eq_true] at hb; have := (q4n (O := kpO st kp) (p := q) 64).2 ⟨j - 64 * q, by omega, by rw [show 64 * q + (j - 64 * q) = j from by omega]; exact hb.2⟩; rw [ha] at this; cases this
  rw [this]; rfl
theorem j6u {kp : Nat → Bool} (hI : Inv n st) : gkS n { st with O := kpO st kp } n = dlS (z6d n st kp) (ob n { st with O := kpO st kp }) n := by
 funext q
 have hg := x1i (O := kpO st kp) hI.good n (Nat.le_refl _) q; by_cases hc : Cov st.S (kpO st kp) n q
 ·rw [hg.1 hc]; obtain ⟨h, h1, h2, h3, h4, h5⟩ := hc; unfold dlS; rcases h3 with e | e
  ·rw [q4d e] at h5; obtain rfl : q = h := by omega
   by_cases hgo : z1f (Z6 n st) kp (64 * n) q = true
   ·have : z6d n st kp q = (0, 0, 0) := by unfold z6d; rw [if_pos hgo]
    rw [this]; split <;> rfl
   ·have hk : z6d n st kp q = st.S q := by unfold z6d; rw [if_neg hgo]
    have hb : z3t (z6d n st kp) (ob n { st with O := kpO st kp }) q = true := by
     unfold z3t; rw [hk, e]; rw [q9c hI h1 e] at h2; simpa using h2
    rw [hb, show decide (q < n) = true from by simpa using h1]; rfl
  ·have hh := hI.heads h h1 e; have hu : Q7 (kpO st kp (64 * h)) = false := by unfold G6 at h2; rw [if_pos e] at h2; exact h2
   have hkp : kp (64 * h) = false := by
    rw [z2y, hh] at hu; simpa using hu
   have hob := hI.objs _ hh; obtain ⟨o1, o2, o3⟩ := hob; rw [show 64 * h / 64 = h from by omega] at o3; obtain ⟨z, hz⟩ : ∃ z, (st.O (64 * h)).2.1 = z := ⟨_, rfl⟩
   rw [hz] at o3; rcases o3 with ⟨_, e3, _⟩ | ⟨e2, _, e3⟩
   ·rw [e3] at e; cases e
   ·have hl : z4t (st.S h) = ((z + 63) / 64).toNat := by rw [e3]; unfold z4t; rw [if_pos rfl]
    rw [hl] at h5; have hgo : z1f (Z6 n st) kp (64 * n) q = true := goneP_iff.2 ⟨64 * h, st.O (64 * h), by omega, by
     unfold z1l; rw [j0g hI, hh, hkp]; rfl, j2k hh, by rw [hz]; exact e2, by omega, by rw [hz]; omega⟩
    have : z6d n st kp q = (0, 0, 0) := by unfold z6d; rw [if_pos hgo]
    rw [this]; split <;> rfl
 ·rw [hg.2 hc]; have hgo : ¬ z1f (Z6 n st) kp (64 * n) q = true := fun hgo => by
   obtain ⟨a, b, a1, a2, a3, a4, a5, a6⟩ := goneP_iff.1 hgo; unfold z1l at a2; rw [j0g hI, Bool.and_eq_true] at a2; rw [j2k a2.1] at a3; cases a3; obtain ⟨o1, o2, o3⟩ := hI.objs a a2.1; rcases o3 with ⟨e1, _⟩ | ⟨_, e2, e3⟩
   ·omega
   ·refine hc ⟨a / 64, by omega, ?_, .inr (by rw [e3]), a5, ?_⟩
    ·unfold G6; rw [e3, if_pos rfl, show 64 * (a / 64) = a from by omega, z2y]; have := a2.2; simp at this; rw [this]; simp
    ·rw [e3]; unfold z4t; rw [if_pos rfl]; exact a6
  have hk : z6d n st kp q = st.S q := by unfold z6d; rw [if_neg hgo]
  unfold dlS; rw [hk]; cases hd : (decide (q < n) && z3t (z6d n st kp) (ob n { st with O := kpO st kp }) q) with
  | false => rfl
  | true =>
   exfalso
   rw [Bool.and_eq_true, decide_eq_true_eq] at hd; obtain ⟨q1, q2⟩ := hd; unfold z3t at q2; rw [hk, Bool.and_eq_true, beq_iff_eq] at q2; exact hc ⟨q, q1, by rw [q9c hI q1 q2.1, q2.2]; rfl, .inl q2.1, Nat.le_refl _, by rw [q4d q2.1]; omega⟩
end
section
variable {n : Nat} {st : Sp}
theorem j7e {kp : Nat → Bool} (hI : Inv n st) : dpO st kp (64 * n) = kpO st kp := by
 funext b
 unfold dpO; by_cases h : b < 64 * n
 ·rw [if_pos h]
 ·rw [if_neg h]; have hb : Q7 (st.O b) = false := by
   cases hh : Q7 (st.O b) with
   | false => rfl
   | true => exact absurd (hI.objs b hh).1 h
  have := hI.none b hb; unfold kpO; split
  ·rfl
  ·exact this
theorem q9j {s2 : Sp} : ∀ p j, z1d s2 p j = true ↔ ∃ a, a < p ∧ Q7 (s2.O a) = true ∧ a ≤ j ∧ j < a + J3 (s2.O a).2.1
 | 0, j => ⟨fun h => (by cases h), fun ⟨a, h, _⟩ => absurd h (Nat.not_lt_zero _)⟩
 | p + 1, j => by
  unfold z1d; rw [Bool.or_eq_true, q9j p j, Bool.and_eq_true, decide_eq_true_eq]; constructor
  ·rintro (⟨a, h1, h2⟩ | ⟨h1, h2⟩)
   ·exact ⟨a, by omega, h2⟩
   ·exact ⟨p, by omega, h1, h2⟩
  ·rintro ⟨a, h1, h2, h3⟩; by_cases e : a = p
   ·subst e; exact .inr ⟨h2, h3⟩
   ·exact .inl ⟨a, by omega, h2, h3⟩
theorem j4p {l : List Int} {S : Nat → Int × Int × Int} (hI : Inv n st) (j : Nat) : z1d { st with S := S, O := kpO st (kpS l) } (64 * n) j = q7v (Q6 n (Z6 n st) (kpS l) (64 * n)) j := by
 rw [Bool.eq_iff_iff, q9j, j1a hI]; constructor
 ·rintro ⟨a, h1, h2, h3, h4⟩; have h2' : Q7 (kpO st (kpS l) a) = true := h2; have hk := h2'; rw [z2y, Bool.and_eq_true] at hk; have e : kpO st (kpS l) a = st.O a := by unfold kpO; rw [if_pos hk.2]
  refine ⟨a, by rw [z6n, hk.1, hk.2]; rfl, h3, ?_⟩; have h4' : j < a + J3 (kpO st (kpS l) a).2.1 := h4; rw [e] at h4'; exact h4'
 ·rintro ⟨a, h1, h2, h3⟩; rw [z6n, Bool.and_eq_true] at h1; have e : kpO st (kpS l) a = st.O a := by unfold kpO; rw [if_pos h1.2]
  refine ⟨a, (hI.objs a h1.1).1, ?_, h2, ?_⟩
  ·show Q7 (kpO st (kpS l) a) = true
   rw [e]; exact h1.1
  ·show j < a + J3 (kpO st (kpS l) a).2.1
   rw [e]; exact h3
theorem j8v {l : List Int} (hI : Inv n st) : ({ st with W := tzW n { st with S := gkS n { st with O := dpO st (kpS l) (64 * n) } n, O := dpO st (kpS l) (64 * n) } (64 * n), S := gkS n { st with O := dpO st (kpS l) (64 * n) } n, O := dpO st (kpS l) (64 * n) } : Sp) = q5h n st (kpS l) := by
 rw [j7e hI, j6u hI]; unfold q5h; congr 1
 funext j
 unfold tzW wpW; rw [j4p hI, (U6 (n := n) (r := Z6 n st) (kp := kpS l) (B7 st) (64 * n) j).2.2]; rfl
theorem j3r {l : List Int} (hI : Inv n st) : Inv n { st with S := gkS n { st with O := dpO st (kpS l) (64 * n) } n, O := dpO st (kpS l) (64 * n) } := by
 rw [j7e hI, j6u hI]; have hk := q7d (l := l) hI; obtain ⟨e1, e2, e3⟩ := z4b n (q5h n st (kpS l)) 8; have e1' : (G2 n st l).S = dlS (z6d n st (kpS l)) (ob n { st with O := kpO st (kpS l) }) n := e1; have e2' : (G2 n st l).O = kpO st (kpS l) := e2; have e3' : (G2 n st l).last = st.last := e3; refine ⟨hk.n1, hk.n2, ?_, ?_, ?_, ?_, ?_, ?_, ?_⟩
 ·have := hk.good; rw [e1'] at this; exact this
 ·have := hk.objs; rw [e1', e2'] at this; exact this
 ·have := hk.none; rw [e2'] at this; exact this
 ·have := hk.heads; rw [e1', e2'] at this; exact this
 ·have := hk.last0; rw [e3'] at this; exact this
 ·have := hk.ser; rw [e2', e3'] at this; exact this
 ·have := hk.one; rw [e2'] at this; exact this
theorem q1f {w : World} {lo hi cw co : Nat} {s : Nat → Nat} (h : RfAt w lo hi s n cw co st) (hI : Inv n st) {l : List Int} {p : Option Addr} {cp : Nat} (hl : z2x w p l) (hll : (l.length : Int) < 9223372036854775807) :
  Calls Tryz.prog 64 #[.pointer (some ⟨s 0, 0, none⟩), .slice p l.length cp] w fun e w' => Out lo hi w w' ∧
   (((∀ a ∈ l, (obM st a).isSome = true) ∧ e = .returned (.tuple #[.int .i64 ((J7 (Z6 n st) (kpS l) (64 * n) : Nat) : Int), .int .i64 0]) ∧ RfAt w' lo hi s n cw co (G2 n st l)) ∨
    ((∃ a ∈ l, obM st a = none) ∧ e = .returned (.tuple #[.int .i64 0, .int .i64 22]) ∧ RfAt w' lo hi s n cw co st)) := by
 have := q1p h hI (cp := cp) hl hll (j3r hI); rw [j8v hI] at this; exact this
end
def pr0 (x y : Nat) : Obj := .cells #[.pointer (some ⟨x, 0, none⟩), .pointer (some ⟨y, 0, none⟩), .slice none 0 0, .slice none 0 0, .slice none 0 0, .slice none 0 0, .slice none 0 0, .slice none 0 0, .slice none 0 0, .slice none 0 0, .slice none 0 0, .slice none 0 0, .slice none 0 0, .slice none 0 0] 54
theorem j3e (n : Int) (h : j2u n = false) (w : World) : Calls Tryz.prog 12 #[.int .i64 n] w fun e w' => e = .returned (.tuple #[.pointer none, .int .i64 1]) ∧ w' = w := by
 have HP := Z0 (fun w => x2c n h w); clear h; go_enter Tryz.func12, Tryz.ntmps12
 go_wp2_with (go_at_call 46; refine Z5 (HP.out _) ?_); go_ret2; exact ⟨rfl, rfl⟩
theorem j7o (n : Int) (h : j2u n = false) (w : World) : Calls Tryz.prog 8 #[.int .i64 n] w fun e w' => e = .returned (.tuple #[.pointer none, .bool true]) ∧ w' = w := by
 have HP := Z0 (fun w => j3e n h w); have HR := Z0 (fun w => q7m n h w); unfold j2u at h; simp at h; by_cases h1 : 1 ≤ n
 ·have h2 : 4096 < n := by omega
  have h3 : ¬ n ≤ 4096 := by omega
  have h4 : 24 < n := by omega
  clear h; go_enter Tryz.func8, Tryz.ntmps8
  go_wp2_with (first | (go_at_call 12; refine Z5 (HP.out _) ?_) | (go_at_call 16; refine Z5 (HR.out _) ?_)); go_ret2; exact ⟨rfl, rfl⟩
 ·have h4 : ¬ 24 < n := by omega
  clear h h1; go_enter Tryz.func8, Tryz.ntmps8
  go_wp2_with (first | (go_at_call 12; refine Z5 (HP.out _) ?_) | (go_at_call 16; refine Z5 (HR.out _) ?_)); go_ret2; exact ⟨rfl, rfl⟩
theorem q8o {w : World} (hT : Tab w) (n : Nat) (h1 : 24 < n) (h2 : n ≤ 4096) : Calls Tryz.prog 8 #[.int .i64 n] w fun e w' => e = .returned (.tuple #[.pointer none, .bool true]) ∧ Out 0 0 w w' := by
 have HP := Z0 (z6u hT n (by omega) h2); have n1 : (24 : Int) < (n : Int) := by omega
 have n2 : (n : Int) ≤ 4096 := by omega
 clear hT h1 h2; go_enter Tryz.func8, Tryz.ntmps8
 go_wp2_with fail; refine HP.out.mono ?_; rintro e w1 ⟨s, cap, rfl, hs, ho⟩; have hW := z3r hs.1; rw [show ((64 * n : Nat) : Int) = 64 * (n : Int) from by omega] at hW; obtain ⟨X, hX⟩ : ∃ X, s 14 = X := ⟨_, rfl⟩
 rw [hX] at hW ⊢; have HW := Z0 hW; have HO := Z0 ho; clear hs ho hX hW; go_wp2_with (go_at_call 15; refine Z5 HW.out ?_); go_ret2; exact ⟨rfl, HO.out⟩
theorem j3n {w : World} (hT : Tab w) (n : Nat) (h1 : 1 ≤ n) (h2 : n ≤ 24) : Calls Tryz.prog 8 #[.int .i64 n] w fun e w' => ∃ b s sr cap m, e = .returned (.tuple #[.pointer (some ⟨b, 0, none⟩), .bool true]) ∧ SpAt w' w.heap.size m s n cap newSp ∧ RfAt w' m b sr n (64 * n) (64 * n) newSp ∧ w'.heap[b]? = some (pr0 (s 14) (sr 0)) ∧ w'.heap.size = b + 1 ∧ Out 0 0 w w' := by
 have HP := Z0 (z6u hT n h1 (by omega)); have HT := Z0 hT; have HN := Z0 (And.intro h1 h2); have n1 : (1 : Int) ≤ (n : Int) := by omega
 have n2 : (n : Int) ≤ 24 := by omega
 have n3 : ¬ (24 : Int) < (n : Int) := by omega
 clear hT h1 h2; go_enter Tryz.func8, Tryz.ntmps8
 go_wp2_with fail; refine HP.out.mono ?_; rintro e w1 ⟨s, cap, rfl, hs, ho⟩; obtain ⟨X, hX⟩ : ∃ X, s 14 = X := ⟨_, rfl⟩
 rw [hX]; have hNr := q4z (w := w1) (by have := (HT.out.quiet ho).lt; omega) n HN.out.1 (by have := HN.out; omega); have HNr := Z0 hNr; have H1 := Z0 (And.intro hs (And.intro ho hX)); clear hs ho hX hNr; go_wp2_with fail; refine HNr.out.mono ?_; rintro e w2 ⟨sr, rfl, hr, o2⟩; obtain ⟨Y, hY⟩ : ∃ Y, sr 0 = Y := ⟨_, rfl⟩
 rw [hY]; have H2 := Z0 (And.intro hr (And.intro o2 hY)); clear hr o2 hY; go_wp2_with fail; go_ret2; have o3 : Out 0 0 w2 (w2.alloc (pr0 X Y)) := (Out.refl 0 0 w2).alloc _; refine ⟨w2.heap.size, s, sr, cap, w1.heap.size, rfl, ?_, ?_, ?_, World.size_alloc _ _, (H1.out.2.1.trans H2.out.2.1).trans o3⟩
 ·exact ((H1.out.1.quiet H2.out.2.1).quiet o3)
 ·exact H2.out.1.quiet o3
 ·rw [H1.out.2.2, H2.out.2.2]; exact heap_alloc_new _ _
structure Two (w : World) (b lo hi lo' hi' : Nat) (s sr : Nat → Nat) (n cap cw co : Nat) (st : Sp) : Prop where
 sp : SpAt w lo hi s n cap st
 rf : RfAt w lo' hi' sr n cw co st
 p0 : w.cell? ⟨b, 0, none⟩ = some (.pointer (some ⟨s 14, 0, none⟩))
 p1 : w.cell? ⟨b, 1, none⟩ = some (.pointer (some ⟨sr 0, 0, none⟩))
section
variable {w w' : World} {b lo hi lo' hi' n cap cw co : Nat} {s sr : Nat → Nat} {st : Sp}
theorem z0l (e a : Int) (w : World) : Calls Tryz.prog 18 #[.agg #[.int .i64 e, .int .i64 a], .agg #[.int .i64 e, .int .i64 a]] w fun x w' => x = .returned (.bool true) ∧ Out 0 0 w w' := by
 go_enter Tryz.func18, Tryz.ntmps18
 go_wp2; go_ret; exact ⟨rfl, ((Out.refl 0 0 w).alloc _).alloc _⟩
end
def nD (n : Nat) (st : Sp) (t : Nat) : Nat := if t = 0 then 64 * n else if t = 1 then n else (J5 (Z6 n st) (64 * n)).length
def fD (n : Nat) (st : Sp) (t j i : Nat) : Int := if t = 0 then fW st j i else if t = 1 then fP st j i else fO (J5 (Z6 n st) (64 * n)) j i
def x6 (a2 a3 a4 a5 a6 a7 : Value) : Nat → Value
 | 2 => a2
 | 3 => a3
 | 4 => a4
 | 5 => a5
 | 6 => a6
 | _ => a7
theorem j8h {n : Nat} (hn : n ≤ 24) (st : Sp) (t : Nat) : nD n st t ≤ 1536 := by
 have := z4o (Z6 n st) (64 * n); unfold nD; split
 ·omega
 ·split <;> omega
theorem q9h {w : World} {B base n : Nat} {st : Sp} {gw cw gp cp : Nat} {vb : Value} (h : DmpIs w base n (Z6 n st) gw cw gp cp vb) (hB : B ≤ base) :
  OwnF B w 0 (.slice (some ⟨gw, 0, none⟩) (64 * n) cw) (nD n st 0) (fD n st 0) ∧ OwnF B w 1 (.slice (some ⟨gp, 0, none⟩) n cp) (nD n st 1) (fD n st 1) ∧ OwnF B w 2 vb (nD n st 2) (fD n st 2) := by
 obtain ⟨d1, d2, d3, _⟩ := h; refine ⟨⟨_, z3d d1 hB, fun j i hj hi => ?_⟩, ?_, ⟨_, z3d d3 hB, fun j i hj hi => j6q _ j i hj hi⟩⟩
 ·have hi1 : i < 1 := hi; have : i = 0 := by omega
  subst this; have hj2 : j < 64 * n := hj
  show _ = some (Value.int .i64 (fW st j 0))
  rw [show j * szK 0 + 0 = j from by unfold szK; simp]; simp [hj2, fW, Z6]
 ·have d2' : w.ownsRow base 147 3 (.slice (some ⟨gp, 0, none⟩) n cp) n (pgs (pgl st.S n)) := by
   have := d2; unfold ListIs at this; rw [z1b] at this; exact this
  refine ⟨_, z3d d2' hB, fun j i hj hi => ?_⟩; have hj2 : j < n := hj; have hi2 : i < 3 := hi
  show (pgs (pgl st.S n))[j * 3 + i]? = some (Value.int .i64 (fP st j i))
  rw [z3z st.S n (by omega)]; rfl
def KS (B : Nat) (w : World) (b : Nat) (v0 v1 : Value) (col : Nat → Nat) (z : Bool) (c : Nat) : Prop :=
 ∃ V X C p N0 N2 F0 F1 F2, Kp B w b V X C col none p ∧ x0v X N0 N2 F0 F1 F2 ∧ (N0 + N2 ≤ 32 ∧ F0 ≤ 8 * c ∧ F1 ≤ 8 * c ∧ F2 ≤ 8 * c) ∧ (V 0 = v0 ∧ V 1 = v1) ∧ (z = true → p = fun _ => 0)
theorem KS.chg {B : Nat} {w w' : World} {b : Nat} {v0 v1 : Value} {col : Nat → Nat} {z : Bool} {c : Nat} {P : Nat → Prop} (h : KS B w b v0 v1 col z c) (o : Chg col P w w') (hP : ∀ c, P c → c = 7 ∨ c = 9) : KS B w' b v0 v1 col z c := by
 obtain ⟨V, X, C, p, N0, N2, F0, F1, F2, h1, h2⟩ := h; exact ⟨V, X, C, p, N0, N2, F0, F1, F2, h1.chg o fun c hc => by rcases hP c hc with e | e; exact .inl e; exact .inr (.inl e), h2⟩
theorem KS.quiet {B : Nat} {w w' : World} {b : Nat} {v0 v1 : Value} {col : Nat → Nat} {z : Bool} {c : Nat} (h : KS B w b v0 v1 col z c) (o : Out 0 0 w w') : KS B w' b v0 v1 col z c := h.chg (P := fun c => c = 9) (Chg.of_out o _ _) (fun _ h => .inr h)
theorem KS.recol {B : Nat} {w : World} {b : Nat} {v0 v1 : Value} {col col' : Nat → Nat} {z : Bool} {c : Nat} (h : KS B w b v0 v1 col z c) (e : ∀ x, x < w.heap.size → col' x = col x) : KS B w b v0 v1 col' z c := by
 obtain ⟨V, X, C, p, N0, N2, F0, F1, F2, h1, h2⟩ := h; exact ⟨V, X, C, p, N0, N2, F0, F1, F2, h1.recol fun x hx _ => e x hx, h2⟩
theorem KS.cells {B : Nat} {w : World} {b : Nat} {v0 v1 : Value} {col : Nat → Nat} {z : Bool} {c : Nat} (h : KS B w b v0 v1 col z c) : w.cell? ⟨b, 0, none⟩ = some v0 ∧ w.cell? ⟨b, 1, none⟩ = some v1 := by
 obtain ⟨V, X, C, p, N0, N2, F0, F1, F2, h1, h2, h3, ⟨rfl, rfl⟩, h5⟩ := h; exact ⟨h1.cell 0 (by omega), h1.cell 1 (by omega)⟩
theorem KS.mono {B : Nat} {w : World} {b : Nat} {v0 v1 : Value} {col : Nat → Nat} {z : Bool} {c c' : Nat} (h : KS B w b v0 v1 col z c) (hc : c ≤ c') : KS B w b v0 v1 col z c' := by
 obtain ⟨V, X, C, p, N0, N2, F0, F1, F2, h1, h2, h3, h4⟩ := h; exact ⟨V, X, C, p, N0, N2, F0, F1, F2, h1, h2, by omega, h4⟩
theorem q7c {B b n c : Nat} {st : Sp} {v0 v1 : Value} {col : Nat → Nat} {z : Bool} {w0 w1 w : World} {gw cw gp cp gw' cw' gp' cp' : Nat} {vb vb' : Value} {h0 h1 h2 h3 h4 h5 h6 h7 sr : Int} (h : KS B w0 b v0 v1 col z c) (hc : c ≤ 900) (o1 : Out 0 0 w0 w1) (o2 : Out 0 0 w1 w)
  (d1 : DmpIs w1 w0.heap.size n (Z6 n st) gw cw gp cp vb) (d2 : DmpIs w w1.heap.size n (Z6 n st) gw' cw' gp' cp' vb') (hn : n ≤ 24) (q : Bool) :
  Calls Tryz.prog 42 #[.pointer (some ⟨b, 2, none⟩), .agg #[.slice (some ⟨gw, 0, none⟩) (64 * n) cw, .slice (some ⟨gp, 0, none⟩) n cp, vb, .int .i64 h0, .int .i64 h1, .int .i64 h2, .int .i64 h3, .int .i64 h4, .int .i64 h5, .int .i64 h6, .int .i64 h7, .int .i64 sr], .agg #[.slice (some ⟨gw', 0, none⟩) (64 * n) cw', .slice (some ⟨gp', 0, none⟩) n cp', vb', .int .i64 h0, .int .i64 h1, .int .i64 h2, .int .i64 h3, .int .i64 h4, .int .i64 h5, .int .i64 h6, .int .i64 h7, .int .i64 sr], .bool q] w fun e w' => e = .returned (.bool true) ∧ ∃ col', KS B w' b v0 v1 col' z (c + 1) ∧ Fix col col' w0 w' := by
 obtain ⟨V, X, C, p, N0, N2, F0, F1, F2, k1, k2, k3, k4, k5⟩ := h; have hBB := k1.hB; have s1 := o1.size; have s2 := o2.size; have d1' := d1.kept o2 (Nat.zero_le _); obtain ⟨A0, A1, A2⟩ := q9h d1' hBB; obtain ⟨B0, B1, B2⟩ := q9h d2 (B := B) (by omega); obtain ⟨b1, b2⟩ := Z8 d1.1 gw rfl; obtain ⟨b3, b4⟩ := Z8 d1.2.1 gp rfl; have b5 := fun g hg => Z8 d1.2.2.1 g hg
 obtain ⟨b6, b7⟩ := Z8 d2.1 gw' rfl; obtain ⟨b8, b9⟩ := Z8 d2.2.1 gp' rfl; have b10 := fun g hg => Z8 d2.2.2.1 g hg
 have l1 := d1.2.2.2.1; have l2 := d1.2.2.2.2; have l3 := d2.2.2.2.1; have l4 := d2.2.2.2.2; have oo : Out 0 0 w0 w := o1.trans o2; obtain ⟨dW, hdW⟩ : ∃ v, Value.slice (some ⟨gw, 0, none⟩) (64 * n) cw = v := ⟨_, rfl⟩
 obtain ⟨dP, hdP⟩ : ∃ v, Value.slice (some ⟨gp, 0, none⟩) n cp = v := ⟨_, rfl⟩
 obtain ⟨eW, heW⟩ : ∃ v, Value.slice (some ⟨gw', 0, none⟩) (64 * n) cw' = v := ⟨_, rfl⟩
 obtain ⟨eP, heP⟩ : ∃ v, Value.slice (some ⟨gp', 0, none⟩) n cp' = v := ⟨_, rfl⟩
 have ob1 : dW.ownBlock = some gw := by rw [← hdW]; rfl
 have ob2 : dP.ownBlock = some gp := by rw [← hdP]; rfl
 have ob3 : eW.ownBlock = some gw' := by rw [← heW]; rfl
 have ob4 : eP.ownBlock = some gp' := by rw [← heP]; rfl
 rw [hdW] at A0 ⊢; rw [hdP] at A1 ⊢; rw [heW] at B0 ⊢; rw [heP] at B1 ⊢; have hx : ∀ t, t < 3 → OwnF B w t (x6 dW eW dP eP vb vb' (2 + 2 * t)) (nD n st t) (fD n st t) ∧ OwnF B w t (x6 dW eW dP eP vb vb' (3 + 2 * t)) (nD n st t) (fD n st t) := fun t ht => by
  have ht2 : t = 0 ∨ t = 1 ∨ t = 2 := by omega
  rcases ht2 with rfl | rfl | rfl
  ·exact ⟨A0, B0⟩
  ·exact ⟨A1, B1⟩
  ·exact ⟨A2, B2⟩
 obtain ⟨⟨q2, q3, q4, q5, q6, q7⟩, q8, q9, q10⟩ := id k2; by_cases hm : 30 < N0 + N2
 ·have r := q8f (x := x6 dW eW dP eP vb vb') (n := nD n st) (f := fD n st) (h0 := h0) (h1 := h1) (h2 := h2) (h3 := h3) (h4 := h4) (h5 := h5) (h6 := h6) (h7 := h7) (sr := sr) (q := q) (k1.quiet oo) (fun t ht => ⟨(hx t ht).1.el, j8h hn st t, (hx t ht).2.el⟩) ⟨q2, q6⟩ (by omega) hm; refine Calls.mono r ?_; rintro e w' ⟨rfl, ho⟩; exact ⟨rfl, col, ⟨V, X, C, p, N0, N2, F0, F1, F2, (k1.quiet oo).quiet ho, k2, by omega, k4, k5⟩, ((Fix.refl col w0).out oo).out ho⟩
 ·have hfew : N0 + N2 ≤ 30 := by omega
  cases q with
  | false =>
   obtain ⟨colN, hcN⟩ : ∃ cN : Nat → Nat, cN = fun y => if y = gw ∨ y = gp ∨ vb.ownBlock = some y then 9 else col y := ⟨_, rfl⟩
   have hag : ∀ y, y < w0.heap.size → colN y = col y := fun y hy => by
    rw [hcN]
    show (if y = gw ∨ y = gp ∨ vb.ownBlock = some y then 9 else col y) = col y
    rw [if_neg (fun e => by rcases e with e | e | e; omega; omega; have := (b5 y e).1; omega)]
   have kk : Kp B w b V X C colN none p := (k1.recol fun y hy _ => hag y hy).quiet oo; have hdin : DIn B w colN (x6 dW eW dP eP vb vb') (nD n st) (fD n st) := by
    refine ⟨fun t ht => ⟨(hx t ht).1, j8h hn st t, (hx t ht).2.el, ?_⟩, ?_⟩
    ·have ht2 : t = 0 ∨ t = 1 ∨ t = 2 := by omega
     rw [hcN]; rcases ht2 with rfl | rfl | rfl
     ·intro g hg; have hg2 : dW.ownBlock = some g := hg; rw [ob1] at hg2; cases hg2; exact if_pos (.inl rfl)
     ·intro g hg; have hg2 : dP.ownBlock = some g := hg; rw [ob2] at hg2; cases hg2; exact if_pos (.inr (.inl rfl))
     ·intro g hg; exact if_pos (.inr (.inr hg))
    ·intro t s g ht hs hne hg1 hg2; have ht2 : t = 0 ∨ t = 1 ∨ t = 2 := by omega
     have hs2 : s = 0 ∨ s = 1 ∨ s = 2 := by omega
     have e0 : ∀ t, t = 0 → (x6 dW eW dP eP vb vb' (2 + 2 * t)).ownBlock = some g → g = gw := fun t ht hg => by
      subst ht; have hg2 : dW.ownBlock = some g := hg; rw [ob1] at hg2; cases hg2; rfl
     have e1 : ∀ t, t = 1 → (x6 dW eW dP eP vb vb' (2 + 2 * t)).ownBlock = some g → g = gp := fun t ht hg => by
      subst ht; have hg2 : dP.ownBlock = some g := hg; rw [ob2] at hg2; cases hg2; rfl
     have e2 : ∀ t, t = 2 → (x6 dW eW dP eP vb vb' (2 + 2 * t)).ownBlock = some g → gp < g := fun t ht hg => by
      subst ht; exact l2 g hg
     rcases ht2 with a | a | a <;> rcases hs2 with c | c | c <;> (first | omega | skip)
     ·have := e0 t a hg1; have := e1 s c hg2; omega
     ·have := e0 t a hg1; have := e2 s c hg2; omega
     ·have := e1 t a hg1; have := e0 s c hg2; omega
     ·have := e1 t a hg1; have := e2 s c hg2; omega
     ·have := e2 t a hg1; have := e0 s c hg2; omega
     ·have := e2 t a hg1; have := e1 s c hg2; omega
   have r := q8r (x := x6 dW eW dP eP vb vb') (n := nD n st) (f := fD n st) (h0 := h0) (h1 := h1) (h2 := h2) (h3 := h3) (h4 := h4) (h5 := h5) (h6 := h6) (h7 := h7) (sr := sr) kk hdin k2 (by omega) hfew; refine Calls.mono r ?_; rintro e w' ⟨rfl, V', X', col', r1, r2, r3, r4⟩; refine ⟨rfl, col', ⟨V', X', C, p, N0, N2, _, _, _, r1, r2, by omega, by rw [(r3 0 (by omega)).1, (r3 1 (by omega)).1]; exact k4, k5⟩, ?_⟩; exact ((((Fix.refl col w0).re (c2 := colN) fun k hk h7 => by rw [hag k hk]; exact h7).out oo)).trans r4
  | true =>
   obtain ⟨M, hMd⟩ : ∃ M : Nat → Nat, M = fun t => if t = 2 then N2 else N0 := ⟨_, rfl⟩
   have M0 : M 0 = N0 ∧ M 1 = N0 ∧ M 2 = N2 := by rw [hMd]; exact ⟨rfl, rfl, rfl⟩
   have hMl : ∀ t, t < 3 → (X (2 + 2 * t)).length = M t ∧ (X (3 + 2 * t)).length = M t := fun t ht => by
    have ht2 : t = 0 ∨ t = 1 ∨ t = 2 := by omega
    rcases ht2 with rfl | rfl | rfl
    ·rw [M0.1]; exact ⟨q2, q3⟩
    ·rw [M0.2.1]; exact ⟨q4, q5⟩
    ·rw [M0.2.2]; exact ⟨q6, q7⟩
   obtain ⟨C', hC'⟩ : ∃ C' : Nat → Nat → Nat × (Nat → Nat → Int), C' = fun t i => if i = M t then (nD n st t, fD n st t) else C t i := ⟨_, rfl⟩
   have hCM : ∀ t, C' t (M t) = (nD n st t, fD n st t) := fun t => by rw [hC']; exact if_pos rfl
   obtain ⟨colN, hcN⟩ : ∃ cN : Nat → Nat, cN = fun y => if y = gw then 100 + 3 * N0 + 0 else if y = gp then 100 + 3 * N0 + 1 else if vb.ownBlock = some y then 100 + 3 * N2 + 2 else if w1.heap.size ≤ y then 6 else col y := ⟨_, rfl⟩
   have hag : ∀ y, y < w0.heap.size → colN y = col y := fun y hy => by
    rw [hcN]
    show (if y = gw then _ else if y = gp then _ else if vb.ownBlock = some y then _ else if w1.heap.size ≤ y then 6 else col y) = col y
    rw [if_neg (by omega), if_neg (by omega), if_neg (fun e => by have := (b5 y e).1; omega), if_neg (by omega)]
   have kk : Kp B w b V X C' colN none p := ((k1.setC (C' := C') fun t i ht hi => by
    rw [hC']; exact if_neg (by have := hMl t ht; omega)).recol fun y hy _ => hag y hy).quiet oo
   have c6 : ∀ y, w1.heap.size ≤ y → colN y = 6 := fun y hy => by
    rw [hcN]
    show (if y = gw then _ else if y = gp then _ else if vb.ownBlock = some y then _ else if w1.heap.size ≤ y then 6 else col y) = 6
    rw [if_neg (by omega), if_neg (by omega), if_neg (fun e => by have := (b5 y e).2; omega), if_pos hy]
   have were : ∀ t v, OwnF B w t v (nD n st t) (fD n st t) → (∀ g, v.ownBlock = some g → w1.heap.size ≤ g) → WereC w colN v (nD n st t) (szK t) (fD n st t) := fun t v hv hg => by
    obtain ⟨a, cap, rfl⟩ := hv.shape; refine ⟨a, cap, rfl, fun h0 => ?_⟩; obtain ⟨g, cap', e, e2, e3, _, e4⟩ := hv.open h0; cases e; exact ⟨g, rfl, e3, c6 g (hg g rfl), e4⟩
   have hl : ∀ t, t < 3 → LeftC B w colN t (M t) (x6 dW eW dP eP vb vb' (2 + 2 * t)) (C' t (M t)).1 (C' t (M t)).2 ∧ WereC w colN (x6 dW eW dP eP vb vb' (3 + 2 * t)) (C' t (M t)).1 (szK t) (C' t (M t)).2 := fun t ht => by
    rw [hCM t]; refine ⟨⟨(hx t ht).1, j8h hn st t, ?_⟩, were t _ (hx t ht).2 ?_⟩
    ·have ht2 : t = 0 ∨ t = 1 ∨ t = 2 := by omega
     rcases ht2 with rfl | rfl | rfl
     ·intro g hg; have hg2 : dW.ownBlock = some g := hg; rw [ob1] at hg2; cases hg2; rw [hcN, M0.1]; exact if_pos rfl
     ·intro g hg; have hg2 : dP.ownBlock = some g := hg; rw [ob2] at hg2; cases hg2; rw [hcN, M0.2.1]
      show (if gp = gw then _ else if gp = gp then _ else _) = 100 + 3 * N0 + 1
      rw [if_neg (by omega), if_pos rfl]
     ·intro g hg; have hg2 : vb.ownBlock = some g := hg; have := l2 g hg2; rw [hcN, M0.2.2]
      show (if g = gw then _ else if g = gp then _ else if vb.ownBlock = some g then _ else _) = 100 + 3 * N2 + 2
      rw [if_neg (by omega), if_neg (by omega), if_pos hg2]
    ·have ht2 : t = 0 ∨ t = 1 ∨ t = 2 := by omega
     rcases ht2 with rfl | rfl | rfl
     ·intro g hg; have hg2 : eW.ownBlock = some g := hg; rw [ob3] at hg2; cases hg2; exact b6
     ·intro g hg; have hg2 : eP.ownBlock = some g := hg; rw [ob4] at hg2; cases hg2; exact b8
     ·intro g hg; exact (b10 g hg).1
   have r := q8n (x := x6 dW eW dP eP vb vb') (h0 := h0) (h1 := h1) (h2 := h2) (h3 := h3) (h4 := h4) (h5 := h5) (h6 := h6) (h7 := h7) (sr := sr) kk hl hMl M0 hfew; refine Calls.mono r ?_; rintro e w' ⟨rfl, V', X', col', r1, r2, r3, r4⟩; refine ⟨rfl, col', ⟨V', X', C', p, N0 + 1, N2 + 1, F0, F1, F2, r1, ⟨⟨?_, ?_, ?_, ?_, ?_, ?_⟩, ?_, ?_, ?_⟩, by omega, by rw [(r3 0 (by omega)).1, (r3 1 (by omega)).1]; exact k4, k5⟩, ?_⟩
   ·rw [r2 2 (by omega) (by omega), q2]
   ·rw [r2 3 (by omega) (by omega), q3]
   ·rw [r2 4 (by omega) (by omega), q4]
   ·rw [r2 5 (by omega) (by omega), q5]
   ·rw [r2 6 (by omega) (by omega), q6]
   ·rw [r2 7 (by omega) (by omega), q7]
   ·rw [(r3 8 (by omega)).2, (r3 11 (by omega)).2]; exact q8
   ·rw [(r3 9 (by omega)).2, (r3 12 (by omega)).2]; exact q9
   ·rw [(r3 10 (by omega)).2, (r3 13 (by omega)).2]; exact q10
   ·exact ((((Fix.refl col w0).re (c2 := colN) fun k hk h7 => by rw [hag k hk]; exact h7).out oo)).trans r4
end Go.Proofs.YtjbbkeoolodeaabGreatDoor
