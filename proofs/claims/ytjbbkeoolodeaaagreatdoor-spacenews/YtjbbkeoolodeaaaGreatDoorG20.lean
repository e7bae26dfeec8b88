import Derived.Test.YtjbbkeoolodeaaaGreatDoorG19
import Derived.Test.YtjbbkeoolodeaaaGreatDoorG15
import Derived.Test.YtjbbkeoolodeaaaGreatDoorG16
namespace Go.Proofs.YtjbbkeoolodeaaaGreatDoor
open Go.RowKit
set_option linter.unusedVariables false
set_option linter.unusedSimpArgs false

/-- the plan's table is the space's, or a copy of its own: T -/
def TbAt (w : World) (B G n : Nat) (S T : Nat → Int × Int × Int) (tb : Value) : Prop :=
  (tb = .pointer none ∧ T = S) ∨ ∃ b bw, tb = .pointer (some ⟨b, 0, none⟩) ∧ TblAt 126 w b bw n T ∧ B ≤ b ∧ B ≤ bw ∧ b ≠ G ∧ bw ≠ G
end Go.Proofs.YtjbbkeoolodeaaaGreatDoor
namespace Go.Proofs.YtjbbkeoolodeaaaGreatDoor
open Go.RowKit
set_option linter.unusedVariables false
set_option linter.unusedSimpArgs false

section
variable {w : World} {lo hi n cap : Nat} {s : Nat → Nat} {r : Raw} {B G : Nat} {T : Nat → Int × Int × Int} {tb : Value} {fr fs : Nat → Int}
theorem TbAt.quiet {w w' : World} {B G n : Nat} {S T : Nat → Int × Int × Int} {tb : Value} (h : TbAt w B G n S T tb) (o : Out 0 0 w w') : TbAt w' B G n S T tb := by
  rcases h with h | ⟨b, bw, h1, h2, h3⟩
  · exact .inl h
  · exact .inr ⟨b, bw, h1, h2.kept o (.inr (Nat.zero_le _)) (.inr (Nat.zero_le _)), h3⟩
end
end Go.Proofs.YtjbbkeoolodeaaaGreatDoor
namespace Go.Proofs.YtjbbkeoolodeaaaGreatDoor
open Go.RowKit
set_option linter.unusedVariables false
set_option linter.unusedSimpArgs false

theorem TbAt.kept {w w' : World} {B G n : Nat} {S T : Nat → Int × Int × Int} {tb : Value} (h : TbAt w B G n S T tb) (o : Out G (G + 1) w w') : TbAt w' B G n S T tb := by
  rcases h with h | ⟨b, bw, h1, h2, h3, h4, h5, h6⟩
  · exact .inl h
  · exact .inr ⟨b, bw, h1, h2.kept o (by omega) (by omega), h3, h4, h5, h6⟩
section
variable {w : World} {lo hi n cap : Nat} {s : Nat → Nat} {r : Raw} {B G : Nat} {T : Nat → Int × Int × Int} {tb : Value} {fr fs : Nat → Int}
theorem of_lt (z : Int) (hp : ¬ 0 < pagesV z) (h : 0 ≤ ofV z) : ∃ c : Nat, ofV z = (c : Int) ∧ c < 8 := by
  have hz : z ≤ 32 ∨ 1024 < z := by
    by_cases hh : 32 < z ∧ z ≤ 1024
    · unfold pagesV at hp; rw [if_pos hh] at hp; omega
    · omega
  have : ofV z ≤ 7 := by
    unfold ofV
    repeat' split
    all_goals omega
  exact ⟨(ofV z).toNat, by omega, by omega⟩
end
end Go.Proofs.YtjbbkeoolodeaaaGreatDoor
namespace Go.Proofs.YtjbbkeoolodeaaaGreatDoor
open Go.RowKit
set_option linter.unusedVariables false
set_option linter.unusedSimpArgs false

end Go.Proofs.YtjbbkeoolodeaaaGreatDoor
namespace Go.Proofs.YtjbbkeoolodeaaaGreatDoor
open Go.RowKit
set_option linter.unusedVariables false
set_option linter.unusedSimpArgs false

theorem told_of {n : Nat} (st : Sp) : Told (rawOf n st) := by
  intro a ha
  have h : ob n st a = true := ha
  unfold ob at h
  rw [Bool.and_eq_true] at h
  refine ⟨st.O a, ?_⟩
  show obM st (a : Int) = _
  unfold obM
  rw [show ((a : Int)).toNat = a from by omega, if_pos ⟨by omega, h.2⟩]
theorem obM_of {n : Nat} {st : Sp} {a : Nat} {b : Blk} (h : (rawOf n st).M (a : Int) = some b) : b = st.O a ∧ hasB (st.O a) = true := by
  have h' : obM st (a : Int) = some b := h
  unfold obM at h'
  rw [show ((a : Int)).toNat = a from by omega] at h'
  by_cases e : (0 : Int) ≤ (a : Int) ∧ hasB (st.O a) = true
  · rw [if_pos e] at h'; cases h'; exact ⟨rfl, e.2⟩
  · rw [if_neg e] at h'; cases h'
theorem mult_gap {a b x : Nat} (hx : 0 < x) (ha : a % x = 0) (hb : b % x = 0) (h : a < b) : a + x ≤ b := by
  obtain ⟨p, rfl⟩ := Nat.dvd_of_mod_eq_zero ha
  obtain ⟨q, rfl⟩ := Nat.dvd_of_mod_eq_zero hb
  have : p < q := Nat.lt_of_mul_lt_mul_left h
  calc x * p + x = x * (p + 1) := by rw [Nat.mul_succ]
    _ ≤ x * q := Nat.mul_le_mul_left _ this
theorem rooms_of {n : Nat} {st : Sp} (hI : Inv n st) : Rooms n (rawOf n st) := by
  intro a b ha hb
  obtain ⟨rfl, hh⟩ := obM_of hb
  obtain ⟨h1, h2, h3⟩ := hI.objs a hh
  obtain ⟨_, _, h4, h5⟩ := fits_size h2
  obtain ⟨k, z, x, t, hO⟩ : ∃ k z x t, st.O a = (k, z, x, t) := ⟨_, _, _, _, rfl⟩
  rw [hO] at h2 h3 h4 h5 ⊢
  dsimp only at h2 h3 h4 h5 ⊢
  refine ⟨h4, h5, ?_⟩
  have hother : ∀ a', (rawOf n st).P a' = true → ObOk n st.S a' (st.O a') := fun a' h' => by
    have : ob n st a' = true := h'
    unfold ob at this
    rw [Bool.and_eq_true] at this
    exact hI.objs a' this.2
  rcases h3 with ⟨s1, s2, s3⟩ | ⟨s1, s2, s3⟩
  · obtain ⟨c, hc, hc8⟩ := of_lt z (by unfold pagesV; rw [if_neg (by omega)]; omega) (by unfold ofV; repeat' split; all_goals omega)
    obtain ⟨w', y', e1, e2, e3, e4⟩ := class_nums hc8
    have hw : roomN z = w' := by unfold roomN; rw [if_neg (by omega), hc, e2]
    rw [hw]
    rw [hc] at s2 s3
    unfold startB at s3
    rw [Bool.and_eq_true, e2] at s3
    have s4 : a % 64 % w' = 0 := by simpa using s3.1
    have s5 : a % 64 + w' ≤ 64 := by simpa using s3.2
    refine ⟨by omega, fun a' h6 h7 => ?_⟩
    by_cases hpg : a' / 64 = a / 64
    · obtain ⟨o1, o2, o3⟩ := hother a' h7
      rcases o3 with ⟨o4, o5, o6⟩ | ⟨o4, o5, o6⟩
      · rw [hpg, s2] at o5
        have oc : ofV (st.O a').2.1 = (c : Int) := by simp at o5; omega
        rw [oc] at o6
        unfold startB at o6
        rw [Bool.and_eq_true, e2] at o6
        have o7 : a' % 64 % w' = 0 := by simpa using o6.1
        have := mult_gap (a := a % 64) (b := a' % 64) (x := w') (by omega) s4 o7 (by omega)
        omega
      · rw [hpg, s2] at o6; simp at o6
    · omega
  · have hw : roomN z = ((z + 63) / 64).toNat * 64 := by unfold roomN; rw [if_pos s1]
    obtain ⟨m, hm⟩ : ∃ m : Nat, (z + 63) / 64 = (m : Int) := ⟨((z + 63) / 64).toNat, by omega⟩
    rw [hm] at s3 hw
    rw [hw, show ((m : Int)).toNat = m from by omega]
    rcases hI.good (a / 64) (by omega) with e | ⟨c, _, _, e⟩ | ⟨q, q1, q2, q3, e, q4⟩ | ⟨e, _⟩
    · rw [s3] at e; simp at e
    · rw [s3] at e; simp at e
    · rw [s3] at e
      have : m = q := by simp at e; omega
      subst this
      refine ⟨by omega, fun a' h6 h7 => ?_⟩
      by_cases hpg : a / 64 < a' / 64 ∧ a' / 64 < a / 64 + m
      · have e3 := q4 (a' / 64) hpg.1 hpg.2
        obtain ⟨o1, o2, o3⟩ := hother a' h7
        rcases o3 with ⟨o4, o5, o6⟩ | ⟨o4, o5, o6⟩
        · rw [e3] at o5; simp at o5
        · rw [e3] at o6; simp at o6
      · by_cases hsame : a' / 64 = a / 64
        · obtain ⟨o1, o2, o3⟩ := hother a' h7
          rcases o3 with ⟨o4, o5, o6⟩ | ⟨o4, o5, o6⟩
          · rw [hsame, s3] at o5; simp at o5
          · omega
        · omega
    · rw [s3] at e; simp at e
end Go.Proofs.YtjbbkeoolodeaaaGreatDoor
namespace Go.Proofs.YtjbbkeoolodeaaaGreatDoor
open Go.RowKit
set_option linter.unusedVariables false
set_option linter.unusedSimpArgs false

end Go.Proofs.YtjbbkeoolodeaaaGreatDoor
namespace Go.Proofs.YtjbbkeoolodeaaaGreatDoor
open Go.RowKit
set_option linter.unusedVariables false
set_option linter.unusedSimpArgs false

end Go.Proofs.YtjbbkeoolodeaaaGreatDoor
namespace Go.Proofs.YtjbbkeoolodeaaaGreatDoor
open Go.RowKit
set_option linter.unusedVariables false
set_option linter.unusedSimpArgs false

end Go.Proofs.YtjbbkeoolodeaaaGreatDoor
namespace Go.Proofs.YtjbbkeoolodeaaaGreatDoor
open Go.RowKit
set_option linter.unusedVariables false
set_option linter.unusedSimpArgs false

end Go.Proofs.YtjbbkeoolodeaaaGreatDoor
namespace Go.Proofs.YtjbbkeoolodeaaaGreatDoor
open Go.RowKit
set_option linter.unusedVariables false
set_option linter.unusedSimpArgs false

end Go.Proofs.YtjbbkeoolodeaaaGreatDoor
namespace Go.Proofs.YtjbbkeoolodeaaaGreatDoor
open Go.RowKit
set_option linter.unusedVariables false
set_option linter.unusedSimpArgs false

end Go.Proofs.YtjbbkeoolodeaaaGreatDoor
namespace Go.Proofs.YtjbbkeoolodeaaaGreatDoor
open Go.RowKit
set_option linter.unusedVariables false
set_option linter.unusedSimpArgs false

end Go.Proofs.YtjbbkeoolodeaaaGreatDoor
namespace Go.Proofs.YtjbbkeoolodeaaaGreatDoor
open Go.RowKit
set_option linter.unusedVariables false
set_option linter.unusedSimpArgs false

end Go.Proofs.YtjbbkeoolodeaaaGreatDoor
namespace Go.Proofs.YtjbbkeoolodeaaaGreatDoor
open Go.RowKit
set_option linter.unusedVariables false
set_option linter.unusedSimpArgs false

theorem nxr_congr {P Q : Nat → Bool} {n k : Nat} (h : ∀ j, k ≤ j → j < n → P j = Q j) : nxr P n k = nxr Q n k := by
  unfold nxr
  rw [nx_congr h]
end Go.Proofs.YtjbbkeoolodeaaaGreatDoor
namespace Go.Proofs.YtjbbkeoolodeaaaGreatDoor
open Go.RowKit
set_option linter.unusedVariables false
set_option linter.unusedSimpArgs false

/-- a space without an object -/
def Bare (n : Nat) (st : Sp) : Prop := (∀ p, p < n → st.S p = (0, 0, 0)) ∧ ∀ a, hasB (st.O a) = false
end Go.Proofs.YtjbbkeoolodeaaaGreatDoor
namespace Go.Proofs.YtjbbkeoolodeaaaGreatDoor
open Go.RowKit
set_option linter.unusedVariables false
set_option linter.unusedSimpArgs false

theorem used_bare {n : Nat} {st : Sp} (h : Bare n st) (p : Nat) : usedTo (rawOf n st) p = 0 :=
  used_to (p := 0) (Nat.zero_le _) fun j _ _ => by show ob n st j = false; unfold ob; rw [h.2 j]; simp
theorem bare_new (n : Nat) : Bare n newSp := ⟨fun _ _ => rfl, fun _ => rfl⟩
theorem order_zero : FloatKind.f64.format.order 0 0 = some .eq := by decide +kernel
end Go.Proofs.YtjbbkeoolodeaaaGreatDoor
namespace Go.Proofs.YtjbbkeoolodeaaaGreatDoor
open Go.RowKit
set_option linter.unusedVariables false
set_option linter.unusedSimpArgs false

end Go.Proofs.YtjbbkeoolodeaaaGreatDoor
namespace Go.Proofs.YtjbbkeoolodeaaaGreatDoor
open Go.RowKit
set_option linter.unusedVariables false
set_option linter.unusedSimpArgs false

end Go.Proofs.YtjbbkeoolodeaaaGreatDoor
namespace Go.Proofs.YtjbbkeoolodeaaaGreatDoor
open Go.RowKit
set_option linter.unusedVariables false
set_option linter.unusedSimpArgs false

/-- a space of one page, two pairs in it -/
theorem alive_1 : (alF 1 newSp 1 3 0).1 = 0 ∧ (alF 1 newSp 1 3 0).2.1 = 0 ∧ (alF 1 newSp 1 3 0).2.2.1 = 0 := by decide +kernel
theorem alive_2 : (alF 1 (alF 1 newSp 1 3 0).2.2.2 1 3 0).1 = 4 ∧ (alF 1 (alF 1 newSp 1 3 0).2.2.2 1 3 0).2.1 = 0 ∧ (alF 1 (alF 1 newSp 1 3 0).2.2.2 1 3 0).2.2.1 = 0 := by decide +kernel
theorem alive_3 : peekV 1 (alF 1 (alF 1 newSp 1 3 0).2.2.2 1 3 0).2.2.2.W 8 = 100 := by decide +kernel
theorem alive_sp : ∃ st1 st2, alF 1 newSp 1 3 0 = (0, 0, 0, st1) ∧ alF 1 st1 1 3 0 = (4, 0, 0, st2) ∧ peekV 1 st2.W 8 = 100 := by
  obtain ⟨a1, a2, a3⟩ := alive_1
  obtain ⟨b1, b2, b3⟩ := alive_2
  exact ⟨_, _, Prod.ext a1 (Prod.ext a2 (Prod.ext a3 rfl)), Prod.ext b1 (Prod.ext b2 (Prod.ext b3 rfl)), alive_3⟩
/-- Alloc, by what it gives -/
theorem alloc_is {w : World} {lo hi n cap : Nat} {s : Nat → Nat} {st st' : Sp} (h : SpAt w lo hi s n cap st) {k z t v e1 e2 : Int} (z1 : -9223372036854775808 ≤ z) (z2 : z ≤ 9223372036854775807) (hl : st.last < 4611686018427387904) (ha : alF n st k z t = (v, e1, e2, st')) :
    Calls Tryz.prog 17 #[.pointer (some ⟨s 14, 0, none⟩), .int .i64 k, .int .i64 z, .int .i64 t] w fun e w' => e = .returned (.tuple #[.int .i64 v, .agg #[.int .i64 e1, .int .i64 e2]]) ∧ SpAt w' lo hi s n cap st' ∧ Out lo hi w w' := by
  have := alloc_any h k z t z1 z2 hl
  rw [ha] at this
  exact this
set_option maxRecDepth 100000 in
set_option maxHeartbeats 4000000 in
theorem alive_any {w : World} (hT : Tab w) : Calls Tryz.prog 10 #[] w fun e w' => e = .returned (.bool true) ∧ Out 0 0 w w' := by
  obtain ⟨st1, st2, h1, h2, h3⟩ := alive_sp
  have HN := hid_mk (spNew_any hT 1 (Nat.le_refl 1) (by omega))
  rw [show ((1 : Nat) : Int) = 1 from rfl] at HN
  have H1 := hid_mk h1
  have H2 := hid_mk h2
  have H3 := hid_mk h3
  have hl1 : Hid (st1.last < 4611686018427387904) := by
    have e : (alF 1 newSp 1 3 0).2.2.2.last = 1 := by decide +kernel
    rw [h1] at e
    show st1.last < _
    have : st1.last = 1 := e
    omega
  clear hT h1 h2 h3
  go_enter Tryz.func10, Tryz.ntmps10
  go_wp2_with fail
  refine HN.out.mono ?_
  rintro e w1 ⟨s, cap, rfl, hs, ho⟩
  have HA1 := hid_mk (alloc_is hs (by decide) (by decide) (by decide) H1.out)
  have HO1 := hid_mk ho
  obtain ⟨lo, hlo⟩ : ∃ lo, w.heap.size = lo := ⟨_, rfl⟩
  obtain ⟨hi, hhi⟩ : ∃ hi, w1.heap.size = hi := ⟨_, rfl⟩
  have HLo := hid_mk (Nat.le_of_eq hlo)
  rw [hlo, hhi] at HA1
  clear HN hs ho hlo hhi
  go_wp2_with fail
  refine HA1.out.mono ?_
  rintro e w2 ⟨rfl, hs2, ho2⟩
  have HO2 := hid_mk (HO1.out.past ho2 HLo.out)
  have hA := (Out.refl 0 0 w2).alloc (.cells #[.int .i64 0, .int .i64 0] 50)
  have HA2 := hid_mk (alloc_is (hs2.quiet hA) (by decide) (by decide) hl1.out H2.out)
  have HF2 := hid_mk (heap_alloc_new w2 (.cells #[.int .i64 0, .int .i64 0] 50))
  have HZ2 : Hid (hi ≤ w2.heap.size) := hs2.1.top
  clear HA1 hs2 ho2 hA
  go_wp2_with fail
  refine HA2.out.mono ?_
  rintro e w3 ⟨rfl, hs3, ho3⟩
  have HO3 : Hid (Out 0 0 w w3) := (HO2.out.alloc _).past ho3 HLo.out
  have HF3 := hid_mk (ho3.heap HF2.out (.inr HZ2.out))
  have hA := (Out.refl 0 0 w3).alloc (.cells #[.int .i64 0, .int .i64 0] 50)
  have HP := hid_mk (peek_any (hs3.quiet hA).1 8)
  rw [show peekV 1 (rawOf 1 st2).W 8 = 100 from H3.out, show inB (64 * 1) 8 = true from by decide] at HP
  obtain ⟨q0, q1, q2, q3⟩ := flt_facts (hA.heap HF3.out (.inr (Nat.zero_le _)))
  obtain ⟨p0, p1, p2, p3⟩ := flt_facts (heap_alloc_new w3 (.cells #[.int .i64 0, .int .i64 0] 50))
  clear HA2 hs3 ho3 hA
  go_wp2_with (go_at_call 18; refine calls_same HP.out ?_)
  go_ret
  exact ⟨rfl, HO3.out.alloc _⟩
end Go.Proofs.YtjbbkeoolodeaaaGreatDoor
namespace Go.Proofs.YtjbbkeoolodeaaaGreatDoor
open Go.RowKit
attribute [local go_sem] Oper.semAt_some
set_option linter.unusedVariables false
set_option linter.unusedSimpArgs false

set_option maxRecDepth 100000 in
set_option maxHeartbeats 4000000 in
theorem sAll_yieldS {lo hi n cap g l : Nat} {s : Nat → Nat} (I : Nat → World → Prop) (J Jx : World → Prop) {w : World}
    (hm : ∀ p w, I p w → p ≤ 64 * n ∧ ∃ r, RawAt w lo hi s n cap r ∧ Told r ∧ Box w g 34 (.pointer (some ⟨s 14, 0, none⟩)))
    (hq : ∀ p w1 w2 x y, I p w1 → Out x y w1 w2 → ((w.heap.size ≤ x ∧ y ≤ w.heap.size + 4) ∨ y = 0) → I p w2)
    (hqJ : ∀ w1 w2 x y, J w1 → Out x y w1 w2 → w.heap.size ≤ x ∧ y ≤ w.heap.size + 4 → J w2) (hqX : ∀ w1 w2 x y, Jx w1 → Out x y w1 w2 → w.heap.size ≤ x ∧ y ≤ w.heap.size + 4 → Jx w2)
    (hy : ∀ p w1 r (k : Nat) b, I p w1 → RawAt w1 lo hi s n cap r → nxr r.P (64 * n) p = k → r.M (k : Int) = some b → w.heap.size + 4 ≤ w1.heap.size → YieldAt Fence.wide 0 Tryz.prog l #[blkV k b] w1 fun e w' => Sv w.heap.size 4 w1 w' ∧ ((e = .returned (.bool true) ∧ I (k + 1) w') ∨ (e = .returned (.bool false) ∧ Jx w')))
    (he : ∀ p w1 r, I p w1 → RawAt w1 lo hi s n cap r → nxr r.P (64 * n) p = -1 → J w1) (h0 : I 0 w) :
    Calls Tryz.prog 117 #[.func (.yield l) #[] #[], .pointer (some ⟨g, 0, none⟩)] w fun e w' => (∃ v, e = .returned v) ∧ (J w' ∨ Jx w') := by
  obtain ⟨_, r0, hr0, _, hb0⟩ := hm 0 w h0
  have hW0 : Out 0 0 w (w.alloc (.cells #[.func (.yield l) #[] #[]] 115)) := (Out.refl 0 0 w).alloc _
  have hr1 := hr0.quiet hW0
  have c0 := (hb0.kept hW0 (.inr (Nat.zero_le _))).cell
  obtain ⟨d0, d1, d2, d3, d4, d5⟩ := hr1.cells
  have HM := hid_mk hm
  have HQ := hid_mk hq
  have HQJ := hid_mk hqJ
  have HQX := hid_mk hqX
  have HY := hid_mk hy
  have HE := hid_mk he
  have HI := hid_mk h0
  have HG : Hid (g < w.heap.size) := hb0.lt
  have HT : Hid (hi ≤ w.heap.size ∧ 4 ≤ w.heap.size) := ⟨hr0.top, hr0.tab.lt⟩
  clear hm hq hy he h0 hb0 hr0 hr1 hqJ hqX hW0
  refine (callsIn_wide (n := 0)).1 ?_
  refine callsIn_of_wp_marks Tryz.func117 rfl trivial ?_ rfl
  simp only [Tryz.ntmps117, List.size_toArray, List.length_cons, List.length_nil, Nat.reduceAdd, Nat.reduceSub, Array.replicate_succ, Array.replicate_zero, List.push_toArray, List.append_toArray, List.nil_append, List.cons_append]
  gi_wp2_with (first
    | (refine ⟨trivial, rfl, ?_⟩; gi_at_call 44; refine (callsIn_wide.2 (self_any _ _)).mono ?_; rintro e w1 ⟨rfl, rfl⟩)
    | (refine ⟨trivial, rfl, ?_⟩; gi_at_call 118; refine (callsIn_wide.2 (ball_any _ _)).mono ?_; rintro e w1 ⟨rfl, rfl⟩))
  obtain ⟨W1, hW1⟩ : ∃ W1, (w.alloc (.cells #[.func (.yield l) #[] #[]] 115)).alloc (.cells #[.pointer (some ⟨s 8 + 1, 0, none⟩)] 80) = W1 := ⟨_, rfl⟩
  have hs1 : W1.heap.size = w.heap.size + 2 := by rw [← hW1]; simp
  have ho1 : Out 0 0 w W1 := by rw [← hW1]; exact ((Out.refl 0 0 w).alloc _).alloc _
  have hy1 : Box W1 w.heap.size 115 (.func (.yield l) #[] #[]) := by rw [← hW1]; exact two_first
  have hx1 : Box W1 (w.heap.size + 1) 80 (.pointer (some ⟨s 8 + 1, 0, none⟩)) := by rw [← hW1]; exact heap_alloc2_new _ _ _
  rw [hW1]
  clear c0 d0 d1 d2 d3 d4 d5 hW1
  have HO1 := hid_mk ho1
  have HY1 := hid_mk hy1
  have HX1 := hid_mk hx1
  have HS1 := hid_mk hs1
  clear ho1 hy1 hx1
  refine range_any (gf := 146) (lb := #[.pointer (some ⟨w.heap.size + 1, 0, none⟩)]) rfl (enters_of Tryz.func146 (by kernel_rfl) rfl) J (fun c W => c = .ret ∧ Jx W) ?H ?done ?stop
  case H =>
    intro rec hrec W2 hW2
    rw [hs1]
    have HR := hid_mk hrec
    have ho2 : Out 0 0 W1 W2 := by rw [hW2]; exact ((Out.refl 0 0 W1).alloc _).alloc _
    have hd2 : W2.heap[w.heap.size + 2]? = some (.deferred (some [])) := by rw [hW2, ← hs1]; exact two_first
    have hl2 : W2.heap[w.heap.size + 2 + 1]? = some (.loop (rec .ready none)) := by rw [hW2, ← hs1]; exact heap_alloc2_new _ _ _
    refine (bAll_yield (lo := s 8) (hi := s 8 + 2) (b := s 8 + 1) (n := 64 * n) (g := w.heap.size + 1) (l := w.heap.size + 2 + 1)
      (fun p W => I p W ∧ Box W w.heap.size 115 (.func (.yield l) #[] #[]) ∧ Box W (w.heap.size + 1) 80 (.pointer (some ⟨s 8 + 1, 0, none⟩)) ∧ W.heap[w.heap.size + 2]? = some (.deferred (some [])) ∧ W.heap[w.heap.size + 2 + 1]? = some (.loop (rec .ready none)))
      (fun W => J W ∧ W.heap[w.heap.size + 2]? = some (.deferred (some [])) ∧ W.heap[w.heap.size + 2 + 1]? = some (.loop (rec .ready none)))
      (fun W => Jx W ∧ W.heap[w.heap.size + 2]? = some (.deferred (some [])) ∧ W.heap[w.heap.size + 2 + 1]? = some (.loop (rec .done (some .ret)))) ?hm1 ?hq1 ?hy1 ?he1 (w := W2) ?hz1).mono ?_
    case hm1 =>
      rintro p W ⟨a1, a2, a3, a4, a5⟩
      obtain ⟨b1, r, b2, b3, b4⟩ := HM.out p W a1
      exact ⟨b1, r.P, b2.places, a3⟩
    case hq1 =>
      rintro p W W' ⟨a1, a2, a3, a4, a5⟩ o
      exact ⟨HQ.out p W W' 0 0 a1 o (.inr rfl), a2.kept o (.inr (Nat.zero_le _)), a3.kept o (.inr (Nat.zero_le _)), o.heap a4 (.inr (Nat.zero_le _)), o.heap a5 (.inr (Nat.zero_le _))⟩
    case hz1 => exact ⟨HQ.out 0 W1 W2 0 0 (HQ.out 0 w W1 0 0 HI.out HO1.out (.inr rfl)) ho2 (.inr rfl), HY1.out.kept ho2 (.inr (Nat.zero_le _)), HX1.out.kept ho2 (.inr (Nat.zero_le _)), hd2, hl2⟩
    case he1 =>
      rintro p W S ⟨a1, a2, a3, a4, a5⟩ hS hn
      obtain ⟨b1, r, b2, b3, b4⟩ := HM.out p W a1
      rw [hS.one b2.places] at hn
      exact ⟨HE.out p W r a1 b2 hn, a4, a5⟩
    case hy1 =>
      rintro p W S k ⟨a1, a2, a3, a4, a5⟩ hS hn
      obtain ⟨b1, r, b2, b3, b4⟩ := HM.out p W a1
      rw [hS.one b2.places] at hn
      have hk : r.P k = true := by
        rcases nxr_cases r.P (64 * n) p with ⟨e1, _⟩ | ⟨i, e1, _, _, e3, _⟩
        · omega
        · rw [show k = i from by omega]; exact e3
      obtain ⟨⟨kd, sz, se, tg⟩, hb⟩ := b3 k hk
      have HYY := hid_mk (fun W' (o : Out (w.heap.size + 2 + 1) (w.heap.size + 2 + 1 + 1) W W') => HY.out p W' r k _ (HQ.out p W W' _ _ a1 o (.inl (by omega))) (b2.kept o (.inl (by have := HT.out; omega)) (.inl (by have := HT.out; omega))) hn hb (by have := heap_lt a5; have := o.size; omega))
      have A := hid_mk (And.intro a2 (And.intro a4 b4))
      have AX := hid_mk a3
      have B2 := hid_mk b2
      have HB := hid_mk hb
      have HL5 := hid_mk a5
      have hk0 : (0 : Int) ≤ (k : Int) := by omega
      refine round_any HR.out a5 rfl ?_
      clear a1 a2 a3 a4 a5 b1 b2 b3 b4 hS hn hk hb
      gi_wp2
      refine ⟨HL5.out, ?_⟩
      intro W3 ho3 hl3
      have ho4 : Out (w.heap.size + 2 + 1) (w.heap.size + 2 + 1 + 1) W W3.drew := ho3.drew
      have B3 := B2.out.kept ho4 (.inl (by have := HT.out; omega)) (.inl (by have := HT.out; omega))
      obtain ⟨d0, d1, d2, d3, d4, d5⟩ := B3.cells
      have c0 := (A.out.1.kept ho4 (.inl (by omega))).cell
      have c1 := (A.out.2.2.kept ho4 (.inl (by have := A.out.2.2.lt; have := B2.out.top; have := HT.out; have := HG.out; omega))).cell
      have hlk := B3.look false (k : Int)
      rw [show mapM r.M (k : Int) = some (.agg #[.int .i64 (k : Int), .int .i64 kd, .int .i64 sz, .int .i64 se, .int .i64 tg]) from by unfold mapM; rw [HB.out]; rfl] at hlk
      simp only [Option.getD_some, Bool.false_eq_true, if_false] at hlk
      obtain ⟨fn, tmps, assign, body, hy, hR⟩ := HYY.out W3.drew ho4
      have HRR := hid_mk ((roundIn_wide (m := 0) hR).mono (R' := fun e W4 => ∃ bb : Bool, e = .returned (.bool bb) ∧ Sv w.heap.size 4 W3.drew W4 ∧ (bb = true → I (k + 1) W4) ∧ (bb = false → Jx W4)) (fun e W4 h => yield_said h))
      have hmx : Tryz.prog.follows .mixedOrders = true := by kernel_rfl
      have HO4 := hid_mk ho4
      have HL3 := hid_mk hl3
      unfold blkV at hy
      clear hR ho3 ho4 B3 hl3
      gi_wp2_with fail
      gi_region_with_o (first | (refine ⟨rfl, ?_⟩; refine RoundIn.mono (F := Fence.wide.inRound (w.heap.size + 2 + 1)) HRR.out ?_; rintro e W4 ⟨bb, rfl, ho5, hI4, hx4⟩))
      all_goals
        have HO5 := hid_mk (ho5)
        have HH4 := hid_mk (And.intro hI4 hx4)
        clear ho5 hI4 hx4
        cases bb
        · gi_wp2
          refine ⟨HO5.out.heap HL3.out (by omega) (by omega), ?_⟩
          intro W5 ho6 hl6
          exact .inr ⟨rfl, HQX.out _ _ _ _ (HH4.out.2 (by first | rfl | trivial)) ho6 (by omega), ho6.heap (HO5.out.heap ((HO4.out.heap A.out.2.1 (.inl (by omega)))) (by omega) (by omega)) (.inl (by omega)), hl6⟩
        · gi_wp2
          refine ⟨HO5.out.heap HL3.out (by omega) (by omega), ?_⟩
          intro W5 ho6 hl6
          exact .inl ⟨rfl, HQ.out _ _ _ _ _ (HH4.out.1 (by first | rfl | trivial)) ho6 (.inl (by omega)), (ho6.heap (HO5.out.heap (A.out.1.kept HO4.out (.inl (by omega))) (by omega) (by omega)) (.inl (by omega))), (ho6.heap (HO5.out.heap (AX.out.kept HO4.out (.inl (by omega))) (by omega) (by omega)) (.inl (by omega))), ho6.heap (HO5.out.heap ((HO4.out.heap A.out.2.1 (.inl (by omega)))) (by omega) (by omega)) (.inl (by omega)), hl6⟩
    · rintro e W ⟨hv, ⟨a1, a2, a3⟩ | ⟨a1, a2, a3⟩⟩
      · exact ⟨hv, a2, .inl ⟨a1, a3⟩⟩
      · exact ⟨hv, a2, .inr ⟨.ret, ⟨rfl, a1⟩, a3⟩⟩
  case done =>
    intro W W' hJ ho hd
    have HJ := hid_mk (HQJ.out W W' _ _ hJ ho (by omega))
    have HD := hid_mk hd
    clear hJ ho hd
    gi_wp2
    refine ⟨by simp, .inl ⟨_, _, rfl, run_takeDeferred HD.out, ?_⟩⟩
    exact ⟨_, results_none rfl _ _ _, ⟨_, rfl⟩, .inl (HQJ.out _ _ _ _ HJ.out (out_putObj _ _ _) (by omega))⟩
  case stop =>
    rintro c W W' ⟨rfl, hJ⟩ ho hd
    have HJ := hid_mk (HQX.out W W' _ _ hJ ho (by omega))
    have HD := hid_mk hd
    clear hJ ho hd
    gi_wp2
    refine ⟨by simp, .inl ⟨_, _, rfl, run_takeDeferred HD.out, ?_⟩⟩
    exact ⟨_, results_none rfl _ _ _, ⟨_, rfl⟩, .inr (HQX.out _ _ _ _ HJ.out (out_putObj _ _ _) (by omega))⟩
end Go.Proofs.YtjbbkeoolodeaaaGreatDoor
namespace Go.Proofs.YtjbbkeoolodeaaaGreatDoor
open Go.RowKit
set_option linter.unusedVariables false
set_option linter.unusedSimpArgs false

/-- how a round may be left -/
def rPw (D : Nat) (W2 : World) (J : World → Prop) (Kx : Code → World → Prop) : Exit → Act → World → Prop
  | .normal, _, W => Sv D 6 W2 W ∧ J W
  | .ret, _, W => Sv D 6 W2 W ∧ Kx .ret W
  | .exit id, _, W => Sv D 6 W2 W ∧ Kx (.exit id) W
  | .goto t, _, W => Sv D 6 W2 W ∧ Kx (.goto t) W
  | .panic _, _, _ => False
  | .outgrown, _, _ => False
theorem sv_chain {D : Nat} {W Wa W2 W3 W' : World} (h1 : Sv D 6 W Wa) (h2 : Out (D + 1) (D + 2) Wa W2) (h3 : Sv D 6 W2 W3) (h4 : Out (D + 1) (D + 2) W3 W') : Sv (D + 2) 4 W W' :=
  fun k o a b h => h4.heap (h3.heap (h2.heap (h1.heap h (by omega) (by omega)) (by omega)) (by omega) (by omega)) (by omega)
theorem svd_chain {D : Nat} {W Wa W2 W3 W' : World} {o : Obj} (h1 : Sv D 6 W Wa) (h2 : Out (D + 1) (D + 2) Wa W2) (h3 : Sv D 6 W2 W3) (h4 : Out (D + 1) (D + 2) W3 W') (h : W.heap[D]? = some o) : W'.heap[D]? = some o :=
  h4.heap (h3.heap (h2.heap (h1.heap h (by omega) (by omega)) (by omega)) (by omega) (by omega)) (by omega)
theorem round_ofW {P : Program} {a : Act} {ps : Array Tmp} {assign body : Code} {D : Nat} {rec : LoopState → Option Code → Loop} {W : World} {args : Array Value} {J' : World → Prop} {Kx : Code → World → Prop}
    (hrec : RecOf a ps assign body D rec) (hd : W.heap[D]? = some (.deferred (some []))) (hl : W.heap[D + 1]? = some (.loop (rec .ready none))) (hs : args.size = ps.size)
    (hq : ∀ W W' x y, J' W → Out x y W W' → ((D ≤ x ∧ y ≤ D + 6) ∨ y = 0) → J' W') (hqX : ∀ c W W' x y, Kx c W → Out x y W W' → D ≤ x ∧ y ≤ D + 6 → Kx c W')
    (h : assign.wpIn (Fence.wide.inRound (D + 1)) 0 P (Exit.then (fun a1 Wa => Sv D 6 W Wa ∧ ∀ W2, Out (D + 1) (D + 2) Wa W2 → body.wpIn (Fence.wide.inRound (D + 1)) 0 P (rPw D W2 J' Kx) a1 W2) (fun _ _ _ => False))
      { tmps := (ps.zip args).foldl (fun t (p, v) => t.setIfInBounds p v) a.tmps, defers := [] } W) :
    YieldAt Fence.wide 0 P (D + 1) args W fun e W' => Sv (D + 2) 4 W W' ∧ ((e = .returned (.bool true) ∧ J' W' ∧ W'.heap[D]? = some (.deferred (some [])) ∧ W'.heap[D + 1]? = some (.loop (rec .ready none))) ∨
      (e = .returned (.bool false) ∧ ∃ c, Kx c W' ∧ W'.heap[D]? = some (.deferred (some [])) ∧ W'.heap[D + 1]? = some (.loop (rec .done (some c))))) := by
  refine round_any hrec hl hs (wpIn_mono h ?_)
  rintro e a1 Wa he
  cases e with
  | normal =>
    obtain ⟨o1, hb⟩ := he
    refine ⟨o1.heap hl (by omega) (by omega), fun W2 o2 hl2 => wpIn_mono (hb W2 o2) ?_⟩
    rintro e2 a2 W3 hp
    cases e2 with
    | normal => exact ⟨hp.1.heap hl2 (by omega) (by omega), fun W' o4 hl4 => ⟨sv_chain o1 o2 hp.1 o4, .inl ⟨rfl, hq _ _ _ _ hp.2 o4 (.inl (by omega)), svd_chain o1 o2 hp.1 o4 hd, hl4⟩⟩⟩
    | ret => exact ⟨hp.1.heap hl2 (by omega) (by omega), fun W' o4 hl4 => ⟨sv_chain o1 o2 hp.1 o4, .inr ⟨rfl, _, hqX _ _ _ _ _ hp.2 o4 (by omega), svd_chain o1 o2 hp.1 o4 hd, hl4⟩⟩⟩
    | exit id => exact ⟨hp.1.heap hl2 (by omega) (by omega), fun W' o4 hl4 => ⟨sv_chain o1 o2 hp.1 o4, .inr ⟨rfl, _, hqX _ _ _ _ _ hp.2 o4 (by omega), svd_chain o1 o2 hp.1 o4 hd, hl4⟩⟩⟩
    | goto t => exact ⟨hp.1.heap hl2 (by omega) (by omega), fun W' o4 hl4 => ⟨sv_chain o1 o2 hp.1 o4, .inr ⟨rfl, _, hqX _ _ _ _ _ hp.2 o4 (by omega), svd_chain o1 o2 hp.1 o4 hd, hl4⟩⟩⟩
    | panic ch => exact hp.elim
    | outgrown => exact hp.elim
  | ret => exact he.elim
  | exit id => exact he.elim
  | goto t => exact he.elim
  | panic ch => exact he.elim
  | outgrown => exact he.elim
/-- for b := range s.All(), or over what All has told -/
theorem overAllW {lo hi n cap g : Nat} {s : Nat → Nat} {op : Operand} {ps : Array Tmp} {assign body : Code} {Q : Exit → Act → World → Prop} {a : Act} {w : World}
    (hg : a.eval op = .func (.func 117) #[] #[.pointer (some ⟨g, 0, none⟩)]) (hps : ps.size = 1)
    (J : Nat → World → Prop) (K : World → Prop) (Kx : Code → World → Prop)
    (hm : ∀ p W, J p W → p ≤ 64 * n ∧ ∃ r, RawAt W lo hi s n cap r ∧ Told r ∧ Box W g 34 (.pointer (some ⟨s 14, 0, none⟩)))
    (hq : ∀ p W W' x y, J p W → Out x y W W' → ((w.heap.size ≤ x ∧ y ≤ w.heap.size + 6) ∨ y = 0) → J p W')
    (hqK : ∀ W W' x y, K W → Out x y W W' → w.heap.size ≤ x ∧ y ≤ w.heap.size + 6 → K W')
    (hqX : ∀ c W W' x y, Kx c W → Out x y W W' → w.heap.size ≤ x ∧ y ≤ w.heap.size + 6 → Kx c W')
    (hy : ∀ p W r (k : Nat) b, J p W → RawAt W lo hi s n cap r → nxr r.P (64 * n) p = k → r.M (k : Int) = some b → w.heap.size + 6 ≤ W.heap.size →
      assign.wpIn (Fence.wide.inRound (w.heap.size + 1)) 0 Tryz.prog (Exit.then (fun a1 Wa => Sv w.heap.size 6 W Wa ∧ ∀ W2, Out (w.heap.size + 1) (w.heap.size + 2) Wa W2 → body.wpIn (Fence.wide.inRound (w.heap.size + 1)) 0 Tryz.prog (rPw w.heap.size W2 (J (k + 1)) Kx) a1 W2) (fun _ _ _ => False))
        { tmps := (ps.zip #[blkV k b]).foldl (fun t (p, v) => t.setIfInBounds p v) a.tmps, defers := [] } W)
    (he : ∀ p W r, J p W → RawAt W lo hi s n cap r → nxr r.P (64 * n) p = -1 → K W) (h0 : J 0 w)
    (hdone : ∀ W, K W → W.heap[w.heap.size]? = some (.deferred (some [])) → Q .normal { a with defers := { target := .collected w.heap.size, args := #[] } :: a.defers } W)
    (hstop : ∀ c W, Kx c W → W.heap[w.heap.size]? = some (.deferred (some [])) → c.wpIn Fence.wide 0 Tryz.prog Q { a with defers := { target := .collected w.heap.size, args := #[] } :: a.defers } W) :
    (Code.rangeFunc op ps assign body).wpIn Fence.wide 0 Tryz.prog Q a w := by
  refine range_any hg (enters_of Tryz.func117 (by kernel_rfl) rfl) K Kx ?H (fun W W' hK ho hd => hdone W' (hqK _ _ _ _ hK ho (by omega)) hd) (fun c W W' hK ho hd => hstop c W' (hqX _ _ _ _ _ hK ho (by omega)) hd)
  intro rec hrec W1 hW1
  have ho : Out 0 0 w W1 := by rw [hW1]; exact ((Out.refl 0 0 w).alloc _).alloc _
  have hs : W1.heap.size = w.heap.size + 2 := by rw [hW1]; simp
  have hd : W1.heap[w.heap.size]? = some (.deferred (some [])) := by rw [hW1]; exact two_first
  have hl : W1.heap[w.heap.size + 1]? = some (.loop (rec .ready none)) := by rw [hW1]; exact heap_alloc2_new _ _ _
  clear hW1
  refine (sAll_yieldS (lo := lo) (hi := hi) (n := n) (cap := cap) (s := s) (g := g) (l := w.heap.size + 1)
    (fun p W => J p W ∧ W.heap[w.heap.size]? = some (.deferred (some [])) ∧ W.heap[w.heap.size + 1]? = some (.loop (rec .ready none)))
    (fun W => K W ∧ W.heap[w.heap.size]? = some (.deferred (some [])) ∧ W.heap[w.heap.size + 1]? = some (.loop (rec .ready none)))
    (fun W => ∃ c, Kx c W ∧ W.heap[w.heap.size]? = some (.deferred (some [])) ∧ W.heap[w.heap.size + 1]? = some (.loop (rec .done (some c)))) (w := W1) ?m ?q ?qj ?qx ?y ?e ?z).mono ?_
  case m => exact fun p W h => hm p W h.1
  case q => exact fun p W W' x y h o hx => ⟨hq p W W' x y h.1 o (by omega), o.heap h.2.1 (by omega), o.heap h.2.2 (by omega)⟩
  case qj => exact fun W W' x y h o hx => ⟨hqK W W' x y h.1 o (by omega), o.heap h.2.1 (by omega), o.heap h.2.2 (by omega)⟩
  case qx => rintro W W' x y ⟨c, h1, h2, h3⟩ o hx; exact ⟨c, hqX c W W' x y h1 o (by omega), o.heap h2 (by omega), o.heap h3 (by omega)⟩
  case y =>
    rintro p W r k b ⟨hj, hd1, hl1⟩ hr hk hb hz
    rw [hs] at hz ⊢
    exact round_ofW hrec hd1 hl1 (by simp [hps]) (hq (k + 1)) hqX (hy p W r k b hj hr hk hb (by omega))
  case e => exact fun p W r h hr hk => ⟨he p W r h.1 hr hk, h.2⟩
  case z => exact ⟨hq 0 w W1 0 0 h0 ho (.inr rfl), hd, hl⟩
  rintro e W ⟨hv, ⟨h1, h2, h3⟩ | ⟨c, h1, h2, h3⟩⟩
  · exact ⟨hv, h2, .inl ⟨h1, h3⟩⟩
  · exact ⟨hv, h2, .inr ⟨c, h1, h3⟩⟩
end Go.Proofs.YtjbbkeoolodeaaaGreatDoor
