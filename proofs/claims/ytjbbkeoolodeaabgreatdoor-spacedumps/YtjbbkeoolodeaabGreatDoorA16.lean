import Derived.Test.YtjbbkeoolodeaabGreatDoorA14
import Derived.Test.YtjbbkeoolodeaabGreatDoorA15
import Derived.Laws.FloatArith
namespace Go.Proofs.YtjbbkeoolodeaabGreatDoor
open Go.RowKit
set_option linter.unusedVariables false
set_option maxRecDepth 100000
set_option maxHeartbeats 16000000
set_option linter.unusedSimpArgs false
def Q6 (n : Nat) (r : Raw) (kp : Nat → Bool) : Nat → Raw
 | 0 => r
 | p + 1 => if r.P p && !kp p then (match r.M (p : Int) with | some b => drR n (Q6 n r kp p) p b.2.1 b.2.2.1 | none => Q6 n r kp p) else Q6 n r kp p
def J7 (r : Raw) (kp : Nat → Bool) : Nat → Nat
 | 0 => 0
 | p + 1 => if r.P p && !kp p then J7 r kp p + 1 else J7 r kp p
theorem z6j (r : Raw) (kp : Nat → Bool) : ∀ p, J7 r kp p ≤ p
 | 0 => Nat.le_refl _
 | p + 1 => by
  have := z6j r kp p; unfold J7; cases (r.P p && !kp p) with
  | true => simp; omega
  | false => simp; omega
theorem U6 {n : Nat} {r : Raw} {kp : Nat → Bool} (hT : z8q r) : ∀ p a, (Q6 n r kp p).P a = (r.P a && !(decide (a < p) && !kp a)) ∧ (((Q6 n r kp p).P a = true ∨ p ≤ a) → (Q6 n r kp p).M (a : Int) = r.M (a : Int)) ∧ (Q6 n r kp p).W = r.W
 | 0, a => by simp [Q6]
 | p + 1, a => by
  obtain ⟨h1, h2, h3⟩ := U6 (n := n) (kp := kp) hT p a; unfold Q6; cases e : (r.P p && !kp p) with
  | false =>
   rw [if_neg (by simp)]; refine ⟨?_, fun h => h2 ?_, h3⟩
   ·rw [h1]; by_cases ea : a = p
    ·subst ea; rw [Bool.and_eq_false_iff] at e; rcases e with e | e
     ·rw [e]; simp
     ·have : kp a = true := by simpa using e
      rw [this]; simp
    ·have : decide (a < p + 1) = decide (a < p) := by by_cases hh : a < p <;> simp [hh] <;> omega
     rw [this]
   ·rcases h with h | h
    ·exact .inl h
    ·exact .inr (by omega)
  | true =>
   rw [if_pos rfl]; rw [Bool.and_eq_true] at e; obtain ⟨b, hb⟩ := hT p e.1; rw [hb]; have hk : kp p = false := by simpa using e.2
   by_cases ea : a = p
   ·subst ea; refine ⟨?_, fun h => ?_, h3⟩
    ·show upd _ a false a = _
     unfold upd; rw [if_pos rfl, hk]; simp
    ·rcases h with h | h
     ·have : upd (Q6 n r kp a).P a false a = true := h; unfold upd at this; simp at this
     ·omega
   ·refine ⟨?_, fun h => ?_, h3⟩
    ·show upd _ p false a = _
     unfold upd; rw [if_neg ea, h1]; have : decide (a < p + 1) = decide (a < p) := by by_cases hh : a < p <;> simp [hh] <;> omega
     rw [this]
    ·show (if (a : Int) = (p : Int) then none else (Q6 n r kp p).M (a : Int)) = _
     rw [if_neg (by omega)]; refine h2 ?_; rcases h with h | h
     ·have : upd (Q6 n r kp p).P p false a = true := h; unfold upd at this; rw [if_neg ea] at this; exact .inl this
     ·exact .inr (by omega)
theorem q2h {n : Nat} {r : Raw} {kp : Nat → Bool} (hT : z8q r) (p : Nat) : z8q (Q6 n r kp p) := by
 intro a ha; obtain ⟨h1, h2, h3⟩ := U6 (n := n) (kp := kp) hT p a; rw [h2 (.inl ha)]; rw [h1] at ha; exact hT a (by revert ha; cases r.P a <;> simp)
theorem q8d {n : Nat} {r : Raw} {kp : Nat → Bool} (hT : z8q r) (hR : q7x n r) (p : Nat) : q7x n (Q6 n r kp p) := by
 have hP : ∀ a, (Q6 n r kp p).P a = true → r.P a = true := fun a ha => by
  rw [(U6 (n := n) (kp := kp) hT p a).1] at ha; revert ha; cases r.P a <;> simp
 intro a b ha hb; rw [(U6 (n := n) (kp := kp) hT p a).2.1 (.inl ha)] at hb; obtain ⟨h1, h2, h3, h4⟩ := hR a b (hP a ha) hb; exact ⟨h1, h2, h3, fun a' h5 h6 => h4 a' h5 (hP a' h6)⟩
theorem q3m {n : Nat} {r : Raw} {kp : Nat → Bool} {p : Nat} : ∀ {d : Nat}, (∀ j, p ≤ j → j < p + d → r.P j = false) → Q6 n r kp (p + d) = Q6 n r kp p ∧ J7 r kp (p + d) = J7 r kp p
 | 0, _ => ⟨rfl, rfl⟩
 | d + 1, h => by
  obtain ⟨h1, h2⟩ := q3m (n := n) (kp := kp) (p := p) (d := d) (fun j a b => h j a (by omega)); have e : r.P (p + d) = false := h _ (by omega) (by omega); constructor
  ·refine Eq.trans ?_ h1
   show Q6 n r kp ((p + d) + 1) = _
   conv => lhs; unfold Q6
   rw [e]; rfl
  ·refine Eq.trans ?_ h2
   show J7 r kp ((p + d) + 1) = _
   conv => lhs; unfold J7
   rw [e]; rfl
theorem j0c {n : Nat} {r : Raw} {kp : Nat → Bool} {p k : Nat} (hp : p ≤ k) (h : ∀ j, p ≤ j → j < k → r.P j = false) : Q6 n r kp k = Q6 n r kp p ∧ J7 r kp k = J7 r kp p := by
 obtain ⟨d, rfl⟩ : ∃ d, k = p + d := ⟨k - p, by omega⟩
 exact q3m h
theorem j2p {n : Nat} {r : Raw} {kp : Nat → Bool} {k : Nat} (hk : kp k = true) : Q6 n r kp (k + 1) = Q6 n r kp k ∧ J7 r kp (k + 1) = J7 r kp k := by
 constructor
 ·conv => lhs; unfold Q6
  rw [hk, if_neg (by simp)]
 ·conv => lhs; unfold J7
  rw [hk, if_neg (by simp)]
theorem j2r {n : Nat} {r : Raw} {kp : Nat → Bool} {k : Nat} {b : Blk} (hP : r.P k = true) (hk : kp k = false) (hb : r.M (k : Int) = some b) : Q6 n r kp (k + 1) = drR n (Q6 n r kp k) k b.2.1 b.2.2.1 ∧ J7 r kp (k + 1) = J7 r kp k + 1 := by
 constructor
 ·conv => lhs; unfold Q6
  rw [hP, hk, hb]; rfl
 ·conv => lhs; unfold J7
  rw [hP, hk]; rfl
def kpS (l : List Int) : Nat → Bool := fun j => l.contains (j : Int)
theorem x1j : kpS [] = fun _ => false := by funext j; unfold kpS; simp
theorem q9k (l : List Int) (a : Nat) : upd (kpS l) a true = kpS (l ++ [(a : Int)]) := by
 funext j
 unfold upd kpS; rw [List.contains_append]; by_cases e : j = a
 ·rw [if_pos e, e]; simp
 ·rw [if_neg e]; have : ([(a : Int)]).contains (j : Int) = false := by simp; omega
  rw [this]; simp
def z5u (w : World) (p : Option Addr) (l : List Int) : Prop := l = [] ∨ ∃ g, p = some ⟨g, 0, none⟩ ∧ g < w.heap.size ∧ ∀ j, j < l.length → w.cell? ⟨g, j, none⟩ = some (.int .i64 (l[j]?.getD 0))
def j9c (n : Nat) (r : Raw) (l : List Int) : Raw := j7m n { Q6 n r (kpS l) (64 * n) with W := wpW (Q6 n r (kpS l) (64 * n)) (64 * n) }
end Go.Proofs.YtjbbkeoolodeaabGreatDoor
namespace Go.Proofs.YtjbbkeoolodeaabGreatDoor
open Go.RowKit
attribute [local go_sem] Oper.semAt_some
set_option linter.unusedVariables false
set_option maxRecDepth 100000
set_option maxHeartbeats 16000000
set_option linter.unusedSimpArgs false
section
variable {w : World} {lo hi n cap : Nat} {s : Nat → Nat} {r : Raw}
theorem j5w (h : RawAt w lo hi s n cap r) (hT : z8q r) (hR : q7x n r) (hM : ∀ a b, r.M a = some b → ∃ j : Nat, a = j ∧ j < 64 * n) {l : List Int} {p : Option Addr} {cp : Nat} (hl : z5u w p l) (hll : (l.length : Int) < 9223372036854775807) :
  Calls Tryz.prog 63 #[.pointer (some ⟨s 14, 0, none⟩), .slice p l.length cp] w fun e w' => Out lo hi w w' ∧
   (((∀ a ∈ l, (r.M a).isSome = true) ∧ e = .returned (.tuple #[.int .i64 ((J7 r (kpS l) (64 * n) : Nat) : Int), .int .i64 0]) ∧ RawAt w' lo hi s n cap (j9c n r l)) ∨
    ((∃ a ∈ l, r.M a = none) ∧ e = .returned (.tuple #[.int .i64 0, .int .i64 22]) ∧ RawAt w' lo hi s n cap r)) := by
 have HR0 := Z0 h; have HTo := Z0 hT; have HRo := Z0 hR; have HMi := Z0 hM; have HLi := Z0 hl; have HT : Hid (hi ≤ w.heap.size ∧ 4 ≤ w.heap.size ∧ 4 ≤ lo ∧ n ≤ 4096 ∧ 1 ≤ n) := ⟨h.top, h.tab.lt, h.glob, h.n2, h.n1⟩
 have HLL := Z0 hll; have HL := Z0 (fun w => z4i (s 14) w); have HW := Z0 (fun W (hr : RawAt W lo hi s n cap r) => z3r hr); have HN := Z0 (fun W (hr : RawAt W lo hi s n cap r) => q7e (64 * n) (by have := h.n2; omega) W hr.tab); have l0 : (0 : Int) ≤ (l.length : Int) := by omega
 clear h hT hR hM hl; refine (callsIn_wide (n := 0)).1 ?_; refine callsIn_of_wp_marks Tryz.func63 rfl trivial ?_ rfl; simp only [Tryz.ntmps63, List.size_toArray, List.length_cons, List.length_nil, Nat.reduceAdd, Nat.reduceSub, Array.replicate_succ, Array.replicate_zero, List.push_toArray, List.append_toArray, List.nil_append, List.cons_append]; gi_wp2_with (refine ⟨trivial, rfl, ?_⟩; gi_at_call 49; refine (callsIn_wide.2 (z0f _ _)).mono ?_; rintro e w1 ⟨rfl, rfl⟩); obtain ⟨W0, hW0⟩ : ∃ W0, w.alloc (.cells #[.pointer (some ⟨s 14, 0, none⟩)] 34) = W0 := ⟨_, rfl⟩
 have hs0 : W0.heap.size = w.heap.size + 1 := by rw [← hW0]; simp
 have HO0 : Hid (Out 0 0 w W0) := by rw [← hW0]; exact ((Out.refl 0 0 w).alloc _)
 have HB0 : Hid (Box W0 w.heap.size 34 (.pointer (some ⟨s 14, 0, none⟩))) := by rw [← hW0]; exact Box.new _ _ _
 rw [hW0]; clear hW0; have hr0 := HR0.out.quiet HO0.out; have HNo := Z0 (HN.out W0 hr0); have HWo := Z0 (HW.out W0 hr0); rw [hs0] at HNo; clear hs0 hr0 HN HW; refine ⟨trivial, rfl, ?_⟩; refine (callsIn_wide.2 HWo.out).mono ?_; rintro e w1 ⟨rfl, rfl⟩; gi_wp2_with (refine ⟨trivial, rfl, ?_⟩; gi_at_call 47; refine (callsIn_wide.2 HNo.out).mono ?_; rintro e w1 ⟨rfl, hm1, ho1, hs1⟩); obtain ⟨W2, hW2⟩ : ∃ W2, w1.alloc (.cells #[.pointer (some ⟨w.heap.size + 1 + 1, 0, none⟩)] 87) = W2 := ⟨_, rfl⟩
 have ho2 : Out 0 0 w1 W2 := by rw [← hW2]; exact ((Out.refl 0 0 _).alloc _)
 have hk2 : Box W2 (w.heap.size + 1 + 2) 87 (.pointer (some ⟨w.heap.size + 1 + 1, 0, none⟩)) := by rw [← hW2, show w.heap.size + 1 + 2 = w1.heap.size from by omega]; exact Box.new _ _ _
 have hz2 : W2.heap.size = w.heap.size + 4 := by rw [← hW2]; simp; omega
 have HO2 := Z0 ((HO0.out.trans ho1).trans ho2); have HB2 := Z0 (HB0.out.kept (ho1.trans ho2) z0); have HK2 := Z0 hk2; have HM2 := Z0 (hm1.quiet ho2); have HZ2 := Z0 hz2; try rw [hW2]
 clear hW2 ho1 hm1 ho2 hk2 hz2 HNo HWo HO0 HB0; gi_loopw [20] (fun u wr => ∃ i : Nat, u = .int .i64 (i : Int) ∧ i ≤ l.length ∧ (∀ a ∈ l.take i, (r.M a).isSome = true) ∧ RawAt wr lo hi s n cap r ∧ Box wr w.heap.size 34 (.pointer (some ⟨s 14, 0, none⟩)) ∧ Box wr (w.heap.size + 1 + 2) 87 (.pointer (some ⟨w.heap.size + 1 + 1, 0, none⟩)) ∧ MapAt wr (w.heap.size + 1) (w.heap.size + 1 + 2) (w.heap.size + 1 + 1) (64 * n) (kpS (l.take i)) ∧ Out 0 0 w wr) (fun u _ => ((l.length : Int) - intOf u).toNat)
 case atStart => exact ⟨0, rfl, Nat.zero_le _, fun a ha => by simp at ha, HR0.out.quiet HO2.out, HB2.out, HK2.out, by rw [List.take_zero, x1j]; exact HM2.out, HO2.out⟩
 case round =>
  clear HB2 HK2 HM2 HO2 HZ2; obtain ⟨i, rfl, i1, i2, i3, i4, i5, i6, i7⟩ := hrel; have HA := Z0 (And.intro i2 (And.intro i3 (And.intro i4 (And.intro i5 (And.intro i6 i7))))); have j0 : (0 : Int) ≤ (i : Int) := by omega
  by_cases hlt : (i : Int) < (l.length : Int)
  ·obtain ⟨g, rfl, hg, hgc⟩ : ∃ g, p = some ⟨g, 0, none⟩ ∧ g < w.heap.size ∧ ∀ j, j < l.length → w.cell? ⟨g, j, none⟩ = some (.int .i64 (l[j]?.getD 0)) := by
    rcases HLi.out with e | e
    ·rw [e] at hlt; simp at hlt; omega
    ·exact e
   have q0 := i7.cell (hgc i (by omega)) z0; obtain ⟨a, ha⟩ : ∃ a, l[i]?.getD 0 = a := ⟨_, rfl⟩
   rw [ha] at q0; have hmem : l.take (i + 1) = l.take i ++ [a] := by
    rw [List.take_add_one, List.getElem?_eq_getElem (by omega)]; rw [List.getElem?_eq_getElem (by omega)] at ha; simp at ha; rw [ha]; rfl
   have c0 := i4.cell; have c1 := i5.cell; obtain ⟨d0, d1, d2, d3, d4, d5⟩ := i3.cells; have hlk := i3.look true a; cases hma : r.M a with
   | none =>
    have e1 : z6b r.M a = none := by unfold z6b; rw [hma]; rfl
    rw [e1] at hlk; simp only [Option.getD_none, Option.isSome_none, if_true] at hlk; have HE : Hid (∃ a ∈ l, r.M a = none) := ⟨a, by rw [← List.take_append_drop (i + 1) l, hmem]; simp, hma⟩
    clear i2 i3 i4 i5 i6 i7 hmem hma e1 ha hg hgc; gi_wp2; refine ⟨_, results_tmp2 rfl _ _ _, ?_⟩; exact ⟨(HA.out.2.2.2.2.2.any lo hi).trans (((Out.refl 0 0 wr).alloc _).any lo hi), .inr ⟨HE.out, rfl, HA.out.2.1.quiet ((Out.refl 0 0 wr).alloc _)⟩⟩
   | some b =>
    obtain ⟨b1, b2, b3, b4⟩ := b; have e1 : z6b r.M a = some (.agg #[.int .i64 a, .int .i64 b1, .int .i64 b2, .int .i64 b3, .int .i64 b4]) := by unfold z6b; rw [hma]; rfl
    rw [e1] at hlk; simp only [Option.getD_some, Option.isSome_some, if_true] at hlk; obtain ⟨j, rfl, hj⟩ := HMi.out a _ hma; have HJ := Z0 hj; have HM := Z0 hmem; have HS := Z0 hma; clear i2 i3 i4 i5 i6 i7 hmem hma e1 ha hg hgc hj; have hoA : Out 0 0 wr (wr.alloc (.cells #[.int .i64 (j : Int), .int .i64 b1, .int .i64 b2, .int .i64 b3, .int .i64 b4] 97)) := (Out.refl 0 0 _).alloc _; have HOA := Z0 hoA; have HSt := Z0 (q3t (HA.out.2.2.2.2.1.quiet hoA) (j : Int)); have c2 := (HA.out.2.2.2.1.kept hoA z0).cell; clear hoA; gi_wp2_with (refine ⟨trivial, rfl, ?_⟩; gi_at_call 99; refine (callsIn_wide.2 HSt.out).mono ?_; rintro e w4 ⟨rfl, hm4, ho4⟩); have hT := HT.out; refine ⟨⟨i + 1, by congr 1, by omega, ?_, (HA.out.2.1.quiet HOA.out).kept ho4 (.inl (by omega)) (.inl (by omega)), (HA.out.2.2.1.kept HOA.out z0).kept ho4 (by omega), (HA.out.2.2.2.1.kept HOA.out z0).kept ho4 (by omega), ?_, (HA.out.2.2.2.2.2.trans HOA.out).past ho4 (by omega)⟩, by simp [intOf]; omega⟩
    ·rw [HM.out]; intro a' ha'; rw [List.mem_append] at ha'; rcases ha' with ha' | ha'
     ·exact HA.out.1 a' ha'
     ·simp at ha'; rw [ha', HS.out]; rfl
    ·rw [HM.out, ← q9k]; have e5 : q1r (kpS (l.take i)) (64 * n) (j : Int) true = upd (kpS (l.take i)) j true := by
      unfold q1r; rw [if_pos (show inB (64 * n) (j : Int) = true from by unfold inB; simp; have := HJ.out; omega)]; rfl
     rw [← e5]; exact hm4
  ·have e : i = l.length := by omega
   subst e; clear i2 i3 i4 i5 i6 i7; rw [List.take_length] at HA; have hge : (l.length : Int) ≤ (l.length : Int) := Int.le_refl _; have c0 := (HA.out.2.2.1.kept ((Out.refl 0 0 wr).alloc (.cells #[.int .i64 0] 3)) z0).cell; gi_wp2_with (refine ⟨trivial, rfl, ?_⟩; gi_at_call 77; refine (callsIn_wide.2 (HL.out _)).mono ?_; rintro e w1 ⟨rfl, rfl⟩); have HC := Z0 (And.intro HA.out.1 (And.intro HA.out.2.1 (And.intro HA.out.2.2.1 (And.intro HA.out.2.2.2.1 (And.intro HA.out.2.2.2.2.1 HA.out.2.2.2.2.2))))); obtain ⟨W1, hW1⟩ : ∃ W1, (wr.alloc (.cells #[.int .i64 0] 3)).alloc (.cells #[.pointer (some ⟨s 14, 0, none⟩)] 34) = W1 := ⟨_, rfl⟩
   obtain ⟨G, hG⟩ : ∃ G, wr.heap.size = G := ⟨_, rfl⟩
   have hs1 : W1.heap.size = G + 2 := by rw [← hW1, ← hG]; simp
   have ho1 : Out 0 0 wr W1 := by rw [← hW1]; exact ((Out.refl 0 0 wr).alloc _).alloc _
   have hx1 : Box W1 G 3 (.int .i64 0) := by rw [← hW1, ← hG]; exact K4
   have hz1 : Box W1 (G + 1) 34 (.pointer (some ⟨s 14, 0, none⟩)) := by rw [← hW1, ← hG]; exact heap_alloc2_new _ _ _
   have HGG : Hid (w.heap.size + 4 ≤ G) := by show _ ≤ _; have := HC.out.2.2.2.1.lt; omega
   rw [hW1, hG]; have HO1 := Z0 ho1; have HX1 := Z0 hx1; have HZ1 := Z0 hz1; clear hW1 ho1 hx1 hz1 HA c0 hge hlt i1 j0 hG; refine q5b (lo := lo) (hi := hi) (n := n) (cap := cap) (g := G + 1) (s := s) rfl rfl
    (fun p W => p ≤ 64 * n ∧ RawAt W lo hi s n cap (Q6 n r (kpS l) p) ∧ Box W w.heap.size 34 (.pointer (some ⟨s 14, 0, none⟩)) ∧ Box W (w.heap.size + 1 + 2) 87 (.pointer (some ⟨w.heap.size + 1 + 1, 0, none⟩)) ∧ MapAt W (w.heap.size + 1) (w.heap.size + 1 + 2) (w.heap.size + 1 + 1) (64 * n) (kpS l) ∧ Box W G 3 (.int .i64 ((J7 r (kpS l) p : Nat) : Int)) ∧ Box W (G + 1) 34 (.pointer (some ⟨s 14, 0, none⟩)) ∧ Out lo hi w W)
    (fun W => RawAt W lo hi s n cap (Q6 n r (kpS l) (64 * n)) ∧ Box W w.heap.size 34 (.pointer (some ⟨s 14, 0, none⟩)) ∧ Box W G 3 (.int .i64 ((J7 r (kpS l) (64 * n) : Nat) : Int)) ∧ Out lo hi w W)
    (fun c W => False) ?hm1 ?hq1 ?hqk1 ?hqx1 ?hy1 ?he1 ?hz1 ?hdone1 ?hstop1
   case hm1 =>
    rintro p W ⟨hp, a1, a2, a3, a4, a5, a6, a7⟩; exact ⟨hp, _, a1, q2h HTo.out p, a6⟩
   case hq1 =>
    rintro p W W' x y ⟨hp, a1, a2, a3, a4, a5, a6, a7⟩ o hx; have hT := HT.out; have hgg := HGG.out; exact ⟨hp, a1.kept o (by omega) (by omega), a2.kept o (by omega), a3.kept o (by omega), a4.kept o (by omega) (by omega), a5.kept o (by omega), a6.kept o (by omega), Z9 a7 o (by omega)⟩
   case hqk1 =>
    rintro W W' x y ⟨a1, a2, a3, a4⟩ o hx; have hT := HT.out; have hgg := HGG.out; exact ⟨a1.kept o (by omega) (by omega), a2.kept o (by omega), a3.kept o (by omega), Z9 a4 o (by omega)⟩
   case hqx1 => exact fun c W W' x y h _ _ => h
   case hstop1 => exact fun c W h _ => h.elim
   case hz1 =>
    have o := HO1.out; exact ⟨Nat.zero_le _, HC.out.2.1.quiet o, HC.out.2.2.1.kept o z0, HC.out.2.2.2.1.kept o z0, HC.out.2.2.2.2.1.quiet o, HX1.out, HZ1.out, (HC.out.2.2.2.2.2.trans o).any _ _⟩
   case he1 =>
    rintro p W rr ⟨hp, a1, a2, a3, a4, a5, a6, a7⟩ hr hk; obtain ⟨eP, eM⟩ := z2j a1 hr; rw [← eP] at hk; rcases Q1 (Q6 n r (kpS l) p).P (64 * n) p with ⟨_, hz⟩ | ⟨i, hi', _⟩
    ·obtain ⟨e1, e2⟩ := j0c (n := n) (r := r) (kp := kpS l) hp (fun j j1 j2 => by
      have := hz j j1 j2; rw [(U6 (n := n) (kp := kpS l) HTo.out p j).1, show decide (j < p) = false from by simp; omega] at this; simpa using this)
     exact ⟨by rw [e1]; exact a1, a2, by rw [e2]; exact a5, a7⟩
    ·have : (-1 : Int) = i := hk.symm.trans hi'; omega
   case hy1 =>
    rintro p W rr k b ⟨hp, a1, a2, a3, a4, a5, a6, a7⟩ hr hk hb hsz; obtain ⟨eP, eM⟩ := z2j a1 hr; rw [← eP] at hk; rw [← eM] at hb; have hK1 := U6 (n := n) (kp := kpS l) HTo.out p; have hrP : ∀ j, p ≤ j → (Q6 n r (kpS l) p).P j = r.P j := fun j hj => by
     rw [(hK1 j).1, show decide (j < p) = false from by simp; omega]; simp
    obtain ⟨hpk, hkn, hPk, hz⟩ : p ≤ k ∧ k < 64 * n ∧ r.P k = true ∧ ∀ j, p ≤ j → j < k → r.P j = false := by
     rcases Q1 (Q6 n r (kpS l) p).P (64 * n) p with ⟨e1, _⟩ | ⟨i, e1, e2, e3, e4, e5⟩
     ·have : (-1 : Int) = k := e1.symm.trans hk; omega
     ·have : i = k := by have : (i : Int) = k := e1.symm.trans hk; omega
      subst this; exact ⟨e3 hp, e2, by rw [← hrP i (e3 hp)]; exact e4, fun j j1 j2 => by rw [← hrP j j1]; exact e5 j j1 j2⟩
    have hb' : r.M (k : Int) = some b := by rw [← (hK1 k).2.1 (.inr hpk)]; exact hb
    obtain ⟨e1, e2⟩ := j0c (n := n) (r := r) (kp := kpS l) hpk hz; rw [← e1] at a1; rw [← e2] at a5; rw [hs1] at hsz ⊢; have hRo := HRo.out k b hPk hb'; have hgo := fun hkk => j2r (n := n) (r := r) (kp := kpS l) hPk hkk hb'
    have hfl := z6j r (kpS l) k; obtain ⟨b1, b2, b3, b4⟩ := b; have A := Z0 (And.intro a1 (And.intro a2 (And.intro a3 (And.intro a4 (And.intro a5 (And.intro a6 a7)))))); have HKn := Z0 (And.intro hkn (And.intro hsz hfl)); have HRk := Z0 hRo; have HGo := Z0 hgo; clear a1 a2 a3 a4 a5 a6 a7 hr hk hb eP eM hz hPk hb' hRo hp hpk hkn hsz e1 e2 hK1 hrP hgo hfl; unfold q6a; dsimp only at A HRk HGo ⊢; obtain ⟨f, hf⟩ : ∃ f : Nat, J7 r (kpS l) k = f := ⟨_, rfl⟩
    obtain ⟨q, hq⟩ : ∃ q, Q6 n r (kpS l) k = q := ⟨_, rfl⟩
    rw [hf, hq] at A HGo; rw [hf] at HKn; obtain ⟨WA, hWA⟩ : ∃ WA, W.alloc (bo (k : Int) b1 b2 b3 b4) = WA := ⟨_, rfl⟩
    have HBA : Hid (WA.heap[W.heap.size]? = some (bo (k : Int) b1 b2 b3 b4)) := by rw [← hWA]; exact heap_alloc_new _ _
    have HOA : Hid (Out 0 0 W WA) := by rw [← hWA]; exact (Out.refl 0 0 W).alloc _
    obtain ⟨H, hH⟩ : ∃ H, W.heap.size = H := ⟨_, rfl⟩
    rw [hH] at HKn HBA; unfold bo at hWA; gi_wp2; (try rw [hWA]); refine ⟨HOA.out.any _ _, ?_⟩; (try rw [hH]); clear hWA hH; intro W2 o2; have hT := HT.out; have hgg := HGG.out; have hkk := HKn.out; have HR2 := Z0 ((A.out.1.quiet HOA.out).kept o2 (.inl (by omega)) (.inl (by omega))); have HS2 := Z0 ((A.out.2.1.kept HOA.out z0).kept o2 (.inl (by omega))); have HK2 := Z0 ((A.out.2.2.1.kept HOA.out z0).kept o2 (.inl (by omega))); have HM2 := Z0 ((A.out.2.2.2.1.quiet HOA.out).kept o2 (.inl (by omega)) (.inl (by omega))); have HF2 := Z0 ((A.out.2.2.2.2.1.kept HOA.out z0).kept o2 (.inl (by omega))); have HZ2 := Z0 ((A.out.2.2.2.2.2.1.kept HOA.out z0).kept o2 (.inl (by omega))); have HB2 := Z0 (o2.heap HBA.out (.inr (by omega))); have HO2 := Z0 (Z9 (Z9 A.out.2.2.2.2.2.2 HOA.out (.inr rfl)) o2 (.inl (by omega))); have HGt := Z0 (j1n HM2.out (k : Int)); have hgb : j4t (kpS l) (64 * n) (k : Int) = kpS l k := by
     unfold j4t; rw [show inB (64 * n) (k : Int) = true from by unfold inB; simp; omega]; simp
    rw [hgb] at HGt; have c0 := HK2.out.cell; obtain ⟨q0, q1, q2, q3, q4⟩ := V7 HB2.out; have f0 : (0 : Int) ≤ (f : Int) := by omega
    have f1 : (f : Int) ≤ 262144 := by omega
    clear o2 hT hgg hkk hgb A; cases hkp : kpS l k with
    | true =>
     rw [hkp] at HGt; obtain ⟨g1, g2⟩ := j2p (n := n) (r := r) (kp := kpS l) hkp; rw [hq] at g1; rw [hf] at g2; have HG1 := Z0 g1; have HG2 := Z0 g2; clear g1 g2 hkp hf hq HGo; gi_wp2_with (refine ⟨trivial, rfl, ?_⟩; gi_at_call 115; refine (callsIn_wide.2 HGt.out).mono ?_; rintro e w3 ⟨rfl, ho3⟩); refine ⟨ho3.any _ _, by have := HKn.out; omega, by rw [HG1.out]; exact HR2.out.quiet ho3, HS2.out.kept ho3 z0, HK2.out.kept ho3 z0, HM2.out.quiet ho3, by rw [HG2.out]; exact HF2.out.kept ho3 z0, HZ2.out.kept ho3 z0, Z9 HO2.out ho3 (.inr rfl)⟩
    | false =>
     rw [hkp] at HGt; obtain ⟨g1, g2⟩ := HGo.out hkp; have HG1 := Z0 g1; have HG2 := Z0 g2; clear g1 g2 hkp hf hq HGo; gi_wp2_with (first
      | (refine ⟨trivial, rfl, ?_⟩; gi_at_call 115; refine (callsIn_wide.2 HGt.out).mono ?_; rintro e w3 ⟨rfl, ho3⟩; have HR3 := Z0 (HR2.out.quiet ho3); have HO3 := Z0 ho3; have d0 := (HS2.out.kept ho3 z0).cell; clear q0 q1 q2 q3 q4; obtain ⟨q0, q1, q2, q3, q4⟩ := V7 (ho3.heap HB2.out z0); clear ho3)
      | (refine ⟨trivial, rfl, ?_⟩; gi_at_call 116; refine (callsIn_wide.2 (j3q HR3.out (a := k) (k := b1) (z := b2) (x := b3) (t := b4) HRk.out.1 HRk.out.2.1 HKn.out.1)).mono ?_; rintro e w4 ⟨⟨v, rfl⟩, hr4, ho4⟩; have HR4 := Z0 hr4; have HO4 := Z0 ho4; have hf4 := (HF2.out.kept HO3.out z0).kept ho4 (.inr (by have := HT.out; have := HGG.out; omega)); have HF4 := Z0 hf4; have e0 := hf4.cell; have e1 := hf4.frozen; clear hr4 ho4 hf4))
     have hset := (Out.refl G (G + 1) w4).setCell (p := ⟨G, 0, none⟩) z1 (.int .i64 ((f : Int) + 1)); have hbx := HF4.out.set (.int .i64 ((f : Int) + 1)); have hT := HT.out; have hgg := HGG.out; have hkk := HKn.out; have h3 := HO3.out; have h4 := HO4.out; exact ⟨((h3.any 0 (G + 2)).trans (h4.wide (Nat.zero_le _) (by omega))).trans (hset.wide (Nat.zero_le _) (by omega)), by omega, by rw [HG1.out]; exact HR4.out.kept hset (.inl (by omega)) (.inl (by omega)), ((HS2.out.kept h3 z0).kept h4 (by omega)).kept hset (by omega), ((HK2.out.kept h3 z0).kept h4 (by omega)).kept hset (by omega), ((HM2.out.quiet h3).kept h4 (.inr (by omega)) (.inl (by omega))).kept hset (.inl (by omega)) (.inl (by omega)), by rw [HG2.out]; exact hbx, ((HZ2.out.kept h3 z0).kept h4 (by omega)).kept hset (by omega), Z9 ((HO2.out.trans (h3.any lo hi)).trans h4) hset (.inl (by omega))⟩
   case hdone1 =>
    rintro W ⟨a1, a2, a3, a4⟩ hd; rw [hs1] at hd; have HD := Z0 hd; have HS := Z0 a2; have HF := Z0 a3; have HO := Z0 a4; have HWp := Z0 (j6i a1 (q2h HTo.out _) (q8d HTo.out HRo.out _)); have c0 := a2.cell; obtain ⟨f, hf⟩ : ∃ f : Nat, J7 r (kpS l) (64 * n) = f := ⟨_, rfl⟩
    rw [hf] at HF; rw [hs1]; clear a1 a2 a3 a4 hd; gi_wp2_with (first
     | (refine ⟨trivial, rfl, ?_⟩; gi_at_call 117; refine (callsIn_wide.2 HWp.out).mono ?_; rintro e w3 ⟨⟨v, rfl⟩, hr3, ho3⟩; have HDl := Z0 (j2x hr3); have HO3 := Z0 ho3; have d0 := (HS.out.kept ho3 (.inr (by have := HT.out; omega))).cell; clear hr3 ho3)
     | (refine ⟨trivial, rfl, ?_⟩; gi_at_call 118; refine (callsIn_wide.2 HDl.out).mono ?_; rintro e w4 ⟨⟨v, rfl⟩, hr4, ho4⟩; have HR4 := Z0 hr4; have HO4 := Z0 ho4; have e0 := ((HF.out.kept HO3.out (.inr (by have := HT.out; have := HGG.out; omega))).kept ho4 (.inr (by have := HT.out; have := HGG.out; omega))).cell; clear hr4 ho4))
    have hT := HT.out; have hgg := HGG.out; refine ⟨by simp, .inl ⟨_, _, rfl, run_takeDeferred (HO4.out.heap (HO3.out.heap HD.out (.inr (by omega))) (.inr (by omega))), ?_⟩⟩; exact ⟨_, results_tmp2 rfl _ _ _, Z9 ((HO.out.trans HO3.out).trans HO4.out) (Q2 _ _ _) (by omega), .inl ⟨HC.out.1, by rw [hf]; rfl, HR4.out.kept (Q2 _ _ _) (by omega) (by omega)⟩⟩
end
end Go.Proofs.YtjbbkeoolodeaabGreatDoor
namespace Go.Proofs.YtjbbkeoolodeaabGreatDoor
open Go.RowKit
set_option linter.unusedVariables false
set_option maxRecDepth 100000
set_option maxHeartbeats 16000000
set_option linter.unusedSimpArgs false
section
variable {w : World} {lo hi n cap : Nat} {s : Nat → Nat} {r : Raw} {B G : Nat} {T : Nat → Int × Int × Int} {tb : Value} {fr fs : Nat → Int}
theorem j4c (z : Int) (hp : ¬ 0 < J4 z) (h : 0 ≤ ofV z) : ∃ c : Nat, ofV z = (c : Int) ∧ c < 8 := by
 have hz : z ≤ 32 ∨ 1024 < z := by
  by_cases hh : 32 < z ∧ z ≤ 1024
  ·unfold J4 at hp; rw [if_pos hh] at hp; omega
  ·omega
 have : ofV z ≤ 7 := by
  unfold ofV; repeat' split
  all_goals omega
 exact ⟨(ofV z).toNat, by omega, by omega⟩
end
theorem B7 {n : Nat} (st : Sp) : z8q (Z6 n st) := by
 intro a ha; have h : ob n st a = true := ha; unfold ob at h; rw [Bool.and_eq_true] at h; refine ⟨st.O a, ?_⟩
 show obM st (a : Int) = _
 unfold obM; rw [show ((a : Int)).toNat = a from by omega, if_pos ⟨by omega, h.2⟩]
theorem j2l {n : Nat} {st : Sp} (hI : Inv n st) : ∀ a b, (Z6 n st).M a = some b → ∃ j : Nat, a = j ∧ j < 64 * n := by
 intro a b h; have h' : obM st a = some b := h; unfold obM at h'; by_cases e : 0 ≤ a ∧ Q7 (st.O a.toNat) = true
 ·exact ⟨a.toNat, by omega, (hI.objs _ e.2).1⟩
 ·rw [if_neg e] at h'; cases h'
theorem z3q {n : Nat} {st : Sp} {a : Nat} {b : Blk} (h : (Z6 n st).M (a : Int) = some b) : b = st.O a ∧ Q7 (st.O a) = true := by
 have h' : obM st (a : Int) = some b := h; unfold obM at h'; rw [show ((a : Int)).toNat = a from by omega] at h'; by_cases e : (0 : Int) ≤ (a : Int) ∧ Q7 (st.O a) = true
 ·rw [if_pos e] at h'; cases h'; exact ⟨rfl, e.2⟩
 ·rw [if_neg e] at h'; cases h'
theorem q6i {a b x : Nat} (hx : 0 < x) (ha : a % x = 0) (hb : b % x = 0) (h : a < b) : a + x ≤ b := by
 obtain ⟨p, rfl⟩ := Nat.dvd_of_mod_eq_zero ha; obtain ⟨q, rfl⟩ := Nat.dvd_of_mod_eq_zero hb; have : p < q := Nat.lt_of_mul_lt_mul_left h
 calc x * p + x = x * (p + 1) := by rw [Nat.mul_succ]
  _ ≤ x * q := Nat.mul_le_mul_left _ this
theorem z3i {n : Nat} {st : Sp} (hI : Inv n st) : q7x n (Z6 n st) := by
 intro a b ha hb; obtain ⟨rfl, hh⟩ := z3q hb; obtain ⟨h1, h2, h3⟩ := hI.objs a hh; obtain ⟨_, _, h4, h5⟩ := J8 h2; obtain ⟨k, z, x, t, hO⟩ : ∃ k z x t, st.O a = (k, z, x, t) := ⟨_, _, _, _, rfl⟩
 rw [hO] at h2 h3 h4 h5 ⊢; dsimp only at h2 h3 h4 h5 ⊢; refine ⟨h4, h5, ?_⟩; have hother : ∀ a', (Z6 n st).P a' = true → ObOk n st.S a' (st.O a') := fun a' h' => by
  have : ob n st a' = true := h'; unfold ob at this; rw [Bool.and_eq_true] at this; exact hI.objs a' this.2
 rcases h3 with ⟨s1, s2, s3⟩ | ⟨s1, s2, s3⟩
 ·obtain ⟨c, hc, hc8⟩ := j4c z (by unfold J4; rw [if_neg (by omega)]; omega) (by unfold ofV; repeat' split; all_goals omega); obtain ⟨w', y', e1, e2, e3, e4⟩ := z0c hc8; have hw : J3 z = w' := by unfold J3; rw [if_neg (by omega), hc, e2]
  rw [hw]; rw [hc] at s2 s3; unfold K7 at s3; rw [Bool.and_eq_true, e2] at s3; have s4 : a % 64 % w' = 0 := by simpa using s3.1
  have s5 : a % 64 + w' ≤ 64 := by simpa using s3.2
  refine ⟨by omega, fun a' h6 h7 => ?_⟩; by_cases hpg : a' / 64 = a / 64
  ·obtain ⟨o1, o2, o3⟩ := hother a' h7; rcases o3 with ⟨o4, o5, o6⟩ | ⟨o4, o5, o6⟩
   ·rw [hpg, s2] at o5; have oc : ofV (st.O a').2.1 = (c : Int) := by simp at o5; omega
    rw [oc] at o6; unfold K7 at o6; rw [Bool.and_eq_true, e2] at o6; have o7 : a' % 64 % w' = 0 := by simpa using o6.1
    have := q6i (a := a % 64) (b := a' % 64) (x := w') (by omega) s4 o7 (by omega); omega
   ·rw [hpg, s2] at o6; simp at o6
  ·omega
 ·have hw : J3 z = ((z + 63) / 64).toNat * 64 := by unfold J3; rw [if_pos s1]
  obtain ⟨m, hm⟩ : ∃ m : Nat, (z + 63) / 64 = (m : Int) := ⟨((z + 63) / 64).toNat, by omega⟩
  rw [hm] at s3 hw; rw [hw, show ((m : Int)).toNat = m from by omega]; rcases hI.good (a / 64) (by omega) with e | ⟨c, _, _, e⟩ | ⟨q, q1, q2, q3, e, q4⟩ | ⟨e, _⟩
  ·rw [s3] at e; simp at e
  ·rw [s3] at e; simp at e
  ·rw [s3] at e; have : m = q := by simp at e; omega
   subst this; refine ⟨by omega, fun a' h6 h7 => ?_⟩; by_cases hpg : a / 64 < a' / 64 ∧ a' / 64 < a / 64 + m
   ·have e3 := q4 (a' / 64) hpg.1 hpg.2; obtain ⟨o1, o2, o3⟩ := hother a' h7; rcases o3 with ⟨o4, o5, o6⟩ | ⟨o4, o5, o6⟩
    ·rw [e3] at o5; simp at o5
    ·rw [e3] at o6; simp at o6
   ·by_cases hsame : a' / 64 = a / 64
    ·obtain ⟨o1, o2, o3⟩ := hother a' h7; rcases o3 with ⟨o4, o5, o6⟩ | ⟨o4, o5, o6⟩
     ·rw [hsame, s3] at o5; simp at o5
     ·omega
    ·omega
  ·rw [s3] at e; simp at e
def z1l (r : Raw) (kp : Nat → Bool) (a : Nat) : Bool := r.P a && !kp a
theorem z2d (n : Nat) (r : Raw) (kp : Nat → Bool) (p : Nat) : Q6 n r kp (p + 1) = if r.P p && !kp p then (match r.M (p : Int) with | some b => drR n (Q6 n r kp p) p b.2.1 b.2.2.1 | none => Q6 n r kp p) else Q6 n r kp p := rfl
theorem j6m {n : Nat} {r : Raw} {kp : Nat → Bool} (hT : z8q r) : ∀ (p : Nat) (i : Int), (Q6 n r kp p).M i = if 0 ≤ i ∧ i.toNat < p ∧ z1l r kp i.toNat = true then none else r.M i
 | 0, i => by rw [if_neg (by omega)]; rfl
 | p + 1, i => by
  have ih := j6m (n := n) (kp := kp) hT p i; rw [z2d]; cases e : (r.P p && !kp p) with
  | false =>
   rw [if_neg (by simp), ih]; by_cases h : 0 ≤ i ∧ i.toNat < p ∧ z1l r kp i.toNat = true
   ·rw [if_pos h, if_pos ⟨h.1, by omega, h.2.2⟩]
   ·rw [if_neg h, if_neg ?_]; rintro ⟨h1, h2, h3⟩; by_cases ep : i.toNat = p
    ·rw [ep] at h3; unfold z1l at h3; rw [e] at h3; cases h3
    ·exact h ⟨h1, by omega, h3⟩
  | true =>
   rw [if_pos rfl]; obtain ⟨b, hb⟩ := hT p (by rw [Bool.and_eq_true] at e; exact e.1); rw [hb]
   show (if i = (p : Int) then none else (Q6 n r kp p).M i) = _
   by_cases ei : i = (p : Int)
   ·rw [if_pos ei, if_pos ⟨by omega, by omega, by rw [ei, show ((p : Int)).toNat = p from by omega]; exact e⟩]
   ·rw [if_neg ei, ih]; by_cases h : 0 ≤ i ∧ i.toNat < p ∧ z1l r kp i.toNat = true
    ·rw [if_pos h, if_pos ⟨h.1, by omega, h.2.2⟩]
    ·rw [if_neg h, if_neg (fun h' => h ⟨h'.1, by omega, h'.2.2⟩)]
def q1a (r : Raw) (kp : Nat → Bool) (p : Nat) (x : Int) : Bool := (List.range p).any fun a => z1l r kp a && (match r.M (a : Int) with | some b => b.2.2.1 == x | none => false)
theorem q7t (r : Raw) (kp : Nat → Bool) (p : Nat) (x : Int) : q1a r kp (p + 1) x = (q1a r kp p x || (z1l r kp p && (match r.M (p : Int) with | some b => b.2.2.1 == x | none => false))) := by
 unfold q1a; rw [List.range_succ, List.any_append]; simp
theorem j7b {n : Nat} {r : Raw} {kp : Nat → Bool} (hT : z8q r) : ∀ (p : Nat) (x : Int), (Q6 n r kp p).R x = if q1a r kp p x = true then none else r.R x
 | 0, x => by rw [if_neg (by unfold q1a; simp)]; rfl
 | p + 1, x => by
  have ih := j7b (n := n) (kp := kp) hT p x; rw [z2d, q7t]; cases e : (r.P p && !kp p) with
  | false =>
   have e' : z1l r kp p = false := e; rw [if_neg (by simp), ih, e']; simp
  | true =>
   have e' : z1l r kp p = true := e; rw [if_pos rfl, e']; obtain ⟨b, hb⟩ := hT p (by rw [Bool.and_eq_true] at e; exact e.1); rw [hb]
   show (if x = b.2.2.1 then none else (Q6 n r kp p).R x) = _
   by_cases ex : x = b.2.2.1
   ·rw [if_pos ex, if_pos (by rw [ex]; simp)]
   ·rw [if_neg ex, ih]; have : (b.2.2.1 == x) = false := by simpa using fun h => ex h.symm
    simp [this]
def z1f (r : Raw) (kp : Nat → Bool) (p q : Nat) : Bool := (List.range p).any fun a => z1l r kp a && (match r.M (a : Int) with | some b => decide (32 < b.2.1 ∧ a / 64 ≤ q ∧ q < a / 64 + ((b.2.1 + 63) / 64).toNat) | none => false)
theorem q7j (r : Raw) (kp : Nat → Bool) (p q : Nat) : z1f r kp (p + 1) q = (z1f r kp p q || (z1l r kp p && (match r.M (p : Int) with | some b => decide (32 < b.2.1 ∧ p / 64 ≤ q ∧ q < p / 64 + ((b.2.1 + 63) / 64).toNat) | none => false))) := by
 unfold z1f; rw [List.range_succ, List.any_append]; simp
theorem goneP_iff {r : Raw} {kp : Nat → Bool} {p q : Nat} : z1f r kp p q = true ↔ ∃ a b, a < p ∧ z1l r kp a = true ∧ r.M (a : Int) = some b ∧ 32 < b.2.1 ∧ a / 64 ≤ q ∧ q < a / 64 + ((b.2.1 + 63) / 64).toNat := by
 unfold z1f; rw [List.any_eq_true]; constructor
 ·rintro ⟨a, ha, h⟩; rw [List.mem_range] at ha; rw [Bool.and_eq_true] at h; cases e : r.M (a : Int) with
  | none => rw [e] at h; exact absurd h.2 (by simp)
  | some b =>
   rw [e] at h; have := h.2; simp only [decide_eq_true_eq] at this; exact ⟨a, b, ha, h.1, e, this.1, this.2.1, this.2.2⟩
 ·rintro ⟨a, b, h1, h2, h3, h4, h5, h6⟩; refine ⟨a, by rw [List.mem_range]; omega, ?_⟩; rw [h2, h3]; simp only [Bool.true_and, decide_eq_true_eq]; exact ⟨h4, h5, h6⟩
theorem j7a {n : Nat} {st : Sp} {kp : Nat → Bool} (hI : Inv n st) : ∀ (p : Nat) (q : Nat), (Q6 n (Z6 n st) kp p).S q = if z1f (Z6 n st) kp p q = true then (0, 0, 0) else st.S q
 | 0, q => by rw [if_neg (by unfold z1f; simp)]; rfl
 | p + 1, q => by
  have ih := fun q => j7a (kp := kp) hI p q
  rw [z2d, q7j]; cases e : ((Z6 n st).P p && !kp p) with
  | false =>
   have e' : z1l (Z6 n st) kp p = false := e; rw [if_neg (by simp), ih, e']; simp
  | true =>
   have e' : z1l (Z6 n st) kp p = true := e; rw [if_pos rfl, e']; have hP : (Z6 n st).P p = true := by rw [Bool.and_eq_true] at e; exact e.1
   obtain ⟨b, hb⟩ := B7 st p hP; have hRo := z3i hI p b hP hb; obtain ⟨rfl, hh⟩ := z3q hb; obtain ⟨h1, h2, h3⟩ := hI.objs p hh; rw [hb]
   show (if 32 < (st.O p).2.1 then gvS (Q6 n (Z6 n st) kp p).S n ((p / 64 : Nat) : Int) else (Q6 n (Z6 n st) kp p).S) q = _
   by_cases hz : 32 < (st.O p).2.1
   ·rw [if_pos hz]; rcases h3 with ⟨h3, _⟩ | ⟨_, h4, h5⟩
    ·omega
    have hroom : J3 (st.O p).2.1 = (((st.O p).2.1 + 63) / 64).toNat * 64 := by unfold J3; rw [if_pos hz]
    have hng : z1f (Z6 n st) kp p (p / 64) = false := by
     cases eg : z1f (Z6 n st) kp p (p / 64) with
     | false => rfl
     | true =>
      obtain ⟨a, b, g1, g2, g3, g4, g5, g6⟩ := goneP_iff.1 eg; have gP : (Z6 n st).P a = true := by unfold z1l at g2; rw [Bool.and_eq_true] at g2; exact g2.1
      have := (z3i hI a b gP g3).2.2.2 p g1 hP; have hr : J3 b.2.1 = ((b.2.1 + 63) / 64).toNat * 64 := by unfold J3; rw [if_pos g4]
      obtain ⟨rfl, gh⟩ := z3q g3; obtain ⟨_, _, i3⟩ := hI.objs a gh; rcases i3 with ⟨i3, _⟩ | ⟨_, i4, _⟩
      ·omega
      ·omega
    have hS : (Q6 n (Z6 n st) kp p).S (p / 64) = (2, 0, ((st.O p).2.1 + 63) / 64) := by rw [ih, if_neg (by rw [hng]; simp), h5]
    unfold gvS z4n; rw [show (((p / 64 : Nat) : Int)).toNat = p / 64 from by omega, hS]; rw [if_pos (by unfold inB; simp; omega)]; unfold setF z4t; rw [if_pos rfl]; dsimp only; by_cases hq : p / 64 ≤ q ∧ q < p / 64 + (((st.O p).2.1 + 63) / 64).toNat
    ·rw [if_pos hq, if_pos (by simp [hz, hq])]
    ·rw [if_neg hq, ih]; have : decide (32 < (st.O p).2.1 ∧ p / 64 ≤ q ∧ q < p / 64 + (((st.O p).2.1 + 63) / 64).toNat) = false := by simp only [decide_eq_false_iff_not]; exact fun h => hq h.2
     simp only [this, Bool.and_false, Bool.or_false]
   ·rw [if_neg hz, ih]; have : decide (32 < (st.O p).2.1 ∧ p / 64 ≤ q ∧ q < p / 64 + (((st.O p).2.1 + 63) / 64).toNat) = false := by simp only [decide_eq_false_iff_not]; exact fun h => hz h.1
    simp only [this, Bool.and_false, Bool.or_false]
end Go.Proofs.YtjbbkeoolodeaabGreatDoor
