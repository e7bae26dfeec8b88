import Derived.Test.YtjbbkeoolodeaaaGreatDoorC01
import Derived.Lib.SliceRun
import Derived.Deep.AppendLies
import Derived.OwnWalk
import Derived.ArgAppend
import Derived.Deep.DeepAppendRoom
import Derived.Test.YtjbbkeoolodeaaaGreatDoorC04
import Derived.Test.YtjbbkeoolodeaaaGreatDoorC05
import Derived.Test.YtjbbkeoolodeaaaGreatDoorC08
import Derived.Test.YtjbbkeoolodeaaaGreatDoorC16
import Derived.Test.YtjbbkeoolodeaaaGreatDoorC17
import Derived.Test.YtjbbkeoolodeaaaGreatDoorC36
import Derived.Test.YtjbbkeoolodeaaaGreatDoorC26
import Derived.Test.YtjbbkeoolodeaaaGreatDoorC44
import Derived.Test.YtjbbkeoolodeaaaGreatDoorC45
import Derived.Test.YtjbbkeoolodeaaaGreatDoorC02
import Derived.Test.YtjbbkeoolodeaaaGreatDoorC09
namespace Go.Proofs.YtjbbkeoolodeaaaGreatDoor
open Go.RowKit
set_option linter.unusedVariables false
set_option maxRecDepth 100000
set_option maxHeartbeats 16000000
set_option linter.unusedSimpArgs false
theorem j6b {w : World} {b bw n : Nat} {S : Nat → Int × Int × Int} (h : TblAt 126 w b bw n S) (hw : 4 ≤ w.heap.size) :
  Calls Tryz.prog 140 #[.pointer (some ⟨b, 0, none⟩)] w fun e w' => ∃ b' bw', e = .returned (.pointer (some ⟨b', 0, none⟩)) ∧ TblAt 126 w' b' bw' n S ∧ w.heap.size ≤ b' ∧ w.heap.size ≤ bw' ∧ Out 0 0 w w' := by
 have HA := Z0 (q4o h); have HN := Z0 h.nums; have HG := Z0 h.good; have HW := Z0 hw; clear h hw; go_enter Tryz.func140, Tryz.ntmps140
 go_wp2_with (go_at_call 82; refine HA.out.mono ?_; rintro e w1 ⟨g, cap', rfl, hl, ho⟩; have HL := Z0 hl; have HO := Z0 ho; clear hl ho); go_ret; obtain ⟨t1, t2, t3⟩ := q7b (T := 126) HW.out HO.out HL.out HN.out.1 HN.out.2.1 HG.out; exact ⟨_, g, rfl, t1, t3, t2, HO.out.alloc _⟩
theorem q9x (n : Nat) (st : Sp) (c : Int) : ∀ j, 64 * n ≤ j → fr n st c j = false := fun j hj => by
 unfold fr; rw [show decide (j < 64 * n) = false from by simp; omega]; rfl
section
variable {w : World} {lo hi n cap : Nat} {s : Nat → Nat} {r : Raw}
def fz : Obj := .cells #[.int .i64 0, .int .i64 0] 50
end
def plF (q : Nat) (tb : Value) (fr fs : Nat → Int) : Nat → Value := fun i => if i = 0 then .pointer (some ⟨q, 0, none⟩) else if i = 1 then tb else if i < 10 then .int .i64 (fr (i - 2)) else .int .i64 (fs (i - 10))
def TbAt (w : World) (B G n : Nat) (S T : Nat → Int × Int × Int) (tb : Value) : Prop :=
 (tb = .pointer none ∧ T = S) ∨ ∃ b bw, tb = .pointer (some ⟨b, 0, none⟩) ∧ TblAt 126 w b bw n T ∧ B ≤ b ∧ B ≤ bw ∧ b ≠ G ∧ bw ≠ G
theorem U0 {w : World} {G q : Nat} {tb : Value} {fr fs : Nat → Int} (h : Row w G 105 18 (plF q tb fr fs)) :
  w.cell? ⟨G, 0, none⟩ = some (.pointer (some ⟨q, 0, none⟩)) ∧ w.cell? ⟨G, 1, none⟩ = some tb ∧ (∀ c, c < 8 → w.cell? ⟨G, 2 + c, none⟩ = some (.int .i64 (fr c))) ∧ (∀ c, c < 8 → w.cell? ⟨G, 10 + c, none⟩ = some (.int .i64 (fs c))) := by
 refine ⟨h.cell (by omega), h.cell (by omega), fun c hc => ?_, fun c hc => ?_⟩
 ·rw [h.cell (i := 2 + c) (by omega)]; unfold plF; rw [if_neg (by omega), if_neg (by omega), if_pos (by omega), show 2 + c - 2 = c from by omega]
 ·rw [h.cell (i := 10 + c) (by omega)]; unfold plF; rw [if_neg (by omega), if_neg (by omega), if_neg (by omega), show 10 + c - 10 = c from by omega]
theorem j4r {w : World} {G q : Nat} {tb : Value} {fr fs : Nat → Int} (h : Row w G 105 18 (plF q tb fr fs)) (v : Value) : Row (w.setCell ⟨G, 1, none⟩ v) G 105 18 (plF q v fr fs) :=
 (h.set 1 v).congr fun i hi => by
  unfold plF; by_cases e : i = 1
  ·subst e; rfl
  ·rw [if_neg e, if_neg e, if_neg e]
section
variable {w : World} {lo hi n cap : Nat} {s : Nat → Nat} {r : Raw}
theorem z4c (h : RawAt w lo hi s n cap r) {B G : Nat} {T : Nat → Int × Int × Int} {tb : Value} {fr fs : Nat → Int} (hB : hi ≤ B) (hG : B ≤ G) (hp : Row w G 105 18 (plF (s 14) tb fr fs)) (ht : TbAt w B G n r.S T tb) :
  Calls Tryz.prog 104 #[.pointer (some ⟨G, 0, none⟩)] w fun e w' => ∃ b bw, e = .returned (.pointer (some ⟨b, 0, none⟩)) ∧ TblAt 126 w' b bw n T ∧ B ≤ b ∧ B ≤ bw ∧ b ≠ G ∧ bw ≠ G ∧ Row w' G 105 18 (plF (s 14) (.pointer (some ⟨b, 0, none⟩)) fr fs) ∧ Out G (G + 1) w w' := by
 have hlt := Row.lt hp; have hw4 := h.tab.lt; rcases ht with ⟨rfl, rfl⟩ | ⟨b, bw, rfl, hT, h1, h2, h3, h4⟩
 ·have HC := Z0 (j6b h.tbl hw4); obtain ⟨p0, p1, _, _⟩ := U0 hp; obtain ⟨d0, d1, d2, d3, d4, d5⟩ := h.cells; have HP := Z0 hp; have HD : Hid (hi ≤ B ∧ B ≤ G ∧ G < w.heap.size) := ⟨hB, hG, hlt⟩
  clear hp h hB hG hlt hw4; go_enter Tryz.func104, Tryz.ntmps104
  go_wp2_with (go_at_call 140; refine HC.out.mono ?_; rintro e w2 ⟨b, bw, rfl, hT, hb1, hb2, ho⟩; have HT := Z0 hT; have HB : Hid (w.heap.size ≤ b ∧ w.heap.size ≤ bw) := ⟨hb1, hb2⟩; have HO := Z0 ho; have HP2 := Z0 (HP.out.kept ho z0); obtain ⟨q0, q1, _, _⟩ := U0 HP2.out; have fz := Row.frozen HP2.out 1; clear hT hb1 hb2 ho p0 p1 d0 d1 d2 d3 d4 d5); go_ret; have hset := (Out.refl G (G + 1) w2).setCell (p := ⟨G, 1, none⟩) z1 (.pointer (some ⟨b, 0, none⟩)); have hd := HD.out; have hb := HB.out; exact ⟨b, bw, rfl, HT.out.kept hset (by omega) (by omega), by omega, by omega, by omega, by omega, j4r HP2.out _, (HO.out.any G (G + 1)).trans hset⟩
 ·obtain ⟨p0, p1, _, _⟩ := U0 hp; have HP := Z0 hp; have HT := Z0 hT; have HD : Hid (B ≤ b ∧ B ≤ bw ∧ b ≠ G ∧ bw ≠ G) := ⟨h1, h2, h3, h4⟩
  clear hp hT h1 h2 h3 h4; go_enter Tryz.func104, Tryz.ntmps104
  go_wp2; go_ret; exact ⟨b, bw, rfl, HT.out, HD.out.1, HD.out.2.1, HD.out.2.2.1, HD.out.2.2.2, HP.out, Out.refl _ _ _⟩
end
def z3k (f : Nat → Int) (c : Nat) (v : Int) : Nat → Int := fun i => if i = c then v else f i
def plB (n : Nat) (r : Raw) (T : Nat → Int × Int × Int) (fr fs : Nat → Int) (c : Nat) : Bool × (Nat → Int × Int × Int) × (Nat → Int) × (Nat → Int) :=
 if 0 < fs c then (true, T, fr, z3k fs c (fs c - 1))
 else if 0 ≤ nxr (r.F c) (64 * n) (fr c).toNat then (true, T, z3k fr c (nxr (r.F c) (64 * n) (fr c).toNat + 1), fs)
 else if tcE T n (c : Int) = 0 then (true, tcS T n (c : Int), fr, z3k fs c (J6 (c : Int) - 1))
 else (false, tcS T n (c : Int), fr, fs)
theorem q6f {w : World} {G q : Nat} {tb : Value} {fr fs : Nat → Int} (h : Row w G 105 18 (plF q tb fr fs)) {c : Nat} (hc : c < 8) (v : Int) : Row (w.setCell ⟨G, 10 + c, none⟩ (.int .i64 v)) G 105 18 (plF q tb fr (z3k fs c v)) :=
 (h.set (10 + c) _).congr fun i hi => by
  unfold plF z3k; by_cases e : i = 10 + c
  ·rw [if_pos e, if_neg (by omega), if_neg (by omega), if_neg (by omega), if_pos (by omega)]
  ·rw [if_neg e]; by_cases e0 : i = 0
   ·rw [if_pos e0, if_pos e0]
   ·rw [if_neg e0, if_neg e0]; by_cases e1 : i = 1
    ·rw [if_pos e1, if_pos e1]
    ·rw [if_neg e1, if_neg e1]; by_cases e2 : i < 10
     ·rw [if_pos e2, if_pos e2]
     ·rw [if_neg e2, if_neg e2, if_neg (by omega)]
theorem j3t {w : World} {G q : Nat} {tb : Value} {fr fs : Nat → Int} (h : Row w G 105 18 (plF q tb fr fs)) {c : Nat} (hc : c < 8) (v : Int) : Row (w.setCell ⟨G, 2 + c, none⟩ (.int .i64 v)) G 105 18 (plF q tb (z3k fr c v) fs) :=
 (h.set (2 + c) _).congr fun i hi => by
  unfold plF z3k; by_cases e : i = 2 + c
  ·rw [if_pos e, if_neg (by omega), if_neg (by omega), if_pos (by omega), if_pos (by omega)]
  ·rw [if_neg e]; by_cases e0 : i = 0
   ·rw [if_pos e0, if_pos e0]
   ·rw [if_neg e0, if_neg e0]; by_cases e1 : i = 1
    ·rw [if_pos e1, if_pos e1]
    ·rw [if_neg e1, if_neg e1]; by_cases e2 : i < 10
     ·rw [if_pos e2, if_pos e2, if_neg (by omega)]
     ·rw [if_neg e2, if_neg e2]
section
variable {w : World} {lo hi n cap : Nat} {s : Nat → Nat} {r : Raw} {B G : Nat} {T : Nat → Int × Int × Int} {tb : Value} {fr fs : Nat → Int}
theorem j0n (hp : Row w G 105 18 (plF (s 14) tb fr fs)) {c : Nat} (hc : c < 8) (hf : 0 < fs c) (hf2 : fs c ≤ 32) :
  Calls Tryz.prog 106 #[.pointer (some ⟨G, 0, none⟩), .int .i64 (c : Int)] w fun e w' => e = .returned (.bool true) ∧ Row w' G 105 18 (plF (s 14) tb fr (z3k fs c (fs c - 1))) ∧ Out G (G + 1) w w' := by
 have hpd := hp.kept ((Out.refl 0 0 w).drew) z0; have p3 := (U0 hp).2.2.2 c hc; have p4 := (U0 hpd).2.2.2 c hc; have fz := Row.frozen hpd (10 + c); have k0 : (0 : Int) ≤ (c : Int) := by omega
 have k1 : (c : Int) < 8 := by omega
 have HP := Z0 hp; have HC := Z0 hc; obtain ⟨x, hx⟩ : ∃ x, fs c = x := ⟨_, rfl⟩
 rw [hx] at p3 p4 hf hf2 ⊢; have HWR : Hid (IntKind.i64.wrap (x - 1) = x - 1) := by show _ = _; simp [IntKind.wrap, IntKind.signed, IntKind.bits]; omega
 clear hp hpd hc hx; go_enter Tryz.func106, Tryz.ntmps106
 go_wp2_with fail; refine wp_region_held_drew (S := fun _ => True) (by kernel_rfl) ?hS1 (fun hHeld => ?rest1)
 case hS1 => trivial
 refine tk 0 ?_; refine tk 1 ?_; refine tk 2 ?_; refine tk 3 ?_; refine tk 4 ?_; refine tk 7 ?_; refine tk 8 ?_; refine rd1 5 fun KK hK => ?_
 simp only [xa, xb, xc]; go_simp; refine hK.out _ _ ?hS9 (fun hHeld2 => ?rest9)
 case hS9 => trivial
 clear hK KK; replace hHeld := hHeld2; clear hHeld2; refine tk 6 ?_; refine tk 9 ?_; refine rd1 10 fun KK hK => ?_
 simp only [xa, xb, xc]; go_simp; refine hK.out _ _ ?hS12 (fun hHeld2 => ?rest12)
 case hS12 => trivial
 clear hK KK; replace hHeld := hHeld2; clear hHeld2; refine dn ?_; clear hHeld; go_wp2; go_ret; rw [HWR.out]; exact ⟨rfl, (q6f HP.out HC.out _).kept ((Out.refl 0 0 _).drew) z0, ((Out.refl G (G + 1) w).setCell z1 _).trans (((Out.refl 0 0 _).drew).any _ _)⟩
theorem TbAt.quiet {w w' : World} {B G n : Nat} {S T : Nat → Int × Int × Int} {tb : Value} (h : TbAt w B G n S T tb) (o : Out 0 0 w w') : TbAt w' B G n S T tb := by
 rcases h with h | ⟨b, bw, h1, h2, h3⟩
 ·exact .inl h
 ·exact .inr ⟨b, bw, h1, h2.kept o z0 z0, h3⟩
theorem j5o (h : RawAt w lo hi s n cap r) (hp : Row w G 105 18 (plF (s 14) tb fr fs)) {c y m : Nat} (hc : c < 8) (hf : fs c ≤ 0) (hy : fr c = ((y : Nat) : Int)) (hm : nxr (r.F c) (64 * n) y = ((m : Nat) : Int)) (hmn : m < 64 * n) :
  Calls Tryz.prog 106 #[.pointer (some ⟨G, 0, none⟩), .int .i64 (c : Int)] w fun e w' => e = .returned (.bool true) ∧ Row w' G 105 18 (plF (s 14) tb (z3k fr c ((m : Int) + 1)) fs) ∧ Out G (G + 1) w w' := by
 have hpd := hp.kept ((Out.refl 0 0 w).drew) z0; have hrd := h.quiet ((Out.refl 0 0 w).drew); have p3 := (U0 hp).2.2.2 c hc; have p2 := (U0 hpd).2.2.1 c hc; have p0 := (U0 hpd).1; have dF := hrd.cellF hc; have HNx := Z0 (z2a (hrd.free c hc) (y : Int)); rw [show ((y : Int)).toNat = y from by omega, hm] at HNx; have k0 : (0 : Int) ≤ (c : Int) := by omega
 have k1 : (c : Int) < 8 := by omega
 have HM1 : Hid (m < 64 * n ∧ n ≤ 4096) := ⟨hmn, h.n2⟩
 have HP := Z0 hpd; have HC := Z0 hc; rw [hy] at p2; obtain ⟨x, hx⟩ : ∃ x, fs c = x := ⟨_, rfl⟩
 rw [hx] at p3 hf; obtain ⟨z, hz⟩ : ∃ z : Int, (m : Int) + 1 = z := ⟨_, rfl⟩
 rw [hz]; have HZ := Z0 hz; clear hp hpd hc hx hrd h hm hmn hy hz; go_enter Tryz.func106, Tryz.ntmps106
 go_wp2_with fail; refine wp_region_held_drew (S := fun w' => w'.cell? ⟨G, 0, none⟩ = some (.pointer (some ⟨s 14, 0, none⟩)) ∧ w'.cell? ⟨s 14, 4 + c, none⟩ = some (.pointer (some ⟨s c + 1, 0, none⟩)) ∧ w'.cell? ⟨G, 2 + c, none⟩ = some (.int .i64 (y : Int))) (by kernel_rfl) ?hS13 (fun hHeld => ?rest13)
 case hS13 => exact ⟨p0, dF, p2⟩
 refine tk 0 ?_; refine tk 1 ?_; refine tk 2 ?_; refine tk 3 ?_; refine tk 4 ?_; refine tk 5 ?_; refine tk 6 ?_; refine tk 7 ?_; refine tk 8 ?_; refine tk 9 ?_; refine tk 10 ?_; refine tk 11 ?_; refine tk 12 ?_; refine tk 13 ?_; refine tk 14 ?_; refine rd1 15 fun KK hK => ?_
 simp only [xa, xb, xc]; go_simp; refine (HNx.out).mono ?_; rintro e w4 ⟨rfl, hoo⟩; refine hK.out _ _ ?hS29 (fun hHeld2 => ?rest29)
 case hS29 => exact ⟨hoo.cell hHeld.1 z0, hoo.cell hHeld.2.1 z0, hoo.cell hHeld.2.2 z0⟩
 clear hK KK; replace hHeld := hHeld2; clear hHeld2; refine tk 16 ?_; refine dn ?_; clear hHeld; have HP4 := Z0 (HP.out.kept hoo z0); have e0 := (U0 HP4.out).2.2.1 c HC.out; have e1 := Row.frozen HP4.out (2 + c); have HOO := Z0 hoo; clear p0 p2 p3 dF hoo; have m0 : (0 : Int) ≤ (m : Int) := by omega
 have m1 : (m : Int) < 262144 := by have := HM1.out; omega
 go_wp2; go_ret; rw [← HZ.out]; exact ⟨rfl, j3t HP4.out HC.out _, ((((Out.refl 0 0 w).drew).trans HOO.out).any G (G + 1)).trans ((Out.refl G (G + 1) w4).setCell z1 _)⟩
theorem j4s (h : RawAt w lo hi s n cap r) (hB : hi ≤ B) (hG : B ≤ G) (hp : Row w G 105 18 (plF (s 14) tb fr fs)) (ht : TbAt w B G n r.S T tb) {c y : Nat} (hc : c < 8) (hf : fs c ≤ 0) (hy : fr c = ((y : Nat) : Int)) (hm : nxr (r.F c) (64 * n) y = -1) :
  Calls Tryz.prog 106 #[.pointer (some ⟨G, 0, none⟩), .int .i64 (c : Int)] w fun e w' => ∃ tb', e = .returned (.bool (tcE T n (c : Int) == 0)) ∧ Row w' G 105 18 (plF (s 14) tb' fr (if tcE T n (c : Int) = 0 then z3k fs c (J6 (c : Int) - 1) else fs)) ∧ TbAt w' B G n r.S (tcS T n (c : Int)) tb' ∧ Out B w'.heap.size w w' := by
 have hpd := hp.kept ((Out.refl 0 0 w).drew) z0; have hrd := h.quiet ((Out.refl 0 0 w).drew); have p3 := (U0 hp).2.2.2 c hc; have p2 := (U0 hpd).2.2.1 c hc; have p0 := (U0 hpd).1; have dF := hrd.cellF hc; have HNx := Z0 (z2a (hrd.free c hc) (y : Int)); rw [show ((y : Int)).toNat = y from by omega, hm] at HNx; have k0 : (0 : Int) ≤ (c : Int) := by omega
 have k1 : (c : Int) < 8 := by omega
 have HP := Z0 hpd; have HR := Z0 hrd; have HTb := Z0 (ht.quiet ((Out.refl 0 0 w).drew)); have HC := Z0 hc; have HD : Hid (hi ≤ B ∧ B ≤ G ∧ 4 ≤ lo ∧ lo ≤ hi) := ⟨hB, hG, h.glob, by have := h.inn 14 (by omega); simp [ln] at this; omega⟩
 rw [hy] at p2; have HY := Z0 hy; obtain ⟨x, hx⟩ : ∃ x, fs c = x := ⟨_, rfl⟩
 rw [hx] at p3 hf; obtain ⟨bv, hbv, hbl⟩ : ∃ bv : Nat, J6 (c : Int) = bv ∧ bv ≤ 32 ∧ 1 ≤ bv := by obtain ⟨x', y', h1, h2, h3, h4⟩ := z0c hc; exact ⟨y', h3, by omega, by omega⟩
 have HBl := Z0 (fun w' => U5 (z5e (c : Int) w') (Out.refl 0 0 w')); rw [hbv] at HBl ⊢; have b0 : (1 : Int) ≤ (bv : Int) := by omega
 have b1 : (bv : Int) ≤ 32 := by omega
 obtain ⟨E, hE⟩ : ∃ E, tcE T n (c : Int) = E := ⟨_, rfl⟩
 have HE := Z0 hE; rw [hE]; clear hp hpd hc hx hrd h hm hy ht hB hG hbv hbl hE; go_enter Tryz.func106, Tryz.ntmps106
 go_wp2_with fail; refine wp_region_held_drew (S := fun w' => w'.cell? ⟨G, 0, none⟩ = some (.pointer (some ⟨s 14, 0, none⟩)) ∧ w'.cell? ⟨s 14, 4 + c, none⟩ = some (.pointer (some ⟨s c + 1, 0, none⟩)) ∧ w'.cell? ⟨G, 2 + c, none⟩ = some (.int .i64 (y : Int))) (by kernel_rfl) ?hS31 (fun hHeld => ?rest31)
 case hS31 => exact ⟨p0, dF, p2⟩
 refine tk 0 ?_; refine tk 1 ?_; refine tk 2 ?_; refine tk 3 ?_; refine tk 4 ?_; refine tk 5 ?_; refine tk 6 ?_; refine tk 7 ?_; refine tk 8 ?_; refine tk 9 ?_; refine tk 10 ?_; refine tk 11 ?_; refine tk 12 ?_; refine tk 13 ?_; refine tk 14 ?_; refine rd1 15 fun KK hK => ?_
 simp only [xa, xb, xc]; go_simp; refine (HNx.out).mono ?_; rintro e w4 ⟨rfl, hoo⟩; refine hK.out _ _ ?hS47 (fun hHeld2 => ?rest47)
 case hS47 => exact ⟨hoo.cell hHeld.1 z0, hoo.cell hHeld.2.1 z0, hoo.cell hHeld.2.2 z0⟩
 clear hK KK; replace hHeld := hHeld2; clear hHeld2; refine tk 16 ?_; refine dn ?_; clear hHeld; have HP4 := Z0 (HP.out.kept hoo z0); have HR4 := Z0 (HR.out.quiet hoo); have HPg := Z0 (z4c (HR.out.quiet hoo) HD.out.1 HD.out.2.1 HP4.out (HTb.out.quiet hoo)); have HOO := Z0 (((Out.refl 0 0 w).drew).trans hoo); clear p0 p2 p3 dF hoo; by_cases hE0 : E = 0
 ·subst hE0; go_wp2_with (first
   | (go_at_call 104; refine HPg.out.mono ?_; rintro e w5 ⟨b, bw, rfl, hT5, h51, h52, h53, h54, hp5, ho5⟩; have HT5 := Z0 hT5; have HB5 : Hid (B ≤ b ∧ B ≤ bw ∧ b ≠ G ∧ bw ≠ G) := ⟨h51, h52, h53, h54⟩; have HP5 := Z0 hp5; have HR5 := Z0 (HR4.out.kept ho5 (.inl (by have := HD.out; omega)) (.inl (by have := HD.out; omega))); have HO5 := Z0 ho5; clear hT5 h51 h52 h53 h54 hp5 ho5)
   | (go_at_call 143; refine (z2b HT5.out HR5.out.tab (c : Int)).mono ?_; rintro e w6 ⟨rfl, hT6, ho6⟩; have HT6 := Z0 hT6; have HO6 := Z0 ho6; have HP6 := Z0 (HP5.out.kept ho6 (by have := HB5.out; omega)); rw [HE.out]; clear hT6 ho6))
  have HWB : Hid (IntKind.i64.wrap ((bv : Int) - 1) = (bv : Int) - 1) := by show _ = _; simp [IntKind.wrap, IntKind.signed, IntKind.bits]; omega
  refine wp_region_held_drew (S := fun _ => True) (by kernel_rfl) ?hS49 (fun hHeld => ?rest49)
  case hS49 => trivial
  refine tk 0 ?_; refine tk 1 ?_; refine tk 2 ?_; refine tk 5 ?_; refine tk 6 ?_; refine rd1 3 fun KK hK => ?_
  simp only [xa, xb, xc]; go_simp; refine (HBl.out _).mono ?_; rintro e w7 ⟨rfl, ho7⟩; have HP7 := Z0 (HP6.out.kept (((Out.refl 0 0 _).drew).trans ho7) z0); have e0 := (U0 HP7.out).2.2.2 c HC.out; have e1 := Row.frozen HP7.out (10 + c); have HO7 := Z0 ho7; clear ho7; refine hK.out _ _ ?hS55 (fun hHeld2 => ?rest55)
  case hS55 => trivial
  clear hK KK; replace hHeld := hHeld2; clear hHeld2; refine tk 4 ?_; refine tk 7 ?_; refine rd1 8 fun KK hK => ?_
  simp only [xa, xb, xc]; go_simp; refine hK.out _ _ ?hS58 (fun hHeld2 => ?rest58)
  case hS58 => trivial
  clear hK KK; replace hHeld := hHeld2; clear hHeld2; refine dn ?_; clear hHeld; go_wp2; go_ret; (try rw [HWB.out]); have hset := (Out.refl G (G + 1) w7).setCell (p := ⟨G, 10 + c, none⟩) z1 (.int .i64 ((bv : Int) - 1)); have hd := HD.out; have hb := HB5.out; have ho7 : Out 0 0 w6 w7 := ((Out.refl 0 0 w6).drew).trans HO7.out; have z5 := Row.lt HP5.out; have z6 := HO6.out.size; have z7 := ho7.size; have z8 := hset.size; have zb := Row.lt HT6.out.row; refine ⟨K8 (by simp), _, q6f HP7.out HC.out _, .inr ⟨b, bw, rfl, (HT6.out.kept ho7 z0 z0).kept hset (by omega) (by omega), by omega, by omega, by omega, by omega⟩, ?_⟩; exact ((((HOO.out.any _ _).trans (HO5.out.wide (by omega) (by omega))).trans (HO6.out.wide (by omega) (by omega))).trans (ho7.any _ _)).trans (hset.wide (by omega) (by omega))
 ·go_wp2_with (first
   | (go_at_call 104; refine HPg.out.mono ?_; rintro e w5 ⟨b, bw, rfl, hT5, h51, h52, h53, h54, hp5, ho5⟩; have HT5 := Z0 hT5; have HB5 : Hid (B ≤ b ∧ B ≤ bw ∧ b ≠ G ∧ bw ≠ G) := ⟨h51, h52, h53, h54⟩; have HP5 := Z0 hp5; have HR5 := Z0 (HR4.out.kept ho5 (.inl (by have := HD.out; omega)) (.inl (by have := HD.out; omega))); have HO5 := Z0 ho5; clear hT5 h51 h52 h53 h54 hp5 ho5)
   | (go_at_call 143; refine (z2b HT5.out HR5.out.tab (c : Int)).mono ?_; rintro e w6 ⟨rfl, hT6, ho6⟩; have HT6 := Z0 hT6; have HO6 := Z0 ho6; have HP6 := Z0 (HP5.out.kept ho6 (by have := HB5.out; omega)); rw [HE.out]; clear hT6 ho6))
  go_ret; have hd := HD.out; have hb := HB5.out; have z5 := Row.lt HP5.out; have z6 := HO6.out.size; have zb := Row.lt HT6.out.row; refine ⟨K8 (by simp [hE0]), _, HP6.out, .inr ⟨b, bw, rfl, HT6.out, by omega, by omega, by omega, by omega⟩, ?_⟩; exact ((HOO.out.any _ _).trans (HO5.out.wide (by omega) (by omega))).trans (HO6.out.wide (by omega) (by omega))
end
theorem TbAt.kept {w w' : World} {B G n : Nat} {S T : Nat → Int × Int × Int} {tb : Value} (h : TbAt w B G n S T tb) (o : Out G (G + 1) w w') : TbAt w' B G n S T tb := by
 rcases h with h | ⟨b, bw, h1, h2, h3, h4, h5, h6⟩
 ·exact .inl h
 ·exact .inr ⟨b, bw, h1, h2.kept o (by omega) (by omega), h3, h4, h5, h6⟩
structure PlOk (n : Nat) (fr fs : Nat → Int) : Prop where
 fr : ∀ c, c < 8 → 0 ≤ fr c ∧ fr c ≤ 64 * (n : Int)
 fs : ∀ c, c < 8 → 0 ≤ fs c ∧ fs c ≤ 32
section
variable {w : World} {lo hi n cap : Nat} {s : Nat → Nat} {r : Raw} {B G : Nat} {T : Nat → Int × Int × Int} {tb : Value} {fr fs : Nat → Int}
theorem z9y (h : RawAt w lo hi s n cap r) (hB : hi ≤ B) (hG : B ≤ G) (hp : Row w G 105 18 (plF (s 14) tb fr fs)) (ht : TbAt w B G n r.S T tb) (hk : PlOk n fr fs) {c : Nat} (hc : c < 8) :
  Calls Tryz.prog 106 #[.pointer (some ⟨G, 0, none⟩), .int .i64 (c : Int)] w fun e w' => ∃ tb', e = .returned (.bool (plB n r T fr fs c).1) ∧ Row w' G 105 18 (plF (s 14) tb' (plB n r T fr fs c).2.2.1 (plB n r T fr fs c).2.2.2) ∧ TbAt w' B G n r.S (plB n r T fr fs c).2.1 tb' ∧ Out B w'.heap.size w w' := by
 have hf := hk.fs c hc; obtain ⟨y, hy⟩ : ∃ y : Nat, fr c = (y : Int) := ⟨(fr c).toNat, by have := hk.fr c hc; omega⟩
 have hGl := Row.lt hp; unfold plB; by_cases h1 : 0 < fs c
 ·rw [if_pos h1]; refine (j0n hp hc h1 hf.2).mono ?_; rintro e w' ⟨rfl, h2, h3⟩; exact ⟨tb, rfl, h2, ht.kept h3, h3.wide hG (by have := h3.size; omega)⟩
 ·rw [if_neg h1]; rw [hy, show ((y : Int)).toNat = y from by omega]; rcases Q1 (r.F c) (64 * n) y with ⟨e1, _⟩ | ⟨m, e1, e2, _⟩
  ·rw [e1, if_neg (by omega)]; refine (j4s h hB hG hp ht hc (by omega) hy e1).mono ?_; rintro e w' ⟨tb', rfl, h2, h3, h4⟩; by_cases h5 : tcE T n (c : Int) = 0
   ·rw [if_pos h5] at h2 ⊢; rw [h5]; exact ⟨tb', rfl, h2, h3, h4⟩
   ·rw [if_neg h5] at h2 ⊢; exact ⟨tb', by rw [show (tcE T n (c : Int) == 0) = false from by simpa using h5], h2, h3, h4⟩
  ·rw [e1, if_pos (by omega)]; refine (j5o h hp hc (by omega) hy e1 e2).mono ?_; rintro e w' ⟨rfl, h2, h3⟩; exact ⟨tb, rfl, h2, ht.kept h3, h3.wide hG (by have := h3.size; omega)⟩
def plT (n : Nat) (r : Raw) (T : Nat → Int × Int × Int) (fr fs : Nat → Int) (z : Int) : Bool × (Nat → Int × Int × Int) × (Nat → Int) × (Nat → Int) :=
 if 0 < J4 z then (trE T n (J4 z) == 0, trS T n (J4 z), fr, fs)
 else if 0 ≤ ofV z then plB n r T fr fs (ofV z).toNat
 else (false, T, fr, fs)
theorem q2f (h : RawAt w lo hi s n cap r) (hB : hi ≤ B) (hG : B ≤ G) (hp : Row w G 105 18 (plF (s 14) tb fr fs)) (ht : TbAt w B G n r.S T tb) (hk : PlOk n fr fs) (z : Int) :
  Calls Tryz.prog 59 #[.pointer (some ⟨G, 0, none⟩), .int .i64 z] w fun e w' => ∃ tb', e = .returned (.bool (plT n r T fr fs z).1) ∧ Row w' G 105 18 (plF (s 14) tb' (plT n r T fr fs z).2.2.1 (plT n r T fr fs z).2.2.2) ∧ TbAt w' B G n r.S (plT n r T fr fs z).2.1 tb' ∧ Out B w'.heap.size w w' := by
 have HP := Z0 hp; have HR := Z0 h; have HTb := Z0 ht; have HK := Z0 hk; have HD : Hid (hi ≤ B ∧ B ≤ G ∧ 4 ≤ lo ∧ lo ≤ hi) := ⟨hB, hG, h.glob, by have := h.inn 14 (by omega); simp [ln] at this; omega⟩
 have HPz := Z0 (U5 (z3x z w) (Out.refl 0 0 w)); have HOf := Z0 (fun w' => U5 (q1c z w') (Out.refl 0 0 w')); unfold plT; clear h hB hG hp ht hk; by_cases h1 : 0 < J4 z
 ·rw [if_pos h1]; obtain ⟨m, hm⟩ : ∃ m, J4 z = m := ⟨_, rfl⟩
  rw [hm] at h1 HPz ⊢; obtain ⟨E, hE⟩ : ∃ E, trE T n m = E := ⟨_, rfl⟩
  have HE := Z0 hE; rw [hE]; clear hm hE; go_enter Tryz.func59, Tryz.ntmps59
  go_wp2_with (first
   | (go_at_call 93; refine HPz.out.mono ?_; rintro e w4 ⟨rfl, hoo⟩; have HP4 := Z0 (HP.out.kept hoo z0); have HR4 := Z0 (HR.out.quiet hoo); have HPg := Z0 (z4c (HR.out.quiet hoo) HD.out.1 HD.out.2.1 HP4.out (HTb.out.quiet hoo)); have HOO := Z0 hoo; clear hoo)
   | (go_at_call 104; refine HPg.out.mono ?_; rintro e w5 ⟨b, bw, rfl, hT5, h51, h52, h53, h54, hp5, ho5⟩; have HT5 := Z0 hT5; have HB5 : Hid (B ≤ b ∧ B ≤ bw ∧ b ≠ G ∧ bw ≠ G) := ⟨h51, h52, h53, h54⟩; have HP5 := Z0 hp5; have HR5 := Z0 (HR4.out.kept ho5 (.inl (by have := HD.out; omega)) (.inl (by have := HD.out; omega))); have HO5 := Z0 ho5; clear hT5 h51 h52 h53 h54 hp5 ho5)
   | (go_at_call 105; refine (z7a HT5.out HR5.out.tab m).mono ?_; rintro e w6 ⟨rfl, hT6, ho6⟩; have HT6 := Z0 hT6; have HO6 := Z0 ho6; have HP6 := Z0 (HP5.out.kept ho6 (by have := HB5.out; omega)); rw [HE.out]; clear hT6 ho6))
  go_ret; have hd := HD.out; have hb := HB5.out; have z5 := Row.lt HP5.out; have z6 := HO6.out.size; have zb := Row.lt HT6.out.row; refine ⟨_, ?_, HP6.out, .inr ⟨b, bw, rfl, HT6.out, by omega, by omega, by omega, by omega⟩, ?_⟩
  ·exact K8 rfl
  ·exact ((HOO.out.any _ _).trans (HO5.out.wide (by omega) (by omega))).trans (HO6.out.wide (by omega) (by omega))
 ·rw [if_neg h1]; obtain ⟨m, hm⟩ : ∃ m, J4 z = m := ⟨_, rfl⟩
  have h1' : m ≤ 0 := by omega
  by_cases h2 : 0 ≤ ofV z
  ·rw [if_pos h2]; obtain ⟨c, hc, hc8⟩ := j4c z h1 h2; rw [hc] at HOf ⊢; rw [show ((c : Int)).toNat = c from by omega]; rw [hm] at HPz; have k0 : (0 : Int) ≤ (c : Int) := by omega
   have HC := Z0 hc8; obtain ⟨⟨ok, T', fr', fs'⟩, hq⟩ : ∃ q, plB n r T fr fs c = q := ⟨_, rfl⟩
   have HQ := Z0 hq; rw [hq]; clear h1 h2 hm hc hc8 hq; dsimp only; go_enter Tryz.func59, Tryz.ntmps59
   go_wp2_with (first
    | (go_at_call 93; refine HPz.out.mono ?_; rintro e w4 ⟨rfl, hoo⟩; have HOO := Z0 hoo; clear hoo)
    | (go_at_call 96; refine (HOf.out _).mono ?_; rintro e w5 ⟨rfl, ho5⟩; have HO5 := Z0 (HOO.out.trans ho5); clear ho5; have HBk := Z0 (z9y (HR.out.quiet HO5.out) HD.out.1 HD.out.2.1 (HP.out.kept HO5.out z0) (HTb.out.quiet HO5.out) HK.out HC.out); rw [HQ.out] at HBk)
    | (go_at_call 106; refine HBk.out.mono ?_; rintro e w6 ⟨tb', rfl, hp6, ht6, ho6⟩; have HP6 := Z0 hp6; have HT6 := Z0 ht6; have HO6 := Z0 ho6; clear hp6 ht6 ho6; dsimp only))
   go_ret; exact ⟨_, rfl, HP6.out, HT6.out, (HO5.out.any _ _).trans HO6.out⟩
  ·rw [if_neg h2]; obtain ⟨o, ho⟩ : ∃ o, ofV z = o := ⟨_, rfl⟩
   rw [ho] at HOf h2; rw [hm] at HPz; have h2' : o < 0 := by omega
   clear h1 h2 hm ho; dsimp only; go_enter Tryz.func59, Tryz.ntmps59
   go_wp2_with (first
    | (go_at_call 93; refine HPz.out.mono ?_; rintro e w4 ⟨rfl, hoo⟩; have HOO := Z0 hoo; clear hoo)
    | (go_at_call 96; refine (HOf.out _).mono ?_; rintro e w5 ⟨rfl, ho5⟩; have HO5 := Z0 (HOO.out.trans ho5); clear ho5))
   go_ret; exact ⟨rfl, _, HP.out.kept HO5.out z0, HTb.out.quiet HO5.out, HO5.out.any _ _⟩
end
theorem x0u {n : Nat} {r : Raw} {T : Nat → Int × Int × Int} {fr fs : Nat → Int} (h : PlOk n fr fs) {c : Nat} (hc : c < 8) : PlOk n (plB n r T fr fs c).2.2.1 (plB n r T fr fs c).2.2.2 := by
 unfold plB; by_cases h1 : 0 < fs c
 ·rw [if_pos h1]; refine ⟨h.fr, fun d hd => ?_⟩
  show 0 ≤ z3k fs c (fs c - 1) d ∧ z3k fs c (fs c - 1) d ≤ 32
  unfold z3k; by_cases e : d = c
  ·rw [if_pos e]; have := h.fs c hc; omega
  ·rw [if_neg e]; exact h.fs d hd
 ·rw [if_neg h1]; rcases Q1 (r.F c) (64 * n) (fr c).toNat with ⟨e1, _⟩ | ⟨m, e1, e2, _⟩
  ·rw [e1, if_neg (by omega)]; by_cases h5 : tcE T n (c : Int) = 0
   ·rw [if_pos h5]; refine ⟨h.fr, fun d hd => ?_⟩
    show 0 ≤ z3k fs c (J6 (c : Int) - 1) d ∧ z3k fs c (J6 (c : Int) - 1) d ≤ 32
    unfold z3k; by_cases e : d = c
    ·rw [if_pos e]; obtain ⟨x', y', h1, h2, h3, h4⟩ := z0c hc; omega
    ·rw [if_neg e]; exact h.fs d hd
   ·rw [if_neg h5]; exact h
  ·rw [e1, if_pos (by omega)]; refine ⟨fun d hd => ?_, h.fs⟩
   show 0 ≤ z3k fr c ((m : Int) + 1) d ∧ z3k fr c ((m : Int) + 1) d ≤ 64 * (n : Int)
   unfold z3k; by_cases e : d = c
   ·rw [if_pos e]; omega
   ·rw [if_neg e]; exact h.fr d hd
theorem x2f {n : Nat} {r : Raw} {T : Nat → Int × Int × Int} {fr fs : Nat → Int} (h : PlOk n fr fs) (z : Int) : PlOk n (plT n r T fr fs z).2.2.1 (plT n r T fr fs z).2.2.2 := by
 unfold plT; by_cases h1 : 0 < J4 z
 ·rw [if_pos h1]; exact h
 ·rw [if_neg h1]; by_cases h2 : 0 ≤ ofV z
  ·rw [if_pos h2]; obtain ⟨c, hc, hc8⟩ := j4c z h1 h2; rw [hc, show ((c : Int)).toNat = c from by omega]; exact x0u h hc8
  ·rw [if_neg h2]; exact h
def z5d (n : Nat) (r : Raw) : (Nat → Int × Int × Int) → (Nat → Int) → (Nat → Int) → List Int → Bool
 | _, _, _, [] => true
 | T, fr, fs, z :: l => (plT n r T fr fs z).1 && z5d n r (plT n r T fr fs z).2.1 (plT n r T fr fs z).2.2.1 (plT n r T fr fs z).2.2.2 l
section
variable {w : World} {lo hi n cap : Nat} {s : Nat → Nat} {r : Raw}
theorem q8g (h : RawAt w lo hi s n cap r) {l : List Int} {p : Option Addr} {cp : Nat} (hl : z5u w p l) (hll : (l.length : Int) < 9223372036854775807) :
  Calls Tryz.prog 23 #[.pointer (some ⟨s 14, 0, none⟩), .slice p l.length cp] w fun e w' => e = .returned (.bool (z5d n r r.S (fun _ => 0) (fun _ => 0) l)) ∧ Out 0 0 w w' := by
 have HR := Z0 h; have HLi := Z0 hl; have HT : Hid (hi ≤ w.heap.size ∧ 4 ≤ w.heap.size) := ⟨h.top, h.tab.lt⟩
 clear h hl; go_enter Tryz.func23, Tryz.ntmps23
 go_wp2_with (go_at_call 44; refine Z5 (z0f _ _) ?_); obtain ⟨W1, hW1⟩ : ∃ W1, w.alloc (.cells #[.pointer (some ⟨s 14, 0, none⟩), .pointer none, .int .i64 0, .int .i64 0, .int .i64 0, .int .i64 0, .int .i64 0, .int .i64 0, .int .i64 0, .int .i64 0, .int .i64 0, .int .i64 0, .int .i64 0, .int .i64 0, .int .i64 0, .int .i64 0, .int .i64 0, .int .i64 0] 105) = W1 := ⟨_, rfl⟩
 obtain ⟨G, hG⟩ : ∃ G, w.heap.size = G := ⟨_, rfl⟩
 have HO1 : Hid (Out 0 0 w W1) := by rw [← hW1]; exact (Out.refl 0 0 w).alloc _
 have HP1 : Hid (Row W1 G 105 18 (plF (s 14) (.pointer none) (fun _ => 0) (fun _ => 0))) := by
  rw [← hW1, ← hG]; refine ⟨_, heap_alloc_new _ _, by simp, fun i hi => ?_⟩; have : i = 0 ∨ i = 1 ∨ i = 2 ∨ i = 3 ∨ i = 4 ∨ i = 5 ∨ i = 6 ∨ i = 7 ∨ i = 8 ∨ i = 9 ∨ i = 10 ∨ i = 11 ∨ i = 12 ∨ i = 13 ∨ i = 14 ∨ i = 15 ∨ i = 16 ∨ i = 17 := by omega
  rcases this with rfl | rfl | rfl | rfl | rfl | rfl | rfl | rfl | rfl | rfl | rfl | rfl | rfl | rfl | rfl | rfl | rfl | rfl <;> rfl
 rw [hW1, hG]; rw [hG] at HT; have HGw := Z0 hG; clear hW1 hG; go_loopw [13] (fun u wr => ∃ (i : Nat) (T : Nat → Int × Int × Int) (fr fs : Nat → Int) (tb : Value), u = .int .i64 (i : Int) ∧ i ≤ l.length ∧ PlOk n fr fs ∧ RawAt wr lo hi s n cap r ∧ Row wr G 105 18 (plF (s 14) tb fr fs) ∧ TbAt wr G G n r.S T tb ∧ z5d n r r.S (fun _ => 0) (fun _ => 0) l = z5d n r T fr fs (l.drop i) ∧ Out 0 0 w wr) (fun u _ => ((l.length : Int) - intOf u).toNat)
 case atStart => exact ⟨0, r.S, fun _ => 0, fun _ => 0, .pointer none, rfl, Nat.zero_le _, ⟨fun c _ => ⟨Int.le_refl _, by omega⟩, fun c _ => ⟨Int.le_refl _, by omega⟩⟩, HR.out.quiet HO1.out, HP1.out, .inl ⟨rfl, rfl⟩, rfl, HO1.out⟩
 case round =>
  clear HP1 HO1; obtain ⟨i, T, fr, fs, tb, rfl, i1, i2, i3, i4, i5, i6, i7⟩ := hrel; have j0 : (0 : Int) ≤ (i : Int) := by omega
  by_cases hlt : (i : Int) < (l.length : Int)
  ·obtain ⟨g, rfl, hg, hgc⟩ : ∃ g, p = some ⟨g, 0, none⟩ ∧ g < w.heap.size ∧ ∀ j, j < l.length → w.cell? ⟨g, j, none⟩ = some (.int .i64 (l[j]?.getD 0)) := by
    rcases HLi.out with e | e
    ·rw [e] at hlt; simp at hlt; omega
    ·exact e
   have q0 := i7.cell (hgc i (by omega)) z0; obtain ⟨z, hz⟩ : ∃ z, l[i]?.getD 0 = z := ⟨_, rfl⟩
   rw [hz] at q0; have hdr : l.drop i = z :: l.drop (i + 1) := by
    rw [List.drop_eq_getElem_cons (by omega)]; rw [List.getElem?_eq_getElem (by omega)] at hz; simp at hz; rw [hz]
   rw [hdr] at i6; have hpk := x2f (r := r) (T := T) i2 z; have HTk := Z0 (q2f i3 HT.out.1 (Nat.le_refl G) i4 i5 i2 z); rw [show z5d n r T fr fs (z :: l.drop (i + 1)) = ((plT n r T fr fs z).1 && z5d n r (plT n r T fr fs z).2.1 (plT n r T fr fs z).2.2.1 (plT n r T fr fs z).2.2.2 (l.drop (i + 1))) from rfl] at i6; obtain ⟨⟨ok, T', fr', fs'⟩, hq⟩ : ∃ q, plT n r T fr fs z = q := ⟨_, rfl⟩
   rw [hq] at HTk hpk i6; dsimp only at HTk hpk i6; have A := Z0 (And.intro i3 (And.intro i7 (And.intro hpk i6))); clear i2 i3 i4 i5 i6 i7 hz hdr hq hpk hg hgc; cases ok with
   | true =>
    go_wp2_with (go_at_call 59; refine HTk.out.mono ?_; rintro e w6 ⟨tb', rfl, hp6, ht6, ho6⟩; have HP6 := Z0 hp6; have HT6 := Z0 ht6; have HO6 := Z0 ho6; clear hp6 ht6 ho6); have hgw := HGw.out; have hT := HT.out; exact ⟨⟨i + 1, T', fr', fs', tb', by congr 1, by omega, A.out.2.2.1, A.out.1.kept HO6.out (.inl (by omega)) (.inl (by omega)), HP6.out, HT6.out, by rw [A.out.2.2.2]; rfl, A.out.2.1.past HO6.out (by omega)⟩, by simp [intOf]; omega⟩
   | false =>
    go_wp2_with (go_at_call 59; refine HTk.out.mono ?_; rintro e w6 ⟨tb', rfl, hp6, ht6, ho6⟩; have HO6 := Z0 ho6; clear hp6 ht6 ho6); go_ret; have hgw := HGw.out; exact ⟨K8 (by rw [A.out.2.2.2]; rfl), A.out.2.1.past HO6.out (by omega)⟩
  ·have e : i = l.length := by omega
   subst e; rw [List.drop_length] at i6; have A := Z0 (And.intro i6 i7); clear i2 i3 i4 i5 i6 i7; go_wp2; go_ret; exact ⟨K8 (by rw [A.out.1]; rfl), A.out.2⟩
end
def Rt (n : Nat) (st : Sp) : Prop := (∀ c a, fr n st c a = true → st.W a = Y7 (nf n st c (a + 1))) ∧ ∀ a, Q7 (st.O a) = true → st.W a = X9 a (st.O a).1 (st.O a).2.1
theorem j4b {n : Nat} {st : Sp} (hi : Inv n st) {c : Int} {i a : Nat} (hf : fr n st c i = true) (ha : Q7 (st.O a) = true) : i < a ∨ a + J3 (st.O a).2.1 ≤ i := by
 obtain ⟨f1, f2, f3, f4⟩ := fr_iff.1 hf; obtain ⟨h1, h2, h3⟩ := hi.objs a ha; have hz := J8 h2; by_cases hlt : i < a
 ·exact .inl hlt
 right
 rcases h3 with ⟨s1, s2, s3⟩ | ⟨s1, s2, s3⟩
 ·rw [z1r s1]; have hc := W9 hz.2.2.1 s1; have hw := z4l hc.1 hc.2.1; unfold K7 at s3; rw [Bool.and_eq_true] at s3; have s4 : a % 64 % wN (ofV (st.O a).2.1) = 0 := by simpa using s3.1
  have s5 : a % 64 + wN (ofV (st.O a).2.1) ≤ 64 := by simpa using s3.2
  by_cases hge : a + wN (ofV (st.O a).2.1) ≤ i
  ·exact hge
  exfalso
  have hp : i / 64 = a / 64 := by omega
  rw [hp, s2] at f2; have hcc : c = ofV (st.O a).2.1 := by simp at f2; exact f2.symm
  rw [hcc] at f3; unfold K7 at f3; rw [Bool.and_eq_true] at f3; have s6 : i % 64 % wN (ofV (st.O a).2.1) = 0 := by simpa using f3.1
  by_cases he : i = a
  ·rw [he, ha] at f4; cases f4
  ·have := q6i (by omega) s4 s6 (by omega); omega
 ·rw [z3c s1]; obtain ⟨k1, k2, k3⟩ := z6f s1 hz.2.2.2; by_cases hge : a + (((st.O a).2.1 + 63) / 64).toNat * 64 ≤ i
  ·exact hge
  exfalso
  have hp := hi.good (a / 64) (by omega); unfold PgOk at hp; rw [s3] at hp; rcases hp with e | ⟨c', _, _, e⟩ | ⟨k, _, _, e3, e4, e5⟩ | ⟨e, _⟩
  ·simp at e
  ·simp at e
  ·have e4' : (((st.O a).2.1 + 63) / 64) = (k : Int) := by simp at e4; exact e4
   by_cases he : i / 64 = a / 64
   ·rw [he, s3] at f2; simp at f2
   ·have := e5 (i / 64) (by omega) (by omega); rw [this] at f2; simp at f2
  ·simp at e
theorem j9p {n : Nat} {st : Sp} (hi : Inv n st) {a b : Nat} (ha : Q7 (st.O a) = true) (hb : Q7 (st.O b) = true) (hne : b ≠ a) : b < a ∨ a + J3 (st.O a).2.1 ≤ b := by
 have hP : ∀ x, Q7 (st.O x) = true → (Z6 n st).P x = true := fun x hx => by show ob n st x = true; rw [z9j hi]; exact hx
 have hM : (Z6 n st).M (a : Int) = some (st.O a) := by
  show obM st (a : Int) = _
  unfold obM; rw [show ((a : Int)).toNat = a from by omega, if_pos ⟨by omega, ha⟩]
 by_cases h : b < a
 ·exact .inl h
 ·exact .inr ((z3i hi a _ (hP a ha) hM).2.2.2 b (by omega) (hP b hb))
section
variable {n a : Nat} {st : Sp} {fresh : Bool} {kd z t : Int}
theorem z8g : U4 st.O a (kd, z, Q9 st kd, t) a = (kd, z, Q9 st kd, t) := by unfold U4; rw [if_pos rfl]
theorem j9b {i : Nat} (h : i ≠ a) : U4 st.O a (kd, z, Q9 st kd, t) i = st.O i := by unfold U4; rw [if_neg h]
theorem j9x {W1 : Nat → Int} (hi' : Inv n (V8 n st a fresh kd z t)) (hW : (V8 n st a fresh kd z t).W = z5b (U9 W1 a (J3 z)) a (X9 a kd z)) (hf : W8 kd z = true)
  (hl : ∀ c i, fr n (V8 n st a fresh kd z t) c i = true → W1 i = Y7 (nf n (V8 n st a fresh kd z t) c (i + 1)))
  (hh : ∀ b, b ≠ a → Q7 (st.O b) = true → W1 b = X9 b (st.O b).1 (st.O b).2.1) : Rt n (V8 n st a fresh kd z t) := by
 have hk := J8 hf; have hO : (V8 n st a fresh kd z t).O = U4 st.O a (kd, z, Q9 st kd, t) := rfl; have hba : Q7 ((V8 n st a fresh kd z t).O a) = true := by rw [hO, z8g]; unfold Q7; simp; omega
 have hra : ((V8 n st a fresh kd z t).O a).2.1 = z := by rw [hO, z8g]
 have hw : 1 ≤ J3 z := by
  by_cases h : z ≤ 32
  ·rw [z1r h]; have hc := W9 hk.2.2.1 h; have := z4l hc.1 hc.2.1; omega
  ·rw [z3c (by omega)]; have := z6f (s := z) (by omega) hk.2.2.2; omega
 have out : ∀ i, (i < a ∨ a + J3 z ≤ i) → (V8 n st a fresh kd z t).W i = W1 i := by
  intro i h; rw [hW]; unfold z5b U9; rw [if_neg (by omega), if_neg (by omega)]
 refine ⟨fun c i h => ?_, fun b h => ?_⟩
 ·have := j4b hi' h hba; rw [hra] at this; rw [out i this]; exact hl c i h
 ·by_cases e : b = a
  ·subst e; rw [hO, z8g, hW]; unfold z5b; rw [if_pos rfl]
  ·have := j9p hi' hba h e; rw [hra] at this; rw [out b this]; rw [hO, j9b e] at h ⊢; exact hh b e h
theorem x1q {p : Nat} (hi : Inv n st) (hR : Rt n st) (hf : W8 kd z = true) (h32 : 32 < z) (hr : U2 st.S n ((z + 63) / 64).toNat = some p) : Rt n (V8 n st (64 * p) false kd z t) := by
 obtain ⟨t1, t2, t3, t4⟩ := z3j (t := t) hi hf h32 hr; refine j9x (W1 := st.W) t1 rfl hf (fun c i h => ?_) (fun b _ h => hR.2 b h); unfold nf; rw [t2] at h ⊢; exact hR.1 c i h
theorem j5e (hi : Inv n st) (hR : Rt n st) (hf : W8 kd z = true) (h32 : z ≤ 32) (ha : fr n st (ofV z) a = true) (hmin : ∀ j, j < a → fr n st (ofV z) j = false) : Rt n (V8 n st a false kd z t) := by
 obtain ⟨t1, t2, t3⟩ := z0t (t := t) hi hf h32 ha; refine j9x (W1 := st.W) t1 rfl hf (fun c i h => ?_) (fun b _ h => hR.2 b h); unfold nf; rw [t2] at h ⊢; have hia : i ≠ a := by rintro rfl; unfold upd at h; rw [if_pos rfl] at h; cases h
 have hfi : fr n st c i = true := by unfold upd at h; rw [if_neg hia] at h; exact h
 rw [hR.1 c i hfi]; unfold nf; congr 1
 refine z2m fun j j1 j2 => ?_
 unfold upd; by_cases e : j = a
 ·rw [if_pos e, e]; by_cases ec : c = ofV z
  ·exfalso
   subst ec; have := hmin i (by omega); rw [hfi] at this; cases this
  ·exact t3 c ec
 ·rw [if_neg e]
theorem j4y {p : Nat} (hi : Inv n st) (hR : Rt n st) (hf : W8 kd z = true) (h32 : z ≤ 32) (hr : U2 st.S n 1 = some p) : Rt n (V8 n st (64 * p) true kd z t) := by
 obtain ⟨t1, t2, t3, t4, t5⟩ := z0v (t := t) hi hf h32 hr; obtain ⟨st2, hst2⟩ : ∃ q : Sp, q = ⟨U9 st.W (64 * p) 64, Y0 st (64 * p) true z, U4 st.O (64 * p) (kd, z, Q9 st kd, t), 0⟩ := ⟨_, rfl⟩
 have hfr : ∀ c, fr n st2 c = fr n (V8 n st (64 * p) true kd z t) c := fun c => by rw [hst2]; rfl
 refine j9x (W1 := z8m n st2 (ofV z)) t1 (by rw [hst2]; rfl) hf (fun c i h => ?_) (fun b hb h => ?_)
 ·unfold z8m nf; rw [hfr]; by_cases ec : c = ofV z
  ·rw [← ec, if_pos h]
  ·have hz := t2 (ofV z) i; have hcc := t2 c i; rw [h] at hcc; by_cases ei : i / 64 = p
   ·rw [if_pos ei, show decide (c = ofV z) = false from by simp [ec]] at hcc; cases hcc
   ·rw [if_neg ei] at hcc hz; have hno : fr n (V8 n st (64 * p) true kd z t) (ofV z) i = false := by
     rw [hz]; cases e : fr n st (ofV z) i with
     | false => rfl
     | true =>
      have a1 := (fr_iff.1 e).2.1; have a2 := (fr_iff.1 hcc.symm).2.1; rw [a1] at a2; simp at a2; exact absurd a2.symm ec
    rw [hno, if_neg (by simp)]; have hWi : st2.W i = st.W i := by rw [hst2]; show U9 st.W (64 * p) 64 i = _; unfold U9; rw [if_neg (by omega)]
    rw [hWi, hR.1 c i hcc.symm]; unfold nf; congr 1
    refine z2m fun j j1 j2 => ?_
    rw [t2 c j]; by_cases ej : j / 64 = p
    ·rw [if_pos ej, show decide (c = ofV z) = false from by simp [ec]]; cases e : fr n st c j with
     | false => rfl
     | true =>
      have a1 := (fr_iff.1 e).2.1; rw [ej, t5] at a1; simp at a1
    ·rw [if_neg ej]
 ·have hbp : b / 64 ≠ p := fun e => by rw [t3 b e] at h; cases h
  have hno : fr n st2 (ofV z) b = false := by
   rw [hfr, t2, if_neg hbp]; cases e : fr n st (ofV z) b with
   | false => rfl
   | true => have := (fr_iff.1 e).2.2.2; rw [h] at this; cases this
  unfold z8m; rw [hno, if_neg (by simp)]; have hWb : st2.W b = st.W b := by rw [hst2]; show U9 st.W (64 * p) 64 b = _; unfold U9; rw [if_neg (by omega)]
  rw [hWb]; exact hR.2 b h
theorem z6r (hi : Inv n st) (hR : Rt n st) (hf : W8 kd z = true) :
  (K5 n st z = none ∧ alF n st kd z t = (0, 20, 0, st)) ∨
  ∃ a fresh, K5 n st z = some (a, fresh) ∧ alF n st kd z t = ((a : Int), 0, 0, V8 n st a fresh kd z t) ∧ Inv n (V8 n st a fresh kd z t) ∧ Rt n (V8 n st a fresh kd z t) ∧ Q7 (st.O a) = false ∧ a + J3 z ≤ 64 * n ∧ a < 64 * n := by
 have hz := J8 hf; unfold alF; rw [if_pos hf]; by_cases h32 : 32 < z
 ·have hpl : K5 n st z = (U2 st.S n ((z + 63) / 64).toNat).map fun p => (64 * p, false) := by unfold K5; rw [if_pos h32]
  cases hr : U2 st.S n ((z + 63) / 64).toNat with
  | none => left; rw [hpl, hr]; exact ⟨rfl, rfl⟩
  | some p =>
   right
   obtain ⟨t1, t2, t3, t4⟩ := z3j (t := t) hi hf h32 hr; have := z6f h32 hz.2.2.2; refine ⟨64 * p, false, by rw [hpl, hr]; rfl, ?_, t1, x1q hi hR hf h32 hr, t3, by rw [z3c h32]; omega, by omega⟩; rw [hpl, hr]; simp only [Option.map_some]; rw [if_neg (by omega)]
 ·have hpl : K5 n st z = if 0 ≤ nf n st (ofV z) 0 then some ((nf n st (ofV z) 0).toNat, false) else (U2 st.S n 1).map fun p => (64 * p, true) := by unfold K5; rw [if_neg h32]
  have hc := W9 hz.2.2.1 (by omega); have hw := z4l hc.1 hc.2.1; rcases Q1 (fr n st (ofV z)) (64 * n) 0 with ⟨e1, e2⟩ | ⟨i, e1, e2, e3, e4, e5⟩
  ·have e1' : nf n st (ofV z) 0 = -1 := e1; rw [e1', if_neg (by omega)] at hpl; cases hr : U2 st.S n 1 with
   | none => left; rw [hpl, hr]; exact ⟨rfl, rfl⟩
   | some p =>
    right
    obtain ⟨t1, t2, t3, t4, t5⟩ := z0v (t := t) hi hf (by omega) hr; refine ⟨64 * p, true, by rw [hpl, hr]; rfl, ?_, t1, j4y hi hR hf (by omega) hr, t3 _ (by omega), by rw [z1r (by omega)]; omega, by omega⟩; rw [hpl, hr]; simp only [Option.map_some]; rw [if_neg (by simp)]
  ·have e1' : nf n st (ofV z) 0 = (i : Int) := e1; rw [e1', if_pos (by omega)] at hpl; simp only [Int.toNat_natCast] at hpl; obtain ⟨t1, t2, t3⟩ := z0t (t := t) hi hf (by omega) e4; obtain ⟨f1, f2, f3, f4⟩ := fr_iff.1 e4; unfold K7 at f3; rw [Bool.and_eq_true] at f3; have f5 : i % 64 + wN (ofV z) ≤ 64 := by simpa using f3.2
   right
   refine ⟨i, false, hpl, ?_, t1, j5e hi hR hf (by omega) e4 (fun j hj => e5 j (Nat.zero_le _) hj), f4, by rw [z1r (by omega)]; omega, e2⟩; rw [hpl]; simp only []; rw [if_neg]; rintro ⟨_, _, h⟩; exact h (hR.1 _ i e4)
end
def ClsN (c : Int) (w b : Nat) : Prop := (c = 0 ∧ w = 2 ∧ b = 32) ∨ (c = 1 ∧ w = 4 ∧ b = 16) ∨ (c = 2 ∧ w = 6 ∧ b = 10) ∨ (c = 3 ∧ w = 8 ∧ b = 8) ∨ (c = 4 ∧ w = 12 ∧ b = 5) ∨ (c = 5 ∧ w = 16 ∧ b = 4) ∨ (c = 6 ∧ w = 20 ∧ b = 3) ∨ (c = 7 ∧ w = 32 ∧ b = 2)
theorem x1v {z : Int} (h1 : 1 ≤ z) (h2 : z ≤ 1024) : W8 3 z = true := by
 have m : mo 3 = 1023 := rfl; have m2 : wd 3 = 1 := rfl; refine fitsB_iff.2 ⟨by decide, by rw [m2]; omega, by rw [z1e (by omega), m, m2]; omega, .inl (by omega)⟩
def q5d (n : Nat) : Sp → List Int → Bool
 | _, [] => true
 | st, z :: l => (alF n st 3 z 0).2.1 == 0 && q5d n (alF n st 3 z 0).2.2.2 l
def Sim (n : Nat) (F0 : Nat → Nat → Bool) (T : Nat → Int × Int × Int) (Y9 fs : Nat → Int) (st : Sp) : Prop :=
 T = st.S ∧ ∀ c : Nat, c < 8 → 0 ≤ Y9 c ∧ 0 ≤ fs c ∧ ((fs c = 0 ∧ ∀ a, a < 64 * n → fr n st (c : Int) a = (F0 c a && decide (Y9 c ≤ (a : Int)))) ∨
  (0 < fs c ∧ (∀ a, a < 64 * n → Y9 c ≤ (a : Int) → F0 c a = false) ∧ (cnt (fr n st (c : Int)) (64 * n) : Int) = fs c))
theorem j1t {P : Nat → Bool} {a : Nat} (ha : P a = true) : ∀ k, a < k → cnt P k = cnt (upd P a false) k + 1
 | 0, h => by omega
 | k + 1, h => by
  by_cases e : a = k
  ·subst e
   show cnt P a + (if P a then 1 else 0) = cnt (upd P a false) a + (if upd P a false a then 1 else 0) + 1
   rw [ha, z2o (S := P) (T := upd P a false) (k := a) (fun j hj => by unfold upd; rw [if_neg (by omega)])]; have : upd P a false a = false := by unfold upd; rw [if_pos rfl]
   rw [this]; simp
  ·have ih := j1t ha k (by omega)
   show cnt P k + (if P k then 1 else 0) = cnt (upd P a false) k + (if upd P a false k then 1 else 0) + 1
   have : upd P a false k = P k := by unfold upd; rw [if_neg (by omega)]
   rw [this]; omega
theorem j3w {c : Int} {w b : Nat} (h : ClsN c w b) : cnt (fun j => K7 c j && decide (j ≠ 0)) 64 = b - 1 := by
 rcases h with ⟨rfl, rfl, rfl⟩ | ⟨rfl, rfl, rfl⟩ | ⟨rfl, rfl, rfl⟩ | ⟨rfl, rfl, rfl⟩ | ⟨rfl, rfl, rfl⟩ | ⟨rfl, rfl, rfl⟩ | ⟨rfl, rfl, rfl⟩ | ⟨rfl, rfl, rfl⟩ <;> decide +kernel
theorem j3o {P : Nat → Bool} {n p : Nat} (hp : p < n) (h : ∀ i, i / 64 ≠ p → P i = false) : cnt P (64 * n) = cnt (fun j => P (64 * p + j)) 64 := by
 obtain ⟨d, rfl⟩ : ∃ d, n = p + 1 + d := ⟨n - p - 1, by omega⟩
 rw [show 64 * (p + 1 + d) = 64 * p + (64 + 64 * d) from by omega, q0m, q0m]; rw [z4q (S := P) (k := 64 * p) (fun j hj => h j (by omega))]; rw [z4q (k := 64 * d) (fun j hj => h (64 * p + (64 + j)) (by omega))]; omega
theorem j8c {c : Nat} (hc : c < 8) : ClsN (c : Int) (wN (c : Int)) (64 / wN (c : Int)) ∧ J6 (c : Int) = ((64 / wN (c : Int) : Nat) : Int) ∧ U7 (c : Int) = true ∧ 2 ≤ 64 / wN (c : Int) := by
 have : c = 0 ∨ c = 1 ∨ c = 2 ∨ c = 3 ∨ c = 4 ∨ c = 5 ∨ c = 6 ∨ c = 7 := by omega
 rcases this with rfl | rfl | rfl | rfl | rfl | rfl | rfl | rfl <;> (unfold ClsN; decide)
theorem j3u {n : Nat} {r0 : Raw} {T : Nat → Int × Int × Int} {Y9 fs : Nat → Int} {st : Sp} (hi : Inv n st) (hR : Rt n st) (h : Sim n r0.F T Y9 fs st) (z : Int) :
  (plT n r0 T Y9 fs z).1 = ((alF n st 3 z 0).2.1 == 0) ∧ ((alF n st 3 z 0).2.1 = 0 → Inv n (alF n st 3 z 0).2.2.2 ∧ Rt n (alF n st 3 z 0).2.2.2 ∧ Sim n r0.F (plT n r0 T Y9 fs z).2.1 (plT n r0 T Y9 fs z).2.2.1 (plT n r0 T Y9 fs z).2.2.2 (alF n st 3 z 0).2.2.2) := by
 by_cases hz : 1 ≤ z ∧ z ≤ 1024
 case neg =>
  have hf : W8 3 z = false := by
   cases e : W8 3 z with
   | false => rfl
   | true => exact absurd ⟨(J8 e).2.2.1, (J8 e).2.2.2⟩ hz
  have ha : alF n st 3 z 0 = (0, 24, 0, st) := by unfold alF; rw [hf]; rfl
  have hp : ¬ 0 < J4 z := by unfold J4; rw [if_neg (by omega)]; omega
  have ho : ¬ 0 ≤ ofV z := by unfold ofV; repeat' split <;> omega
  unfold plT; rw [ha, if_neg hp, if_neg ho]; exact ⟨rfl, fun h => by simp at h⟩
 case pos =>
 obtain ⟨z1, z2⟩ := hz; have hf := x1v z1 z2; obtain ⟨hT, hc⟩ := h; by_cases h32 : 32 < z
 ·have hp : J4 z = (z + 63) / 64 := by unfold J4; rw [if_pos ⟨h32, z2⟩]
  have hk := z6f h32 z2; have hrb : q4b ((z + 63) / 64) = true := by unfold q4b; simp; omega
  have hpl : K5 n st z = (U2 st.S n ((z + 63) / 64).toNat).map fun p => (64 * p, false) := by unfold K5; rw [if_pos h32]
  unfold plT; rw [if_pos (by rw [hp]; omega), hp, hT]; unfold trE trS; rw [if_pos hrb, if_pos hrb]; rcases z6r (t := 0) hi hR hf with ⟨a1, a2⟩ | ⟨a, fresh, a1, a2, a3, a4, a5, a6, a7⟩
  ·rw [hpl] at a1; cases e : U2 st.S n ((z + 63) / 64).toNat with
   | some p => rw [e] at a1; cases a1
   | none => rw [a2]; exact ⟨rfl, fun h => by simp at h⟩
  ·rw [hpl] at a1; cases e : U2 st.S n ((z + 63) / 64).toNat with
   | none => rw [e] at a1; cases a1
   | some p =>
    rw [e] at a1; simp only [Option.map_some, Option.some.injEq, Prod.mk.injEq] at a1; obtain ⟨rfl, rfl⟩ := a1; obtain ⟨t1, t2, t3, t4⟩ := z3j (t := 0) hi hf h32 e; rw [a2]; refine ⟨rfl, fun _ => ⟨a3, a4, ?_, fun c hc8 => ?_⟩⟩
    ·show setR st.S p ((z + 63) / 64).toNat = Y0 st (64 * p) false z
     unfold Y0; rw [if_pos h32, show 64 * p / 64 = p from by omega]
    ·rw [t2]; exact hc c hc8
 ·have hp : ¬ 0 < J4 z := by unfold J4; rw [if_neg (by omega)]; omega
  obtain ⟨o1, o2, o3⟩ := W9 z1 (by omega); obtain ⟨c, hcz, hc8⟩ := j4c z hp o1; obtain ⟨k1, k2, k3, k4⟩ := j8c hc8; have hpl : K5 n st z = if 0 ≤ nf n st (c : Int) 0 then some ((nf n st (c : Int) 0).toNat, false) else (U2 st.S n 1).map fun p => (64 * p, true) := by unfold K5; rw [if_neg h32, hcz]
  unfold plT; rw [if_neg hp, if_pos o1, hcz, Int.toNat_natCast]; obtain ⟨q1, q2, q3⟩ := hc c hc8; unfold plB
  -- where a block is free, it is taken
  have took : ∀ i : Nat, nf n st (c : Int) 0 = (i : Int) → (alF n st 3 z 0).2.1 = 0 ∧ Inv n (alF n st 3 z 0).2.2.2 ∧ Rt n (alF n st 3 z 0).2.2.2 ∧ (alF n st 3 z 0).2.2.2.S = st.S ∧ (∀ d, fr n (alF n st 3 z 0).2.2.2 d = upd (fr n st d) i false) ∧ (∀ d, d ≠ (c : Int) → fr n st d i = false) := by
   intro i e; rw [e, if_pos (by omega), Int.toNat_natCast] at hpl; rcases z6r (t := 0) hi hR hf with ⟨a1, a2⟩ | ⟨a, fresh, a1, a2, a3, a4, a5, a6, a7⟩
   ·rw [hpl] at a1; cases a1
   ·rw [hpl] at a1; simp only [Option.some.injEq, Prod.mk.injEq] at a1; obtain ⟨rfl, rfl⟩ := a1; have hfi : fr n st (c : Int) i = true := by
     rcases Q1 (fr n st (c : Int)) (64 * n) 0 with ⟨e1, _⟩ | ⟨i', e1, _, _, e4, _⟩
     ·have : nf n st (c : Int) 0 = -1 := e1; omega
     ·have : nf n st (c : Int) 0 = (i' : Int) := e1; rw [show i = i' from by omega]; exact e4
    obtain ⟨t1, t2, t3⟩ := z0t (t := 0) hi hf (by omega) (by rw [hcz]; exact hfi); rw [a2]; refine ⟨rfl, a3, a4, ?_, t2, fun d hd => t3 d (by rw [hcz]; exact hd)⟩
    show Y0 st i false z = st.S
    unfold Y0; rw [if_neg (by omega)]; rfl
  have others : ∀ i d : Nat, (∀ d, d ≠ (c : Int) → fr n st d i = false) → d ≠ c → upd (fr n st (d : Int)) i false = fr n st (d : Int) := by
   intro i d h1 h2; funext j
   unfold upd; split
   ·rename_i e; rw [e]; exact (h1 _ (by omega)).symm
   ·rfl
  rcases q3 with ⟨s1, s2⟩ | ⟨s1, s2, s3⟩
  ·rw [if_neg (by omega)]
   -- the free ones are those of the space that was there, from a place on
   have hsame : nxr (r0.F c) (64 * n) (Y9 c).toNat = nf n st (c : Int) 0 := by
    unfold nf; rcases Q1 (r0.F c) (64 * n) (Y9 c).toNat with ⟨e1, e2⟩ | ⟨i, e1, e2, e3, e4, e5⟩
    ·rcases Q1 (fr n st (c : Int)) (64 * n) 0 with ⟨g1, g2⟩ | ⟨j, g1, g2, g3, g4, g5⟩
     ·rw [e1, g1]
     ·exfalso
      rw [s2 j g2] at g4; have : r0.F c j = false := e2 j (by simp at g4; omega) g2; rw [this] at g4; simp at g4
    ·have hge : Y9 c ≤ (i : Int) := by
      by_cases hh : (Y9 c).toNat ≤ 64 * n
      ·have := e3 hh; omega
      ·exfalso
       have : nxr (r0.F c) (64 * n) (Y9 c).toNat = -1 := by unfold nxr; rw [q3b _ _ _ (by omega), if_neg (by omega)]
       omega
     have hi2 : fr n st (c : Int) i = true := by rw [s2 i e2, e4]; simp; omega
     rcases Q1 (fr n st (c : Int)) (64 * n) 0 with ⟨g1, g2⟩ | ⟨j, g1, g2, g3, g4, g5⟩
     ·have := g2 i (Nat.zero_le _) e2; rw [hi2] at this; cases this
     ·rw [e1, g1]; have hj : r0.F c j = true ∧ Y9 c ≤ (j : Int) := by rw [s2 j g2] at g4; simpa using g4
      have h1 : ¬ i < j := fun hh => by have := g5 i (Nat.zero_le _) hh; rw [hi2] at this; cases this
      have h2 : ¬ j < i := fun hh => by have := e5 j (by omega) hh; rw [hj.1] at this; cases this
      omega
   rw [hsame]; rcases Q1 (fr n st (c : Int)) (64 * n) 0 with ⟨g1, g2⟩ | ⟨j, g1, g2, g3, g4, g5⟩
   ·have g1' : nf n st (c : Int) 0 = -1 := g1; rw [g1', if_neg (by omega)]; rw [g1', if_neg (by omega)] at hpl; unfold tcE tcS; rw [if_pos k3, if_pos k3, hT]; rcases z6r (t := 0) hi hR hf with ⟨a1, a2⟩ | ⟨a, fresh, a1, a2, a3, a4, a5, a6, a7⟩
    ·rw [hpl] at a1; cases e : U2 st.S n 1 with
     | some p => rw [e] at a1; cases a1
     | none => rw [a2]; exact ⟨rfl, fun h => by simp at h⟩
    ·rw [hpl] at a1; cases e : U2 st.S n 1 with
     | none => rw [e] at a1; cases a1
     | some p =>
      rw [e] at a1; simp only [Option.map_some, Option.some.injEq, Prod.mk.injEq] at a1; obtain ⟨rfl, rfl⟩ := a1; obtain ⟨t1, t2, t3, t4, t5⟩ := z0v (t := 0) hi hf (by omega) e; rw [a2]; simp only [Option.isSome_some, if_true]; refine ⟨rfl, fun _ => ⟨a3, a4, ?_, fun d hd => ?_⟩⟩
      ·show setC st.S p (c : Int) = Y0 st (64 * p) true z
       unfold Y0; rw [if_neg h32, if_pos rfl, show 64 * p / 64 = p from by omega, hcz]
      ·by_cases ed : d = c
       ·subst ed; refine ⟨q1, ?_, .inr ⟨?_, ?_, ?_⟩⟩
        ·unfold z3k; rw [if_pos rfl, k2]; omega
        ·unfold z3k; rw [if_pos rfl, k2]; omega
        ·intro a ha hfa; have := g2 a (Nat.zero_le _) ha; rw [s2 a ha] at this; cases hF : r0.F d a with
         | false => rfl
         | true => rw [hF] at this; simp at this; omega
        ·unfold z3k; rw [if_pos rfl, k2]; have hout : ∀ i, i / 64 ≠ p → fr n (V8 n st (64 * p) true 3 z 0) (d : Int) i = false := by
          intro i hip; rw [t2, if_neg hip]; by_cases hin : i < 64 * n
          ·exact g2 i (Nat.zero_le _) hin
          ·exact q9x n st _ i (by omega)
         rw [j3o t4 hout]; have hin : cnt (fun j => fr n (V8 n st (64 * p) true 3 z 0) (d : Int) (64 * p + j)) 64 = cnt (fun j => K7 (d : Int) j && decide (j ≠ 0)) 64 := by
          refine z2o fun j hj => ?_
          rw [t2, if_pos (by omega), hcz, show (64 * p + j) % 64 = j from by omega]; have : decide (64 * p + j ≠ 64 * p) = decide (j ≠ 0) := by simp only [decide_eq_decide]; omega
          rw [this]; simp
         rw [hin, j3w k1]; omega
       ·obtain ⟨p1, p2, p3⟩ := hc d hd; have hfd : fr n (V8 n st (64 * p) true 3 z 0) (d : Int) = fr n st (d : Int) := by
         funext i
         rw [t2]; by_cases hip : i / 64 = p
         ·rw [if_pos hip, hcz, show decide ((d : Int) = (c : Int)) = false from by simp; omega]; cases hq : fr n st (d : Int) i with
          | false => rfl
          | true =>
           have := (fr_iff.1 hq).2.1; rw [hip, t5] at this; simp at this
         ·rw [if_neg hip]
        rw [hfd]; have : z3k fs c (J6 (c : Int) - 1) d = fs d := by unfold z3k; rw [if_neg ed]
        (try dsimp only); simp only [this]; exact ⟨p1, p2, p3⟩
   ·have g1' : nf n st (c : Int) 0 = (j : Int) := g1; rw [g1', if_pos (by omega)]; obtain ⟨w1, w2, w3, w4, w5, w6⟩ := took j g1'; refine ⟨by rw [w1]; rfl, fun _ => ⟨w2, w3, by rw [w4]; exact hT, fun d hd => ?_⟩⟩; rw [w5]; by_cases ed : d = c
    ·subst ed; refine ⟨by show 0 ≤ z3k Y9 d ((j : Int) + 1) d; unfold z3k; rw [if_pos rfl]; omega, q2, .inl ⟨s1, fun a ha => ?_⟩⟩; have e1 : z3k Y9 d ((j : Int) + 1) d = (j : Int) + 1 := by unfold z3k; rw [if_pos rfl]
     (try dsimp only); simp only [e1]; have hjj : Y9 d ≤ (j : Int) := by rw [s2 j g2] at g4; simp at g4; exact g4.2
     unfold upd; by_cases ea : a = j
     ·rw [if_pos ea, ea]; simp; omega
     ·rw [if_neg ea, s2 a ha]; by_cases hl : a < j
      ·have := g5 a (Nat.zero_le _) hl; rw [s2 a ha] at this; rw [this, show decide ((j : Int) + 1 ≤ (a : Int)) = false from by simp; omega]; simp
      ·rw [show decide (Y9 d ≤ (a : Int)) = true from by simp; omega, show decide ((j : Int) + 1 ≤ (a : Int)) = true from by simp; omega]
    ·rw [others j d w6 ed]; have : z3k Y9 c ((j : Int) + 1) d = Y9 d := by unfold z3k; rw [if_neg ed]
     (try dsimp only); simp only [this]; exact hc d hd
  ·rw [if_pos s1]
   -- blocks of a page that was taken are left
   rcases Q1 (fr n st (c : Int)) (64 * n) 0 with ⟨g1, g2⟩ | ⟨j, g1, g2, g3, g4, g5⟩
   ·exfalso
    have := z4q (S := fr n st (c : Int)) (k := 64 * n) (fun j hj => g2 j (Nat.zero_le _) hj); omega
   ·have g1' : nf n st (c : Int) 0 = (j : Int) := g1; obtain ⟨w1, w2, w3, w4, w5, w6⟩ := took j g1'; refine ⟨by rw [w1]; rfl, fun _ => ⟨w2, w3, by rw [w4]; exact hT, fun d hd => ?_⟩⟩; rw [w5]; by_cases ed : d = c
    ·subst ed; have hcu := j1t g4 (64 * n) g2; have e1 : z3k fs d (fs d - 1) d = fs d - 1 := by unfold z3k; rw [if_pos rfl]
     (try dsimp only); simp only [e1]; refine ⟨q1, by omega, ?_⟩; by_cases e0 : fs d = 1
     ·left
      refine ⟨by omega, fun a ha => ?_⟩; have hz0 : cnt (upd (fr n st (d : Int)) j false) (64 * n) = 0 := by omega
      rw [q6j hz0 a ha]; by_cases hfa : Y9 d ≤ (a : Int)
      ·rw [s2 a ha hfa]; rfl
      ·rw [show decide (Y9 d ≤ (a : Int)) = false from by simp; omega]; simp
     ·right
      exact ⟨by omega, s2, by omega⟩
    ·rw [others j d w6 ed]; have : z3k fs c (fs c - 1) d = fs d := by unfold z3k; rw [if_neg ed]
     (try dsimp only); simp only [this]; exact hc d hd
theorem j2o {n : Nat} {r0 : Raw} : ∀ (l : List Int) {T : Nat → Int × Int × Int} {Y9 fs : Nat → Int} {st : Sp}, Inv n st → Rt n st → Sim n r0.F T Y9 fs st → z5d n r0 T Y9 fs l = q5d n st l
 | [], _, _, _, _, _, _, _ => rfl
 | z :: l, T, Y9, fs, st, hi, hR, h => by
  obtain ⟨h1, h2⟩ := j3u hi hR h z; unfold z5d q5d; rw [h1]; cases e : ((alF n st 3 z 0).2.1 == 0) with
  | false => rfl
  | true =>
   obtain ⟨a, b, c⟩ := h2 (by simpa using e); rw [j2o l a b c]
theorem q9u {n : Nat} {st : Sp} (hi : Inv n st) (hR : Rt n st) (l : List Int) : z5d n (Z6 n st) st.S (fun _ => 0) (fun _ => 0) l = q5d n st l :=
 j2o l hi hR ⟨rfl, fun c _ => ⟨Int.le_refl _, Int.le_refl _, .inl ⟨rfl, fun a _ => by show _ = (fr n st (c : Int) a && _); simp⟩⟩⟩
theorem j1m {ops : Array Oper} {o : Oper} {ac : Go.Act} {w : World} {K : Go.Act → World → Prop} {Q : Exit → Go.Act → World → Prop} {E : Prop} (hgd : o.guard = none) (sx xx : Operand)
  (ho : o.op = .call { callee := .builtin .append, args := #[sx, xx], argTypes := #[62, 62] }) (hs : ac.eval sx = .slice none 0 0)
  (bw k cap : Nat) (f : Nat → Int) (hx : ac.eval xx = .slice (some ⟨bw, 0, none⟩) k cap) (hr : Row w bw 92 (k * 5) (fun i => .int .i64 (f i))) (k1 : 1 ≤ k) (k2 : k ≤ 262144)
  (h : ∀ g cap' w', w'.ownsRow w.heap.size 92 5 (.slice (some ⟨g, 0, none⟩) k cap') k ((List.range (k * 5)).map fun i => .int .i64 (f i)) → Out 0 0 w w' → K (ac.put o.dst (.slice (some ⟨g, 0, none⟩) k cap')) w') :
  if Region.wanted o (yielded ops ac.tmps) = true then Oper.wp Tryz.prog o ac w K Q else E := by
 have hw : Region.wanted o (yielded ops ac.tmps) = true := by simp [Region.wanted, hgd]
 rw [if_pos hw]; obtain ⟨i0, hi0, hz0, hz1, hz2⟩ := Q3 z6s; obtain ⟨v2, w', hrun, hown2, hgrow, hnil⟩ := run_append_own (P := Tryz.prog) w w.heap.size 62 o.type 92 i0 (.agg #[.int .i64 0, .int .i64 0, .int .i64 0, .int .i64 0, .int .i64 0]) 5 40 Tryz.underlying62 hi0 hz0 hz1 hz2 rfl (by decide) (.slice none 0 0) 0 [] (World.ownsRow_nil _ _ _ 5) ⟨bw, 0, none⟩ k cap ((List.range (k * 5)).map fun i => .int .i64 (f i)) (by simp) (by
   intro j u hj; have hjk : j < k * 5 := by have := (List.getElem?_eq_some_iff.1 hj).1; simpa using this
   simp [hjk] at hj; subst hj; rw [Addr.add_lit, Nat.zero_add]; exact hr.cell hjk) (by intro u hu; simp at hu; obtain ⟨i, _, rfl⟩ := hu; rfl) (by unfold maxLen; omega) (by omega) (Nat.le_refl _)
 rw [Nat.zero_add, List.nil_append] at hown2; obtain ⟨g4, cap4, rfl, hg4, _⟩ := hown2.form (by omega); unfold Oper.wp; simp [execOp, ho, resolve, invoke, builtin, hs, hx, hrun, Result.andThen]; exact h g4 cap4 w' hown2 ⟨hgrow.os, hgrow.tape, hgrow.output, hgrow.size, fun j h1 h2 => hgrow.block j h1 (by simp [Value.ownBlock])⟩
section
variable {w : World} {lo hi n cw co : Nat} {s : Nat → Nat} {st : Sp}
theorem q1b (h : RfAt w lo hi s n cw co st) :
  Calls Tryz.prog 60 #[.pointer (some ⟨s 0, 0, none⟩)] w fun e w' => ∃ s' cw' co', e = .returned (.pointer (some ⟨s' 0, 0, none⟩)) ∧ RfAt w' w.heap.size w'.heap.size s' n cw' co' st ∧ Out 0 0 w w' := by
 obtain ⟨c0, c1, c2, c3, _⟩ := h.cells; have HH := Z0 h; have HN : Hid (1 ≤ n ∧ n ≤ 4096 ∧ 4 ≤ w.heap.size) := by
  have := h.glob; have := h.top; have := h.inn 0 (by omega); exact ⟨h.n1, h.n2, by omega⟩
 clear h; go_enter Tryz.func60, Tryz.ntmps60
 go_wp2_with fail; refine wp_region_held_drew (S := fun w' => w'.cell? ⟨s 0, 0, none⟩ = some (.slice (some ⟨s 1, 0, none⟩) (64 * n) cw) ∧ w'.cell? ⟨s 0, 1, none⟩ = some (.pointer (some ⟨s 2, 0, none⟩)) ∧ w'.cell? ⟨s 0, 2, none⟩ = some (.slice (some ⟨s 4, 0, none⟩) (64 * n) co) ∧ w'.cell? ⟨s 0, 3, none⟩ = some (.int .i64 st.last)) (by kernel_rfl) ?hS1 (fun hHeld => ?rest1)
 case hS1 => exact ⟨c0, c1, c2, c3⟩
 obtain ⟨Z, hZ⟩ : ∃ Z, w.drew = Z := ⟨_, rfl⟩
 have OZ : Out 0 0 w Z := by rw [← hZ]; exact (Out.refl 0 0 w).drew
 rw [hZ] at hHeld ⊢; clear hZ; refine tk 0 ?_; refine tk 1 ?_; refine tk 2 ?_; refine tk 3 ?_; refine tk 5 ?_; refine tk 6 ?_; refine tk 7 ?_; refine tk 8 ?_; refine tk 10 ?_; refine tk 11 ?_; refine tk 12 ?_; refine tk 13 ?_; refine tk 15 ?_; refine tk 16 ?_; refine tk 17 ?_; refine tk 18 ?_; refine rd1 4 fun KK hK => ?_
 refine z8i (by rfl) _ _ (by rfl) (by rfl) (s 1) (64 * n) cw st.W (by rfl) (HH.out.quiet OZ).rw (by have := HN.out; omega) (by have := HN.out; omega) ?_; intro gw kw X1 fW o1; have OX1 := OZ.trans o1; refine hK.out _ _ ?hS18 (fun hHeld2 => ?rest18)
 case hS18 => exact ⟨o1.cell hHeld.1 z0, o1.cell hHeld.2.1 z0, o1.cell hHeld.2.2.1 z0, o1.cell hHeld.2.2.2 z0⟩
 clear o1; clear hK KK; replace hHeld := hHeld2; clear hHeld2; refine rd1 9 fun KK hK => ?_
 simp only [xa, xb, xc]; go_simp; refine (z6v (HH.out.quiet OX1).rt (by have := HN.out; have := OX1.size; omega)).mono ?_; rintro e X2 ⟨tb, tw, rfl, fT, t1, t2, o1⟩; have zW := (Z8 fW gw rfl)
 have fW2 := z0q fW o1 (Nat.zero_le _); have OX2 := OX1.trans o1; have zs1 := o1.size; refine hK.out _ _ ?hS19 (fun hHeld2 => ?rest19)
 case hS19 => exact ⟨o1.cell hHeld.1 z0, o1.cell hHeld.2.1 z0, o1.cell hHeld.2.2.1 z0, o1.cell hHeld.2.2.2 z0⟩
 clear o1; clear hK KK; replace hHeld := hHeld2; clear hHeld2; refine rd1 14 fun KK hK => ?_
 refine j1m (by rfl) _ _ (by rfl) (by rfl) (s 4) (64 * n) co (obC st) (by rfl) (HH.out.quiet OX2).ro (by have := HN.out; omega) (by have := HN.out; omega) ?_; intro go ko X3 fO o1; have fW3 := z0q fW2 o1 (Nat.zero_le _); have fT3 := fT.quiet o1; have zT := fT.nums; have zO := (Z8 fO go rfl)
 have OX3 := OX2.trans o1; have zs2 := o1.size; refine hK.out _ _ ?hS20 (fun hHeld2 => ?rest20)
 case hS20 => exact ⟨o1.cell hHeld.1 z0, o1.cell hHeld.2.1 z0, o1.cell hHeld.2.2.1 z0, o1.cell hHeld.2.2.2 z0⟩
 clear o1; clear hK KK; replace hHeld := hHeld2; clear hHeld2; refine tk 19 ?_; refine rd1 20 fun KK hK => ?_
 simp only [xa, xb, xc]; go_simp; obtain ⟨bs, hbs⟩ : ∃ b, X3.heap.size = b := ⟨_, rfl⟩
 obtain ⟨X4, hW⟩ : ∃ W, X3.alloc (.cells #[.slice (some ⟨gw, 0, none⟩) (64 * n) kw, .pointer (some ⟨tb, 0, none⟩), .slice (some ⟨go, 0, none⟩) (64 * n) ko, .int .i64 st.last] 66) = W := ⟨_, rfl⟩
 have o1 : Out 0 0 X3 X4 := by rw [← hW]; exact (Out.refl 0 0 _).alloc _
 have fB : X4.heap[bs]? = some (.cells #[.slice (some ⟨gw, 0, none⟩) (64 * n) kw, .pointer (some ⟨tb, 0, none⟩), .slice (some ⟨go, 0, none⟩) (64 * n) ko, .int .i64 st.last] 66) := by rw [← hW, ← hbs]; exact heap_alloc_new _ _
 have zB : bs < X4.heap.size := Q4 fB; have fW4 := z0q fW3 o1 (Nat.zero_le _); have fT4 := fT3.quiet o1; have fO4 := z0q fO o1 (Nat.zero_le _); have OX4 := OX3.trans o1; (try rw [hW]); (try rw [hbs]); clear hW; refine hK.out _ _ ?hS22 (fun hHeld2 => ?rest22)
 case hS22 => exact ⟨o1.cell hHeld.1 z0, o1.cell hHeld.2.1 z0, o1.cell hHeld.2.2.1 z0, o1.cell hHeld.2.2.2 z0⟩
 clear o1; clear hK KK; replace hHeld := hHeld2; clear hHeld2; refine tk 21 ?_; refine dn ?_; clear hHeld; have HE := Z0 (And.intro fW4 (And.intro fT4 (And.intro fO4 (And.intro fB (And.intro zB (And.intro OX4 (And.intro zW (And.intro zT (And.intro zO (And.intro t1 (And.intro t2 (And.intro zs1 (And.intro zs2 (And.intro hbs (And.intro OZ.size OX1.size))))))))))))))); clear fW fW2 fW3 fW4 fT fT3 fT4 fO fO4 fB zB OX1 OX2 OX3 OX4 zW zT zO t1 t2 zs1 zs2 hbs OZ; go_wp2; go_ret; obtain ⟨fW4, fT4, fO4, fB, zB, OX4, zW, zT, zO, t1, t2, zs1, zs2, hbs, hz, hz1⟩ := HE.out; have hN := HN.out; refine ⟨rfS bs gw tb tw go, kw, ko, rfl, ?_, OX4⟩; refine ⟨hN.1, hN.2.1, Nat.le_refl _, hN.2.2, ?_, ?_, fB, ?_, fT4, ?_⟩
 ·intro i hi5; have : i = 0 ∨ i = 1 ∨ i = 2 ∨ i = 3 ∨ i = 4 := by omega
  rcases this with rfl | rfl | rfl | rfl | rfl <;> simp [rfS] <;> omega
 ·intro i j hi5 hj5; have a : i = 0 ∨ i = 1 ∨ i = 2 ∨ i = 3 ∨ i = 4 := by omega
  have b : j = 0 ∨ j = 1 ∨ j = 2 ∨ j = 3 ∨ j = 4 := by omega
  rcases a with rfl | rfl | rfl | rfl | rfl <;> rcases b with rfl | rfl | rfl | rfl | rfl <;> simp [rfS] <;> omega
 ·have := q4k (f := fun j => .int .i64 (st.W j)) fW4 (fun j hj => by simp at hj; simp [hj]); rw [Nat.mul_one] at this; exact this
 ·exact q4k (f := fun j => .int .i64 (obC st j)) fO4 (fun j hj => by simp [hj])
end
def z1w (n : Nat) : Sp → List Int → Bool
 | _, [] => true
 | st, z :: l => if 1 ≤ z ∧ z ≤ 1024 then (match K5 n st z with | some (a, b) => z1w n (V8 n st a b 3 z 0) l | none => false) else false
theorem j7i (z : Int) : W8 3 z = decide (1 ≤ z ∧ z ≤ 1024) := by
 by_cases h : 1 ≤ z ∧ z ≤ 1024
 ·rw [decide_eq_true h]; obtain ⟨k, rfl⟩ : ∃ k : Nat, z = (k : Int) := ⟨z.toNat, by omega⟩
  have : ∀ k : Fin 1025, 1 ≤ k.val → W8 3 (k.val : Int) = true := by decide +kernel
  exact this ⟨k, by omega⟩ (by show 1 ≤ k; omega)
 ·rw [decide_eq_false h]; cases hf : W8 3 z with
  | false => rfl
  | true => exact absurd (J8 hf).2.2 h
section
variable {n : Nat} {st : Sp}
theorem j0z {k z t : Int} {a : Nat} {fresh : Bool} (hI : Inv n st) (hf : W8 k z = true) (hp : K5 n st z = some (a, fresh)) : Inv n (V8 n st a fresh k z t) := by
 have hz := J8 hf; unfold K5 at hp; by_cases h : 32 < z
 ·rw [if_pos h] at hp; obtain ⟨p, hr, e⟩ := Option.map_eq_some_iff.1 hp; simp only [Prod.mk.injEq] at e; obtain ⟨rfl, rfl⟩ := e; exact (z3j hI hf h hr).1
 ·rw [if_neg h] at hp; by_cases h0 : 0 ≤ nf n st (ofV z) 0
  ·rw [if_pos h0] at hp; simp only [Option.some.injEq, Prod.mk.injEq] at hp; obtain ⟨e, rfl⟩ := hp; unfold nf at h0 e; rcases Q1 (fr n st (ofV z)) (64 * n) 0 with ⟨q, _⟩ | ⟨i, q, i1, i2, i3, i4⟩
   ·rw [q] at h0; omega
   ·rw [q] at e; obtain rfl : i = a := by omega
    exact (z0t hI hf (by omega) i3).1
  ·rw [if_neg h0] at hp; obtain ⟨p, hr, e⟩ := Option.map_eq_some_iff.1 hp; simp only [Prod.mk.injEq] at e; obtain ⟨rfl, rfl⟩ := e; exact (z0v hI hf (by omega) hr).1
theorem q6m : ∀ (l : List Int) {s1 s2 : Sp}, s1.S = s2.S → s1.O = s2.O → s1.last = s2.last → z1w n s1 l = z1w n s2 l
 | [], _, _, _, _, _ => rfl
 | z :: l, s1, s2, h1, h2, h3 => by
  have hp : K5 n s1 z = K5 n s2 z := by
   unfold K5 nf; have hfr : ∀ c, fr n s1 c = fr n s2 c := fun c => by unfold fr; rw [h1, h2]
   rw [h1, hfr]
  unfold z1w; rw [hp]; split
  ·split
   ·rename_i a b _
    refine q6m l ?_ ?_ ?_
    ·show Y0 s1 a b z = Y0 s2 a b z
     unfold Y0; rw [h1]
    ·show U4 s1.O a (3, z, Q9 s1 3, 0) = U4 s2.O a (3, z, Q9 s2 3, 0)
     unfold Q9; rw [h2, h3]
    ·show U8 s1 3 = U8 s2 3
     unfold U8; rw [h3]
   ·rfl
  ·rfl
theorem j6l : ∀ (l : List Int) {st : Sp}, Inv n st → Rt n st → q5d n st l = z1w n st l
 | [], _, _, _ => rfl
 | z :: l, st, hi, hR => by
  unfold q5d z1w; by_cases h : 1 ≤ z ∧ z ≤ 1024
  ·have hf : W8 3 z = true := by rw [j7i, decide_eq_true h]
   rw [if_pos h]; rcases z6r (t := 0) hi hR hf with ⟨e1, e2⟩ | ⟨a, fresh, e1, e2, i1, i2, _⟩
   ·rw [e1, e2]; rfl
   ·rw [e1, e2]
    show (true && q5d n (V8 n st a fresh 3 z 0) l) = _
    rw [j6l l i1 i2]; rfl
  ·have hf : W8 3 z = false := by rw [j7i, decide_eq_false h]
   rw [if_neg h]; have : (alF n st 3 z 0).2.1 = 24 := by unfold alF; rw [hf]; rfl
   rw [this]; rfl
def rgW (n : Nat) (st : Sp) (j : Nat) : Int := if Q7 (st.O j) then X9 j (st.O j).1 (st.O j).2.1 else Y7 (nf n st (st.S (j / 64)).2.1 (j + 1))
theorem q5r : Rt n { st with W := rgW n st } := by
 constructor
 ·intro c a hf; obtain ⟨f1, f2, f3, f4⟩ := fr_iff.1 hf; have f2' : st.S (a / 64) = (1, c, 0) := f2; have f4' : Q7 (st.O a) = false := f4
  show rgW n st a = _
  unfold rgW; rw [f4', if_neg (by simp), f2']; rfl
 ·intro a ha; have ha' : Q7 (st.O a) = true := ha
  show rgW n st a = _
  unfold rgW; rw [ha', if_pos rfl]
theorem j1h (W : Nat → Int) : ∀ (l : List Int) (T : Nat → Int × Int × Int) (f g : Nat → Int), z5d n (Z6 n { st with W := W }) T f g l = z5d n (Z6 n st) T f g l
 | [], _, _, _ => rfl
 | z :: l, T, f, g => by
  unfold z5d; rw [show plT n (Z6 n { st with W := W }) T f g z = plT n (Z6 n st) T f g z from rfl, j1h W l]
theorem j4o (hI : Inv n st) (l : List Int) : z5d n (Z6 n st) st.S (fun _ => 0) (fun _ => 0) l = z1w n st l := by
 have hI' : Inv n { st with W := rgW n st } := ⟨hI.n1, hI.n2, hI.good, hI.objs, hI.none, hI.heads, hI.last0, hI.ser, hI.one⟩
 rw [← j1h (rgW n st), show st.S = ({ st with W := rgW n st } : Sp).S from rfl, q9u hI' q5r, j6l l hI' q5r]; exact q6m l rfl rfl rfl
end
section
variable {w : World} {lo hi n cw co : Nat} {s : Nat → Nat} {st : Sp}
theorem q0z (z : Int) (hz : ¬(1 ≤ z ∧ z ≤ 1024)) (a : Option Addr) (w : World) : Calls Tryz.prog 61 #[.pointer a, .int .i64 z] w fun e w' => e = .returned (.tuple #[.int .i64 (-1), .bool false]) ∧ w' = w := by
 have ho : ofV z = -1 := by unfold ofV; (repeat' split) <;> omega
 have HOf := Z0 (fun w => z1u z w); rw [ho] at HOf; clear ho hz; go_enter Tryz.func61, Tryz.ntmps61
 go_wp2_with (go_at_call 108; refine Z5 (HOf.out _) ?_); go_ret2; exact ⟨rfl, rfl⟩
theorem x0s {l : List Int} {i : Nat} {z : Int} (hi : l[i]? = some z) (st : Sp) : z1w n st (l.drop i) = if 1 ≤ z ∧ z ≤ 1024 then (match K5 n st z with | some (a, b) => z1w n (V8 n st a b 3 z 0) (l.drop (i + 1)) | none => false) else false := by
 obtain ⟨h1, h2⟩ := List.getElem?_eq_some_iff.1 hi; rw [List.drop_eq_getElem_cons h1, h2]; rfl
theorem q1q (h : RfAt w lo hi s n cw co st) (hI : Inv n st) {l : List Int} {p : Option Addr} {cp : Nat} (hl : z2x w p l) (hll : st.last + (l.length : Int) < 9223372036854775807) :
  Calls Tryz.prog 25 #[.pointer (some ⟨s 0, 0, none⟩), .slice p l.length cp] w fun e w' => e = .returned (.bool (z1w n st l)) ∧ Out 0 0 w w' := by
 have HCp := Z0 (q1b h); have HLi := Z0 hl; have HI := Z0 hI; have l0 := hI.last0; have HLL := Z0 (And.intro l0 hll); obtain ⟨N, hN⟩ : ∃ N, l.length = N := ⟨_, rfl⟩
 have HN := Z0 hN; have N1 : (N : Int) ≤ 9223372036854775807 := by omega
 rw [hN]; obtain ⟨b, hb⟩ : ∃ b, z1w n st l = b := ⟨_, rfl⟩
 rw [hb]; have HB := Z0 hb; clear h hI hl hll l0 hN hb; go_enter Tryz.func25, Tryz.ntmps25
 go_wp2_with fail; refine HCp.out.mono ?_; rintro e w1 ⟨s', cw', co', rfl, hR, hO⟩; obtain ⟨X, hX⟩ : ∃ X, s' 0 = X := ⟨_, rfl⟩
 rw [hX]; have HR1 := Z0 (And.intro hR (And.intro hO hX)); clear hR hO hX; go_wp2_with fail; go_loopw [6] (fun u wr => ∃ (i : Nat) (sI : Sp), u = .int .i64 (i : Int) ∧ i ≤ N ∧ RfAt wr w.heap.size w1.heap.size s' n cw' co' sI ∧ Inv n sI ∧ z1w n sI (l.drop i) = b ∧ sI.last ≤ st.last + (i : Int) ∧ Out 0 0 w wr) (fun u _ => N - (intOf u).toNat)
 case atStart => exact ⟨0, st, rfl, Nat.zero_le _, HR1.out.1, HI.out, by rw [List.drop_zero]; exact HB.out, by simp, HR1.out.2.1⟩
 case round =>
  obtain ⟨i, sI, rfl, i1, hR, hI, hpl, hls, hO⟩ := hrel; have i0 : (0 : Int) ≤ (i : Int) := by omega
  by_cases hlt : i < N
  ·have il : (i : Int) < (N : Int) := by omega
   obtain ⟨z, hz⟩ : ∃ z, l[i]? = some z := by
    have := HN.out; exact ⟨l[i]'(by omega), List.getElem?_eq_getElem (by omega)⟩
   rw [x0s hz] at hpl; obtain ⟨g, off, rfl, hg1, hg2⟩ : ∃ g off, p = some ⟨g, off, none⟩ ∧ g < w.heap.size ∧ w.cell? ⟨g, off + i, none⟩ = some (.int .i64 z) := by
    rcases HLi.out with e | ⟨g, off, e, h1, h2⟩
    ·have := HN.out; rw [e] at this; simp at this; omega
    ·have := h2 i (by have := HN.out; omega); rw [hz] at this; exact ⟨g, off, e, h1, this⟩
   have d0 := hO.cell hg2 z0; by_cases hzr : 1 ≤ z ∧ z ≤ 1024
   ·rw [if_pos hzr] at hpl; have hPl := z5t hR hzr.1 hzr.2; rw [HR1.out.2.2] at hPl; have hf : W8 3 z = true := x1v hzr.1 hzr.2; cases hpf : K5 n sI z with
    | none =>
     rw [hpf] at hpl; rw [show q6n n sI z = -1 from by unfold q6n; rw [hpf], show q6o n sI z = false from by unfold q6o; rw [hpf]] at hPl; have HPl := Z0 hPl; have HE := Z0 (And.intro hpl hO); clear hPl hpl hO hR hI hls hpf hf hzr hg2 hz; go_wp2_with (go_at_call 61; refine HPl.out.mono ?_; rintro e w2 ⟨rfl, o2⟩); go_ret; exact ⟨by rw [← HE.out.1]; rfl, HE.out.2.trans o2⟩
    | some pf =>
     obtain ⟨a, fresh⟩ := pf; rw [hpf] at hpl; dsimp only at hpl; rw [show q6n n sI z = (a : Int) from by unfold q6n; rw [hpf], show q6o n sI z = fresh from by unfold q6o; rw [hpf]] at hPl; have a0 : ¬ (a : Int) < 0 := by omega
     have hTk := fun W (o : Out 0 0 wr W) => z7p (hR.quiet o) hI (t := 0) hf hpf (by have := HLL.out; have := HN.out; omega)
     simp only [HR1.out.2.2] at hTk; have HTk := Z0 hTk; have HPl := Z0 hPl; have HE := Z0 (And.intro hpl (And.intro hO (And.intro (j0z (t := 0) hI hf hpf) (And.intro hls hg2)))); clear hPl hpl hO hR hI hls hpf hf hzr hTk hg2 hz; go_wp2_with (first | (go_at_call 61; refine HPl.out.mono ?_; rintro e w2 ⟨rfl, o2⟩; have HT := Z0 (HTk.out _ o2); have d2 := o2.cell d0 z0; have HO2 := Z0 o2; clear o2 d0) | (go_at_call 62; refine HT.out.mono ?_; rintro e w3 ⟨⟨v, rfl⟩, hR3, o3⟩; have H3 := Z0 (And.intro hR3 o3); clear hR3 o3)); refine ⟨⟨i + 1, _, by congr 1, by omega, H3.out.1, HE.out.2.2.1, HE.out.1, ?_, ?_⟩, by simp [intOf] <;> omega⟩
     ·show U8 sI 3 ≤ _
      have := HE.out.2.2.2.1; unfold U8; split <;> push_cast <;> omega
     ·exact (HE.out.2.1.trans HO2.out).past H3.out.2 (Nat.le_refl _)
   ·rw [if_neg hzr] at hpl; have HPo := Z0 (q0z z hzr (some ⟨X, 0, none⟩)); have HE := Z0 (And.intro hpl hO); clear hpl hO hR hI hls hzr hg2 hz; go_wp2_with (go_at_call 61; refine Z5 (HPo.out _) ?_); go_ret; exact ⟨by rw [← HE.out.1]; rfl, HE.out.2⟩
  ·have e : i = N := by omega
   subst e; have hd : l.drop i = [] := List.drop_eq_nil_of_le (by have := HN.out; omega); rw [hd] at hpl; have HE := Z0 (And.intro hpl hO); clear hd hpl hO hR hI hls; go_wp2; go_ret; exact ⟨by rw [← HE.out.1]; rfl, HE.out.2⟩
end
section
variable {B : Nat} {w w' : World} {b lo hi m n cap cw co c : Nat} {s sr : Nat → Nat} {st st' : Sp} {col : Nat → Nat} {z : Bool}
theorem q1k (h : PS B w b lo m m b s sr n cap cw co st col z c) (o0 o2 o3 o4 : Int) (lp : Option Addr) (ll lc : Nat) (l : List Int) (hl : z2x w lp l) (hll : l.length = ll) (hn : ll ≤ 4000) (hlast : st.last < 4611686018427387904) : Calls Tryz.prog 11 #[.pointer (some ⟨b, 0, none⟩), .agg #[.int .i64 o0, .int .i64 14, .int .i64 o2, .int .i64 o3, .int .i64 o4, .slice lp ll lc]] w fun e w' => e = .returned (.bool true) ∧ Out 0 0 w w' := by
 have HP := Z0 h; obtain ⟨bo, hbo⟩ : ∃ bo, w.heap.size = bo := ⟨_, rfl⟩
 have HBo : Hid (b < bo) := by rw [← hbo]; exact h.b_lt
 clear h; go_enter Tryz.func11, Tryz.ntmps11
 go_wp2_with fail; obtain ⟨W, hW⟩ : ∃ W, w.alloc (.cells #[.int .i64 o0, .int .i64 14, .int .i64 o2, .int .i64 o3, .int .i64 o4, .slice lp ll lc] 29) = W := ⟨_, rfl⟩
 have oW : Out 0 0 w W := by rw [← hW]; exact (Out.refl 0 0 _).alloc _
 have fO : W.heap[bo]? = some (.cells #[.int .i64 o0, .int .i64 14, .int .i64 o2, .int .i64 o3, .int .i64 o4, .slice lp ll lc] 29 (0, 0)) := by rw [← hW, ← hbo]; exact heap_alloc_new _ _
 (try rw [hW]); clear hW hbo; have HLi := Z0 hl; have HLl := Z0 hll; have ll0 : (0 : Int) ≤ (ll : Int) := by omega
 have ll1 : (ll : Int) ≤ 4000 := by omega
 obtain ⟨T, hT⟩ : ∃ T, ll + 20 = T := ⟨_, rfl⟩
 have HT := Z0 hT; have T1 : (ll : Int) ≤ (T : Int) := by omega
 obtain ⟨vf, hvf⟩ : ∃ v, z1w n st l = v := ⟨_, rfl⟩
 have HLe := q5p (cp := lc) (z1q hl oW (fun _ _ _ _ => .inr (Nat.zero_le _))) (by omega); rw [hll, hT] at HLe; have HLe := Z0 HLe; have HFr : Hid (∀ V, Out 0 0 w V → Calls Tryz.prog 25 #[.pointer (some ⟨sr 0, 0, none⟩), .slice lp ll lc] V fun e w' => e = .returned (.bool vf) ∧ Out 0 0 V w') := fun V o => by
  have q := q1q (HP.out.rf.quiet o) HP.out.sp.2 (cp := lc) (z1q hl o (fun _ _ _ _ => .inr (Nat.zero_le _))) (by omega); rw [hvf, hll] at q; exact q
 have HFp : Hid (∀ V G cc, Out 0 0 w V → Row V G 3 T (lnV l) → Calls Tryz.prog 23 #[.pointer (some ⟨s 14, 0, none⟩), .slice (some ⟨G, 0, none⟩) ll cc] V fun e w' => e = .returned (.bool vf) ∧ Out 0 0 V w') := fun V G cc o hr => by
  have hi : z5u V (some ⟨G, 0, none⟩) l := by
   refine .inr ⟨G, rfl, hr.lt, fun j hj => ?_⟩; have q := hr.cell (i := j) (by omega); rw [q]; unfold lnV; simp [hj]
  have q := q8g (HP.out.sp.quiet o).1 (cp := cc) hi (by omega); rw [show (Z6 n st).S = st.S from rfl, j4o HP.out.sp.2, hvf, hll] at q; exact q
 have HK : Hid (∀ V G cc, Out 0 0 w V → Row V G 3 T (lnV l) → Calls Tryz.prog 24 #[.slice (some ⟨G, 0, none⟩) T cc, .slice lp ll lc] V fun e w' => e = .returned (.bool true) ∧ Out G (G + 1) V w') := fun V G cc o hr => by
  have q := q5x (cc := cc) (cp := lc) (l := l) (p := lp) (w := V) (G := G) (by rw [hll, hT]; exact hr) (z1q hl o (fun _ _ _ _ => .inr (Nat.zero_le _))) (by omega); rw [hll, hT] at q; exact q
 have HfO := Z0 fO; have HO := Z0 oW; have x5 := (Y8 fO).2.2.2.2.2; have Hl0 := Z0 (Q4 fO); clear hl hll hvf hT hn hlast oW fO; go_wp2_with fail; refine HLe.out.mono ?_; rintro e W1 ⟨G, cc, rfl, hr, hG, q0, hcc⟩; have cc1 : (T : Int) ≤ (cc : Int) := by omega
 have hcI : (ll : Int) ≤ (cc : Int) := by omega
 have hcN : ll ≤ cc := by omega
 have HcG := Z0 (show T ≤ cc from hcc); have o1 := HO.out.trans q0; have HG : Hid (w.heap.size ≤ G ∧ b < G ∧ bo < G) := ⟨Nat.le_trans HO.out.size hG, Nat.lt_of_lt_of_le HP.out.b_lt (Nat.le_trans HO.out.size hG), Nat.lt_of_lt_of_le Hl0.out hG⟩
 obtain ⟨p0, p1⟩ := (HP.out.quiet o1).ks.cells; replace x5 := q0.cell x5 z0; have HR := Z0 hr; have HO1 := Z0 o1; clear hr hG q0 o1; go_wp2_with fail; refine wp_region_held_drew (S := fun w' => w'.cell? ⟨b, 0, none⟩ = some (.pointer (some ⟨s 14, 0, none⟩)) ∧ w'.cell? ⟨b, 1, none⟩ = some (.pointer (some ⟨sr 0, 0, none⟩)) ∧ w'.cell? ⟨bo, 5, none⟩ = some (.slice lp ll lc)) (by kernel_rfl) ?hS178 (fun hHeld => ?rest178)
 case hS178 => exact ⟨p0, p1, x5⟩
 obtain ⟨Z, hZ⟩ : ∃ Z, W1.drew = Z := ⟨_, rfl⟩
 have oZ : Out 0 0 W1 Z := by rw [← hZ]; exact (Out.refl 0 0 _).drew
 rw [hZ] at hHeld ⊢; clear hZ p0 p1 x5; refine tk 0 ?_; refine tk 1 ?_; refine tk 2 ?_; refine tk 3 ?_; refine tk 4 ?_; refine tk 5 ?_; refine tk 6 ?_; refine tk 7 ?_; refine tk 8 ?_; refine rd1 9 fun KK hK => ?_
 simp only [xa, xb, xc]; go_simp; refine (HFp.out _ _ _ (HO1.out.trans oZ) (HR.out.kept oZ z0)).mono ?_; rintro e V1 ⟨rfl, q1⟩; refine hK.out _ _ ?hS188 (fun hHeld2 => ?rest188)
 case hS188 => exact ⟨q1.cell hHeld.1 z0, q1.cell hHeld.2.1 z0, q1.cell hHeld.2.2 z0⟩
 clear hK KK; replace hHeld := hHeld2; clear hHeld2; refine tk 10 ?_; refine dn ?_; have HO5 := Z0 (HO1.out.trans (oZ.trans q1)); have HR5 := Z0 (HR.out.kept (oZ.trans q1) z0); obtain ⟨p0, p1, x5⟩ := hHeld; clear oZ q1; go_wp2_with fail; refine wp_region_held_drew (S := fun w' => w'.cell? ⟨b, 0, none⟩ = some (.pointer (some ⟨s 14, 0, none⟩)) ∧ w'.cell? ⟨b, 1, none⟩ = some (.pointer (some ⟨sr 0, 0, none⟩)) ∧ w'.cell? ⟨bo, 5, none⟩ = some (.slice lp ll lc)) (by kernel_rfl) ?hS161 (fun hHeld => ?rest161)
 case hS161 => exact ⟨p0, p1, x5⟩
 obtain ⟨Y, hZ⟩ : ∃ Z, V1.drew = Z := ⟨_, rfl⟩
 have oY : Out 0 0 V1 Y := by rw [← hZ]; exact (Out.refl 0 0 _).drew
 rw [hZ] at hHeld ⊢; clear hZ p0 p1 x5; refine tk 0 ?_; refine tk 1 ?_; refine tk 2 ?_; refine rd1 3 fun KK hK => ?_
 simp only [xa, xb, xc]; go_simp; refine (HK.out _ _ _ (HO5.out.trans oY) (HR5.out.kept oY z0)).mono ?_; rintro e V5 ⟨rfl, q5⟩; have w5 := (HO5.out.trans oY).past q5 HG.out.1; refine hK.out _ _ ?hS165 (fun hHeld2 => ?rest165)
 case hS165 => exact ⟨q5.cell hHeld.1 (.inl (by have := HG.out; omega)), q5.cell hHeld.2.1 (.inl (by have := HG.out; omega)), q5.cell hHeld.2.2 (.inl (by have := HG.out; omega))⟩
 clear hK KK; replace hHeld := hHeld2; clear hHeld2; refine tk 4 ?_; refine tk 5 ?_; refine tk 6 ?_; refine tk 7 ?_; refine tk 8 ?_; refine tk 9 ?_; refine tk 10 ?_; refine tk 11 ?_; refine rd1 12 fun KK hK => ?_
 simp only [xa, xb, xc]; go_simp; refine (HFr.out _ w5).mono ?_; rintro e V6 ⟨rfl, q6⟩; refine hK.out _ _ ?hS174 (fun hHeld2 => ?rest174)
 case hS174 => exact ⟨q6.cell hHeld.1 z0, q6.cell hHeld.2.1 z0, q6.cell hHeld.2.2 z0⟩
 clear hK KK; replace hHeld := hHeld2; clear hHeld2; refine tk 13 ?_; refine tk 14 ?_; refine tk 15 ?_; refine dn ?_; have hE : Hid (Out 0 0 w V6) := w5.trans q6; clear hHeld q5 q6 oY w5; go_wp2; go_ret; exact ⟨rfl, hE.out⟩
end
theorem look_fits : z7g 14 14 := fun B w q st col c o0 k a b' d lp lc l h hc k1 k2 ha hb hl hg hn hx => by
 obtain rfl : k = 14 := by omega
 exact (q1k h.1 o0 a b' d lp l.length lc l hl rfl (by omega) (by have := h.2; omega)).mono fun e w' g => z2e h g
end Go.Proofs.YtjbbkeoolodeaaaGreatDoor
