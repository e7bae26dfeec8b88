import Derived.Test.YtjbbkeoolodeaaaGreatDoorG36
import Derived.Test.YtjbbkeoolodeaaaGreatDoorG14
import Derived.Test.YtjbbkeoolodeaaaGreatDoorG31
import Derived.Test.YtjbbkeoolodeaaaGreatDoorG20
import Derived.Test.YtjbbkeoolodeaaaGreatDoorG23
import Derived.Test.YtjbbkeoolodeaaaGreatDoorG30
namespace Go.Proofs.YtjbbkeoolodeaaaGreatDoor
open Go.RowKit
set_option linter.unusedVariables false
set_option linter.unusedSimpArgs false

section
variable {w w' : World} {lo hi n cw co : Nat} {s : Nat → Nat} {st : Sp}
theorem RfAt.apart (h : RfAt w lo hi s n cw co st) {i j : Nat} (hi' : i < 5) (hj : j < 5) (hne : i ≠ j) : s i < s j ∨ s j + 1 ≤ s i := by
  have : s i ≠ s j := fun e => hne (h.ne i j hi' hj e)
  omega
/-- other pages -/
theorem RfAt.setT (h : RfAt w lo hi s n cw co st) {S' : Nat → Int × Int × Int} (ht : TblAt 121 w' (s 2) (s 3) n S') (o : Out (s 3) (s 3 + 1) w w') : RfAt w' lo hi s n cw co { st with S := S' } ∧ Out lo hi w w' := by
  have h3 := h.inn 3 (by omega)
  exact ⟨⟨h.n1, h.n2, Nat.le_trans h.top o.size, h.glob, h.inn, h.ne, o.heap h.box (h.apart (by omega) (by omega) (by omega)), h.rw.kept o (h.apart (by omega) (by omega) (by omega)), ht, h.ro.kept o (h.apart (by omega) (by omega) (by omega))⟩, o.wide h3.1 (by omega)⟩
/-- another last serial -/
theorem RfAt.setL (h : RfAt w lo hi s n cw co st) (x : Int) : RfAt (w.setCell ⟨s 0, 3, none⟩ (.int .i64 x)) lo hi s n cw co { st with last := x } ∧ Out lo hi w (w.setCell ⟨s 0, 3, none⟩ (.int .i64 x)) := by
  have o : Out (s 0) (s 0 + 1) w (w.setCell ⟨s 0, 3, none⟩ (.int .i64 x)) := (Out.refl _ _ _).setCell (p := ⟨s 0, 3, none⟩) (.inl ⟨Nat.le_refl _, Nat.lt_succ_self _⟩) _
  have h0 := h.inn 0 (by omega)
  refine ⟨⟨h.n1, h.n2, Nat.le_trans h.top o.size, h.glob, h.inn, h.ne, ?_, h.rw.kept o (h.apart (by omega) (by omega) (by omega)), h.rt.kept o (h.apart (by omega) (by omega) (by omega)) (h.apart (by omega) (by omega) (by omega)), h.ro.kept o (h.apart (by omega) (by omega) (by omega))⟩, o.wide h0.1 (by omega)⟩
  simp [World.setCell, Array.getElem?_modify, h.box]
theorem obC_other (st : Sp) {st' : Sp} {j : Nat} (e : st'.O (j / 5) = st.O (j / 5)) : obC st' j = obC st j := by unfold obC; rw [e]
end
section
variable {n p : Nat} {st : Sp} {c : Int}
/-- a fresh page: its blocks but for the first are free, no other ones are -/
structure Fresh (n p : Nat) (st : Sp) (c : Int) : Prop where
  inn : ∀ j, fr n st c j = true → 64 * p < j ∧ j < 64 * p + 64
  all : ∀ i, 1 ≤ i → (i + 1) * wN c ≤ 64 → fr n st c (64 * p + i * wN c) = true
theorem Fresh.last (h : Fresh n p st c) (h0 : 0 ≤ c) (h7 : c ≤ 7) {B : Nat} (h1 : B * wN c ≤ 64) (h2 : 64 < (B + 1) * wN c) (j : Nat) (hj : fr n st c j = true) : j < 64 * p + B * wN c := by
  by_cases q : j < 64 * p + B * wN c
  · exact q
  · rw [fr_behind h0 h7 h2 (by omega) (h.inn j hj).2] at hj; cases hj
end
end Go.Proofs.YtjbbkeoolodeaaaGreatDoor
namespace Go.Proofs.YtjbbkeoolodeaaaGreatDoor
open Go.RowKit
set_option linter.unusedVariables false
set_option linter.unusedSimpArgs false

end Go.Proofs.YtjbbkeoolodeaaaGreatDoor
namespace Go.Proofs.YtjbbkeoolodeaaaGreatDoor
open Go.RowKit
set_option linter.unusedVariables false
set_option linter.unusedSimpArgs false

end Go.Proofs.YtjbbkeoolodeaaaGreatDoor
namespace Go.Proofs.YtjbbkeoolodeaaaGreatDoor
open Go.RowKit
set_option linter.unusedVariables false
set_option linter.unusedSimpArgs false

end Go.Proofs.YtjbbkeoolodeaaaGreatDoor
namespace Go.Proofs.YtjbbkeoolodeaaaGreatDoor
open Go.RowKit
set_option linter.unusedVariables false
set_option linter.unusedSimpArgs false

end Go.Proofs.YtjbbkeoolodeaaaGreatDoor
namespace Go.Proofs.YtjbbkeoolodeaaaGreatDoor
open Go.RowKit
set_option linter.unusedVariables false
set_option linter.unusedSimpArgs false

end Go.Proofs.YtjbbkeoolodeaaaGreatDoor
namespace Go.Proofs.YtjbbkeoolodeaaaGreatDoor
open Go.RowKit
set_option linter.unusedVariables false
set_option linter.unusedSimpArgs false

end Go.Proofs.YtjbbkeoolodeaaaGreatDoor
namespace Go.Proofs.YtjbbkeoolodeaaaGreatDoor
open Go.RowKit
set_option linter.unusedVariables false
set_option linter.unusedSimpArgs false

section
variable {w : World} {lo hi n cw co : Nat} {s : Nat → Nat} {st : Sp}
theorem RfAt.same (h : RfAt w lo hi s n cw co st) {st' : Sp} (hW : ∀ j, j < 64 * n → st'.W j = st.W j) (hS : ∀ p, p < n → st'.S p = st.S p) (hO : ∀ a, a < 64 * n → st'.O a = st.O a) (hg : Good n st'.S) (hl : st'.last = st.last) : RfAt w lo hi s n cw co st' := by
  refine ⟨h.n1, h.n2, h.top, h.glob, h.inn, h.ne, by rw [hl]; exact h.box, h.rw.congr fun j hj => by rw [hW j hj], ?_, h.ro.congr fun j hj => by rw [obC_other st (hO (j / 5) (by omega))]⟩
  obtain ⟨cap, hb, k1, k2, k3, k4, k5, k6, k7, hr⟩ := h.rt
  exact ⟨cap, hb, k1, k2, k3, k4, k5, k6, hg, hr.congr fun i hi => (hS i hi).symm⟩
end
end Go.Proofs.YtjbbkeoolodeaaaGreatDoor
namespace Go.Proofs.YtjbbkeoolodeaaaGreatDoor
open Go.RowKit
set_option linter.unusedVariables false
set_option linter.unusedSimpArgs false

end Go.Proofs.YtjbbkeoolodeaaaGreatDoor
namespace Go.Proofs.YtjbbkeoolodeaaaGreatDoor
open Go.RowKit
set_option linter.unusedVariables false
set_option linter.unusedSimpArgs false

end Go.Proofs.YtjbbkeoolodeaaaGreatDoor
namespace Go.Proofs.YtjbbkeoolodeaaaGreatDoor
open Go.RowKit
set_option linter.unusedVariables false
set_option linter.unusedSimpArgs false

end Go.Proofs.YtjbbkeoolodeaaaGreatDoor
namespace Go.Proofs.YtjbbkeoolodeaaaGreatDoor
open Go.RowKit
set_option linter.unusedVariables false
set_option linter.unusedSimpArgs false

/-- a pair: its two spaces' places, and what was answered (nothing yet) -/
def pr0 (x y : Nat) : Obj := .cells #[.pointer (some ⟨x, 0, none⟩), .pointer (some ⟨y, 0, none⟩), .slice none 0 0, .slice none 0 0, .slice none 0 0, .slice none 0 0, .slice none 0 0, .slice none 0 0, .slice none 0 0, .slice none 0 0, .slice none 0 0, .slice none 0 0, .slice none 0 0, .slice none 0 0] 48
theorem spNew_no (n : Int) (h : newB n = false) (w : World) : Calls Tryz.prog 14 #[.int .i64 n] w fun e w' => e = .returned (.tuple #[.pointer none, .int .i64 1]) ∧ w' = w := by
  have HP := hid_mk (fun w => new_no n h w)
  clear h
  go_enter Tryz.func14, Tryz.ntmps14
  go_wp2_with (go_at_call 42; refine calls_same (HP.out _) ?_)
  go_ret2
  exact ⟨rfl, rfl⟩
theorem made_no (n : Int) (h : newB n = false) (w : World) : Calls Tryz.prog 9 #[.int .i64 n] w fun e w' => e = .returned (.tuple #[.pointer none, .bool true]) ∧ w' = w := by
  have HP := hid_mk (fun w => spNew_no n h w)
  have HR := hid_mk (fun w => refNewS_no n h w)
  unfold newB at h
  simp at h
  by_cases h1 : 1 ≤ n
  · have h2 : 4096 < n := by omega
    have h3 : ¬ n ≤ 4096 := by omega
    have h4 : 24 < n := by omega
    clear h
    go_enter Tryz.func9, Tryz.ntmps9
    go_wp2_with (first | (go_at_call 14; refine calls_same (HP.out _) ?_) | (go_at_call 16; refine calls_same (HR.out _) ?_))
    go_ret2
    exact ⟨rfl, rfl⟩
  · have h4 : ¬ 24 < n := by omega
    clear h h1
    go_enter Tryz.func9, Tryz.ntmps9
    go_wp2_with (first | (go_at_call 14; refine calls_same (HP.out _) ?_) | (go_at_call 16; refine calls_same (HR.out _) ?_))
    go_ret2
    exact ⟨rfl, rfl⟩
theorem made_great {w : World} (hT : Tab w) (n : Nat) (h1 : 24 < n) (h2 : n ≤ 4096) : Calls Tryz.prog 9 #[.int .i64 n] w fun e w' => e = .returned (.tuple #[.pointer none, .bool true]) ∧ Out 0 0 w w' := by
  have HP := hid_mk (spNew_any hT n (by omega) h2)
  have n1 : (24 : Int) < (n : Int) := by omega
  have n2 : (n : Int) ≤ 4096 := by omega
  clear hT h1 h2
  go_enter Tryz.func9, Tryz.ntmps9
  go_wp2_with fail
  refine HP.out.mono ?_
  rintro e w1 ⟨s, cap, rfl, hs, ho⟩
  have hW := spWords_any hs.1
  rw [show ((64 * n : Nat) : Int) = 64 * (n : Int) from by omega] at hW
  obtain ⟨X, hX⟩ : ∃ X, s 14 = X := ⟨_, rfl⟩
  rw [hX] at hW ⊢
  have HW := hid_mk hW
  have HO := hid_mk ho
  clear hs ho hX hW
  go_wp2_with (go_at_call 15; refine calls_same HW.out ?_)
  go_ret2
  exact ⟨rfl, HO.out⟩
theorem made_yes {w : World} (hT : Tab w) (n : Nat) (h1 : 1 ≤ n) (h2 : n ≤ 24) : Calls Tryz.prog 9 #[.int .i64 n] w fun e w' => ∃ b s sr cap m, e = .returned (.tuple #[.pointer (some ⟨b, 0, none⟩), .bool true]) ∧ SpAt w' w.heap.size m s n cap newSp ∧ RfAt w' m b sr n (64 * n) (64 * n) newSp ∧ w'.heap[b]? = some (pr0 (s 14) (sr 0)) ∧ w'.heap.size = b + 1 ∧ Out 0 0 w w' := by
  have HP := hid_mk (spNew_any hT n h1 (by omega))
  have HT := hid_mk hT
  have HN := hid_mk (And.intro h1 h2)
  have n1 : (1 : Int) ≤ (n : Int) := by omega
  have n2 : (n : Int) ≤ 24 := by omega
  have n3 : ¬ (24 : Int) < (n : Int) := by omega
  clear hT h1 h2
  go_enter Tryz.func9, Tryz.ntmps9
  go_wp2_with fail
  refine HP.out.mono ?_
  rintro e w1 ⟨s, cap, rfl, hs, ho⟩
  obtain ⟨X, hX⟩ : ∃ X, s 14 = X := ⟨_, rfl⟩
  rw [hX]
  have hNr := refNewS_yes (w := w1) (by have := (HT.out.quiet ho).lt; omega) n HN.out.1 (by have := HN.out; omega)
  have HNr := hid_mk hNr
  have H1 := hid_mk (And.intro hs (And.intro ho hX))
  clear hs ho hX hNr
  go_wp2_with fail
  refine HNr.out.mono ?_
  rintro e w2 ⟨sr, rfl, hr, o2⟩
  obtain ⟨Y, hY⟩ : ∃ Y, sr 0 = Y := ⟨_, rfl⟩
  rw [hY]
  have H2 := hid_mk (And.intro hr (And.intro o2 hY))
  clear hr o2 hY
  go_wp2_with fail
  go_ret2
  have o3 : Out 0 0 w2 (w2.alloc (pr0 X Y)) := (Out.refl 0 0 w2).alloc _
  refine ⟨w2.heap.size, s, sr, cap, w1.heap.size, rfl, ?_, ?_, ?_, World.size_alloc _ _, (H1.out.2.1.trans H2.out.2.1).trans o3⟩
  · exact ((H1.out.1.quiet H2.out.2.1).quiet o3)
  · exact H2.out.1.quiet o3
  · rw [H1.out.2.2, H2.out.2.2]; exact heap_alloc_new _ _
end Go.Proofs.YtjbbkeoolodeaaaGreatDoor
namespace Go.Proofs.YtjbbkeoolodeaaaGreatDoor
open Go.RowKit
set_option linter.unusedVariables false
set_option linter.unusedSimpArgs false

/-- a pair: both spaces hold the same -/
structure Two (w : World) (b lo hi lo' hi' : Nat) (s sr : Nat → Nat) (n cap cw co : Nat) (st : Sp) : Prop where
  sp : SpAt w lo hi s n cap st
  rf : RfAt w lo' hi' sr n cw co st
  p0 : w.cell? ⟨b, 0, none⟩ = some (.pointer (some ⟨s 14, 0, none⟩))
  p1 : w.cell? ⟨b, 1, none⟩ = some (.pointer (some ⟨sr 0, 0, none⟩))
section
variable {w w' : World} {b lo hi lo' hi' n cap cw co : Nat} {s sr : Nat → Nat} {st : Sp}
theorem Two.quiet (h : Two w b lo hi lo' hi' s sr n cap cw co st) (o : Out 0 0 w w') : Two w' b lo hi lo' hi' s sr n cap cw co st :=
  ⟨h.sp.quiet o, h.rf.quiet o, o.cell h.p0 (.inr (Nat.zero_le _)), o.cell h.p1 (.inr (Nat.zero_le _))⟩
end
end Go.Proofs.YtjbbkeoolodeaaaGreatDoor
namespace Go.Proofs.YtjbbkeoolodeaaaGreatDoor
open Go.RowKit
set_option linter.unusedVariables false
set_option linter.unusedSimpArgs false

def nD (n : Nat) (st : Sp) (t : Nat) : Nat := if t = 0 then 64 * n else if t = 1 then n else (objsTo (rawOf n st) (64 * n)).length
def fD (n : Nat) (st : Sp) (t j i : Nat) : Int := if t = 0 then fW st j i else if t = 1 then fP st j i else fO (objsTo (rawOf n st) (64 * n)) j i
def x6 (a2 a3 a4 a5 a6 a7 : Value) : Nat → Value
  | 2 => a2
  | 3 => a3
  | 4 => a4
  | 5 => a5
  | 6 => a6
  | _ => a7
theorem nD_le {n : Nat} (hn : n ≤ 24) (st : Sp) (t : Nat) : nD n st t ≤ 1536 := by
  have := objs_len (rawOf n st) (64 * n)
  unfold nD
  split
  · omega
  · split <;> omega
theorem dmp_own {w : World} {B base n : Nat} {st : Sp} {gw cw gp cp : Nat} {vb : Value} (h : DmpIs w base n (rawOf n st) gw cw gp cp vb) (hB : B ≤ base) :
    OwnF B w 0 (.slice (some ⟨gw, 0, none⟩) (64 * n) cw) (nD n st 0) (fD n st 0) ∧ OwnF B w 1 (.slice (some ⟨gp, 0, none⟩) n cp) (nD n st 1) (fD n st 1) ∧ OwnF B w 2 vb (nD n st 2) (fD n st 2) := by
  obtain ⟨d1, d2, d3, _⟩ := h
  refine ⟨⟨_, own_mono d1 hB, fun j i hj hi => ?_⟩, ?_, ⟨_, own_mono d3 hB, fun j i hj hi => bks_at _ j i hj hi⟩⟩
  · have hi1 : i < 1 := hi
    have : i = 0 := by omega
    subst this
    have hj2 : j < 64 * n := hj
    show _ = some (Value.int .i64 (fW st j 0))
    rw [show j * szK 0 + 0 = j from by unfold szK; simp]
    simp [hj2, fW, rawOf]
  · have d2' : w.ownsRow base 155 3 (.slice (some ⟨gp, 0, none⟩) n cp) n (pgs (pgl st.S n)) := by
      have := d2
      unfold ListIs at this
      rw [pgl_len] at this
      exact this
    refine ⟨_, own_mono d2' hB, fun j i hj hi => ?_⟩
    have hj2 : j < n := hj
    have hi2 : i < 3 := hi
    show (pgs (pgl st.S n))[j * 3 + i]? = some (Value.int .i64 (fP st j i))
    rw [pgs_cell st.S n (by omega)]
    rfl
/-- what is kept of a pair: how many lists, how many marks -/
def KS (B : Nat) (w : World) (b : Nat) (v0 v1 : Value) (col : Nat → Nat) (z : Bool) (c : Nat) : Prop :=
  ∃ V X C p N0 N2 F0 F1 F2, Kp B w b V X C col none p ∧ Lens X N0 N2 F0 F1 F2 ∧ (N0 + N2 ≤ 32 ∧ F0 ≤ 8 * c ∧ F1 ≤ 8 * c ∧ F2 ≤ 8 * c) ∧ (V 0 = v0 ∧ V 1 = v1) ∧ (z = true → p = fun _ => 0)
theorem KS.chg {B : Nat} {w w' : World} {b : Nat} {v0 v1 : Value} {col : Nat → Nat} {z : Bool} {c : Nat} {P : Nat → Prop} (h : KS B w b v0 v1 col z c) (o : Chg col P w w') (hP : ∀ c, P c → c = 7 ∨ c = 9) : KS B w' b v0 v1 col z c := by
  obtain ⟨V, X, C, p, N0, N2, F0, F1, F2, h1, h2⟩ := h
  exact ⟨V, X, C, p, N0, N2, F0, F1, F2, h1.chg o fun c hc => by rcases hP c hc with e | e; exact .inl e; exact .inr (.inl e), h2⟩
theorem KS.quiet {B : Nat} {w w' : World} {b : Nat} {v0 v1 : Value} {col : Nat → Nat} {z : Bool} {c : Nat} (h : KS B w b v0 v1 col z c) (o : Out 0 0 w w') : KS B w' b v0 v1 col z c := h.chg (P := fun c => c = 9) (Chg.of_out o _ _) (fun _ h => .inr h)
theorem KS.recol {B : Nat} {w : World} {b : Nat} {v0 v1 : Value} {col col' : Nat → Nat} {z : Bool} {c : Nat} (h : KS B w b v0 v1 col z c) (e : ∀ x, x < w.heap.size → col' x = col x) : KS B w b v0 v1 col' z c := by
  obtain ⟨V, X, C, p, N0, N2, F0, F1, F2, h1, h2⟩ := h
  exact ⟨V, X, C, p, N0, N2, F0, F1, F2, h1.recol fun x hx _ => e x hx, h2⟩
theorem KS.cells {B : Nat} {w : World} {b : Nat} {v0 v1 : Value} {col : Nat → Nat} {z : Bool} {c : Nat} (h : KS B w b v0 v1 col z c) : w.cell? ⟨b, 0, none⟩ = some v0 ∧ w.cell? ⟨b, 1, none⟩ = some v1 := by
  obtain ⟨V, X, C, p, N0, N2, F0, F1, F2, h1, h2, h3, ⟨rfl, rfl⟩, h5⟩ := h
  exact ⟨h1.cell 0 (by omega), h1.cell 1 (by omega)⟩
theorem KS.mono {B : Nat} {w : World} {b : Nat} {v0 v1 : Value} {col : Nat → Nat} {z : Bool} {c c' : Nat} (h : KS B w b v0 v1 col z c) (hc : c ≤ c') : KS B w b v0 v1 col z c' := by
  obtain ⟨V, X, C, p, N0, N2, F0, F1, F2, h1, h2, h3, h4⟩ := h
  exact ⟨V, X, C, p, N0, N2, F0, F1, F2, h1, h2, by omega, h4⟩
/-- six blocks of a dump, each its own; they are new -/
theorem kdump_ks {B b n c : Nat} {st : Sp} {v0 v1 : Value} {col : Nat → Nat} {z : Bool} {w0 w1 w : World} {gw cw gp cp gw' cw' gp' cp' : Nat} {vb vb' : Value} {h0 h1 h2 h3 h4 h5 h6 h7 sr : Int} (h : KS B w0 b v0 v1 col z c) (hc : c ≤ 900) (o1 : Out 0 0 w0 w1) (o2 : Out 0 0 w1 w)
    (d1 : DmpIs w1 w0.heap.size n (rawOf n st) gw cw gp cp vb) (d2 : DmpIs w w1.heap.size n (rawOf n st) gw' cw' gp' cp' vb') (hn : n ≤ 24) (q : Bool) :
    Calls Tryz.prog 36 #[.pointer (some ⟨b, 2, none⟩), .agg #[.slice (some ⟨gw, 0, none⟩) (64 * n) cw, .slice (some ⟨gp, 0, none⟩) n cp, vb, .int .i64 h0, .int .i64 h1, .int .i64 h2, .int .i64 h3, .int .i64 h4, .int .i64 h5, .int .i64 h6, .int .i64 h7, .int .i64 sr], .agg #[.slice (some ⟨gw', 0, none⟩) (64 * n) cw', .slice (some ⟨gp', 0, none⟩) n cp', vb', .int .i64 h0, .int .i64 h1, .int .i64 h2, .int .i64 h3, .int .i64 h4, .int .i64 h5, .int .i64 h6, .int .i64 h7, .int .i64 sr], .bool q] w fun e w' => e = .returned (.bool true) ∧ ∃ col', KS B w' b v0 v1 col' z (c + 1) ∧ Fix col col' w0 w' := by
  obtain ⟨V, X, C, p, N0, N2, F0, F1, F2, k1, k2, k3, k4, k5⟩ := h
  have hBB := k1.hB
  have s1 := o1.size
  have s2 := o2.size
  have d1' := d1.kept o2 (Nat.zero_le _)
  obtain ⟨A0, A1, A2⟩ := dmp_own d1' hBB
  obtain ⟨B0, B1, B2⟩ := dmp_own d2 (B := B) (by omega)
  obtain ⟨b1, b2⟩ := own_block d1.1 gw rfl
  obtain ⟨b3, b4⟩ := own_block d1.2.1 gp rfl
  have b5 := fun g hg => own_block d1.2.2.1 g hg
  obtain ⟨b6, b7⟩ := own_block d2.1 gw' rfl
  obtain ⟨b8, b9⟩ := own_block d2.2.1 gp' rfl
  have b10 := fun g hg => own_block d2.2.2.1 g hg
  have l1 := d1.2.2.2.1
  have l2 := d1.2.2.2.2
  have l3 := d2.2.2.2.1
  have l4 := d2.2.2.2.2
  have oo : Out 0 0 w0 w := o1.trans o2
  obtain ⟨dW, hdW⟩ : ∃ v, Value.slice (some ⟨gw, 0, none⟩) (64 * n) cw = v := ⟨_, rfl⟩
  obtain ⟨dP, hdP⟩ : ∃ v, Value.slice (some ⟨gp, 0, none⟩) n cp = v := ⟨_, rfl⟩
  obtain ⟨eW, heW⟩ : ∃ v, Value.slice (some ⟨gw', 0, none⟩) (64 * n) cw' = v := ⟨_, rfl⟩
  obtain ⟨eP, heP⟩ : ∃ v, Value.slice (some ⟨gp', 0, none⟩) n cp' = v := ⟨_, rfl⟩
  have ob1 : dW.ownBlock = some gw := by rw [← hdW]; rfl
  have ob2 : dP.ownBlock = some gp := by rw [← hdP]; rfl
  have ob3 : eW.ownBlock = some gw' := by rw [← heW]; rfl
  have ob4 : eP.ownBlock = some gp' := by rw [← heP]; rfl
  rw [hdW] at A0 ⊢
  rw [hdP] at A1 ⊢
  rw [heW] at B0 ⊢
  rw [heP] at B1 ⊢
  have hx : ∀ t, t < 3 → OwnF B w t (x6 dW eW dP eP vb vb' (2 + 2 * t)) (nD n st t) (fD n st t) ∧ OwnF B w t (x6 dW eW dP eP vb vb' (3 + 2 * t)) (nD n st t) (fD n st t) := fun t ht => by
    have ht2 : t = 0 ∨ t = 1 ∨ t = 2 := by omega
    rcases ht2 with rfl | rfl | rfl
    · exact ⟨A0, B0⟩
    · exact ⟨A1, B1⟩
    · exact ⟨A2, B2⟩
  obtain ⟨⟨q2, q3, q4, q5, q6, q7⟩, q8, q9, q10⟩ := id k2
  by_cases hm : 30 < N0 + N2
  · have r := kdump_many (x := x6 dW eW dP eP vb vb') (n := nD n st) (f := fD n st) (h0 := h0) (h1 := h1) (h2 := h2) (h3 := h3) (h4 := h4) (h5 := h5) (h6 := h6) (h7 := h7) (sr := sr) (q := q) (k1.quiet oo) (fun t ht => ⟨(hx t ht).1.el, nD_le hn st t, (hx t ht).2.el⟩) ⟨q2, q6⟩ (by omega) hm
    refine Calls.mono r ?_
    rintro e w' ⟨rfl, ho⟩
    exact ⟨rfl, col, ⟨V, X, C, p, N0, N2, F0, F1, F2, (k1.quiet oo).quiet ho, k2, by omega, k4, k5⟩, ((Fix.refl col w0).out oo).out ho⟩
  · have hfew : N0 + N2 ≤ 30 := by omega
    cases q with
    | false =>
      obtain ⟨colN, hcN⟩ : ∃ cN : Nat → Nat, cN = fun y => if y = gw ∨ y = gp ∨ vb.ownBlock = some y then 9 else col y := ⟨_, rfl⟩
      have hag : ∀ y, y < w0.heap.size → colN y = col y := fun y hy => by
        rw [hcN]
        show (if y = gw ∨ y = gp ∨ vb.ownBlock = some y then 9 else col y) = col y
        rw [if_neg (fun e => by rcases e with e | e | e; omega; omega; have := (b5 y e).1; omega)]
      have kk : Kp B w b V X C colN none p := (k1.recol fun y hy _ => hag y hy).quiet oo
      have hdin : DIn B w colN (x6 dW eW dP eP vb vb') (nD n st) (fD n st) := by
        refine ⟨fun t ht => ⟨(hx t ht).1, nD_le hn st t, (hx t ht).2.el, ?_⟩, ?_⟩
        · have ht2 : t = 0 ∨ t = 1 ∨ t = 2 := by omega
          rw [hcN]
          rcases ht2 with rfl | rfl | rfl
          · intro g hg
            have hg2 : dW.ownBlock = some g := hg
            rw [ob1] at hg2
            cases hg2
            exact if_pos (.inl rfl)
          · intro g hg
            have hg2 : dP.ownBlock = some g := hg
            rw [ob2] at hg2
            cases hg2
            exact if_pos (.inr (.inl rfl))
          · intro g hg
            exact if_pos (.inr (.inr hg))
        · intro t s g ht hs hne hg1 hg2
          have ht2 : t = 0 ∨ t = 1 ∨ t = 2 := by omega
          have hs2 : s = 0 ∨ s = 1 ∨ s = 2 := by omega
          have e0 : ∀ t, t = 0 → (x6 dW eW dP eP vb vb' (2 + 2 * t)).ownBlock = some g → g = gw := fun t ht hg => by
            subst ht
            have hg2 : dW.ownBlock = some g := hg
            rw [ob1] at hg2; cases hg2; rfl
          have e1 : ∀ t, t = 1 → (x6 dW eW dP eP vb vb' (2 + 2 * t)).ownBlock = some g → g = gp := fun t ht hg => by
            subst ht
            have hg2 : dP.ownBlock = some g := hg
            rw [ob2] at hg2; cases hg2; rfl
          have e2 : ∀ t, t = 2 → (x6 dW eW dP eP vb vb' (2 + 2 * t)).ownBlock = some g → gp < g := fun t ht hg => by
            subst ht
            exact l2 g hg
          rcases ht2 with a | a | a <;> rcases hs2 with c | c | c <;> (first | omega | skip)
          · have := e0 t a hg1; have := e1 s c hg2; omega
          · have := e0 t a hg1; have := e2 s c hg2; omega
          · have := e1 t a hg1; have := e0 s c hg2; omega
          · have := e1 t a hg1; have := e2 s c hg2; omega
          · have := e2 t a hg1; have := e0 s c hg2; omega
          · have := e2 t a hg1; have := e1 s c hg2; omega
      have r := kdump_mark (x := x6 dW eW dP eP vb vb') (n := nD n st) (f := fD n st) (h0 := h0) (h1 := h1) (h2 := h2) (h3 := h3) (h4 := h4) (h5 := h5) (h6 := h6) (h7 := h7) (sr := sr) kk hdin k2 (by omega) hfew
      refine Calls.mono r ?_
      rintro e w' ⟨rfl, V', X', col', r1, r2, r3, r4⟩
      refine ⟨rfl, col', ⟨V', X', C, p, N0, N2, _, _, _, r1, r2, by omega, by rw [(r3 0 (by omega)).1, (r3 1 (by omega)).1]; exact k4, k5⟩, ?_⟩
      exact ((((Fix.refl col w0).re (c2 := colN) fun k hk h7 => by rw [hag k hk]; exact h7).out oo)).trans r4
    | true =>
      obtain ⟨M, hMd⟩ : ∃ M : Nat → Nat, M = fun t => if t = 2 then N2 else N0 := ⟨_, rfl⟩
      have M0 : M 0 = N0 ∧ M 1 = N0 ∧ M 2 = N2 := by rw [hMd]; exact ⟨rfl, rfl, rfl⟩
      have hMl : ∀ t, t < 3 → (X (2 + 2 * t)).length = M t ∧ (X (3 + 2 * t)).length = M t := fun t ht => by
        have ht2 : t = 0 ∨ t = 1 ∨ t = 2 := by omega
        rcases ht2 with rfl | rfl | rfl
        · rw [M0.1]; exact ⟨q2, q3⟩
        · rw [M0.2.1]; exact ⟨q4, q5⟩
        · rw [M0.2.2]; exact ⟨q6, q7⟩
      obtain ⟨C', hC'⟩ : ∃ C' : Nat → Nat → Nat × (Nat → Nat → Int), C' = fun t i => if i = M t then (nD n st t, fD n st t) else C t i := ⟨_, rfl⟩
      have hCM : ∀ t, C' t (M t) = (nD n st t, fD n st t) := fun t => by rw [hC']; exact if_pos rfl
      obtain ⟨colN, hcN⟩ : ∃ cN : Nat → Nat, cN = fun y => if y = gw then 100 + 3 * N0 + 0 else if y = gp then 100 + 3 * N0 + 1 else if vb.ownBlock = some y then 100 + 3 * N2 + 2 else if w1.heap.size ≤ y then 6 else col y := ⟨_, rfl⟩
      have hag : ∀ y, y < w0.heap.size → colN y = col y := fun y hy => by
        rw [hcN]
        show (if y = gw then _ else if y = gp then _ else if vb.ownBlock = some y then _ else if w1.heap.size ≤ y then 6 else col y) = col y
        rw [if_neg (by omega), if_neg (by omega), if_neg (fun e => by have := (b5 y e).1; omega), if_neg (by omega)]
      have kk : Kp B w b V X C' colN none p := ((k1.setC (C' := C') fun t i ht hi => by
        rw [hC']
        exact if_neg (by have := hMl t ht; omega)).recol fun y hy _ => hag y hy).quiet oo
      have c6 : ∀ y, w1.heap.size ≤ y → colN y = 6 := fun y hy => by
        rw [hcN]
        show (if y = gw then _ else if y = gp then _ else if vb.ownBlock = some y then _ else if w1.heap.size ≤ y then 6 else col y) = 6
        rw [if_neg (by omega), if_neg (by omega), if_neg (fun e => by have := (b5 y e).2; omega), if_pos hy]
      have were : ∀ t v, OwnF B w t v (nD n st t) (fD n st t) → (∀ g, v.ownBlock = some g → w1.heap.size ≤ g) → WereC w colN v (nD n st t) (szK t) (fD n st t) := fun t v hv hg => by
        obtain ⟨a, cap, rfl⟩ := hv.shape
        refine ⟨a, cap, rfl, fun h0 => ?_⟩
        obtain ⟨g, cap', e, e2, e3, _, e4⟩ := hv.open h0
        cases e
        exact ⟨g, rfl, e3, c6 g (hg g rfl), e4⟩
      have hl : ∀ t, t < 3 → LeftC B w colN t (M t) (x6 dW eW dP eP vb vb' (2 + 2 * t)) (C' t (M t)).1 (C' t (M t)).2 ∧ WereC w colN (x6 dW eW dP eP vb vb' (3 + 2 * t)) (C' t (M t)).1 (szK t) (C' t (M t)).2 := fun t ht => by
        rw [hCM t]
        refine ⟨⟨(hx t ht).1, nD_le hn st t, ?_⟩, were t _ (hx t ht).2 ?_⟩
        · have ht2 : t = 0 ∨ t = 1 ∨ t = 2 := by omega
          rcases ht2 with rfl | rfl | rfl
          · intro g hg
            have hg2 : dW.ownBlock = some g := hg
            rw [ob1] at hg2
            cases hg2
            rw [hcN, M0.1]
            exact if_pos rfl
          · intro g hg
            have hg2 : dP.ownBlock = some g := hg
            rw [ob2] at hg2
            cases hg2
            rw [hcN, M0.2.1]
            show (if gp = gw then _ else if gp = gp then _ else _) = 100 + 3 * N0 + 1
            rw [if_neg (by omega), if_pos rfl]
          · intro g hg
            have hg2 : vb.ownBlock = some g := hg
            have := l2 g hg2
            rw [hcN, M0.2.2]
            show (if g = gw then _ else if g = gp then _ else if vb.ownBlock = some g then _ else _) = 100 + 3 * N2 + 2
            rw [if_neg (by omega), if_neg (by omega), if_pos hg2]
        · have ht2 : t = 0 ∨ t = 1 ∨ t = 2 := by omega
          rcases ht2 with rfl | rfl | rfl
          · intro g hg
            have hg2 : eW.ownBlock = some g := hg
            rw [ob3] at hg2
            cases hg2
            exact b6
          · intro g hg
            have hg2 : eP.ownBlock = some g := hg
            rw [ob4] at hg2
            cases hg2
            exact b8
          · intro g hg
            exact (b10 g hg).1
      have r := kdump_left (x := x6 dW eW dP eP vb vb') (h0 := h0) (h1 := h1) (h2 := h2) (h3 := h3) (h4 := h4) (h5 := h5) (h6 := h6) (h7 := h7) (sr := sr) kk hl hMl M0 hfew
      refine Calls.mono r ?_
      rintro e w' ⟨rfl, V', X', col', r1, r2, r3, r4⟩
      refine ⟨rfl, col', ⟨V', X', C', p, N0 + 1, N2 + 1, F0, F1, F2, r1, ⟨⟨?_, ?_, ?_, ?_, ?_, ?_⟩, ?_, ?_, ?_⟩, by omega, by rw [(r3 0 (by omega)).1, (r3 1 (by omega)).1]; exact k4, k5⟩, ?_⟩
      · rw [r2 2 (by omega) (by omega), q2]
      · rw [r2 3 (by omega) (by omega), q3]
      · rw [r2 4 (by omega) (by omega), q4]
      · rw [r2 5 (by omega) (by omega), q5]
      · rw [r2 6 (by omega) (by omega), q6]
      · rw [r2 7 (by omega) (by omega), q7]
      · rw [(r3 8 (by omega)).2, (r3 11 (by omega)).2]; exact q8
      · rw [(r3 9 (by omega)).2, (r3 12 (by omega)).2]; exact q9
      · rw [(r3 10 (by omega)).2, (r3 13 (by omega)).2]; exact q10
      · exact ((((Fix.refl col w0).re (c2 := colN) fun k hk h7 => by rw [hag k hk]; exact h7).out oo)).trans r4
end Go.Proofs.YtjbbkeoolodeaaaGreatDoor
