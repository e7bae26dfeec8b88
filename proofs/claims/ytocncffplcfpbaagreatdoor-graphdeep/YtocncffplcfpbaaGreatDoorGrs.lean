/- graph: Check and Live of alive's graph -/
import Derived.Test.YtocncffplcfpbaaGreatDoorGrq
namespace Go.Proofs.YtocncffplcfpbaaGreatDoor
open Go.RowKit Go.MapKept
set_option linter.unusedVariables false
set_option linter.unusedSimpArgs false

def KA (i : Nat) : Nat := if i = 0 then 8 else 2
def nfA (i : Nat) : Nat := if i = 0 then 2 else 1
def faA (gw gb i : Nat) : Option Addr := if i = 0 then some ⟨gw, 0, none⟩ else some ⟨gb, 0, none⟩
def lA (i : Nat) : List (Int × Int) := if i = 0 then [(2, 2), (3, 0)] else [(3, 0)]
theorem lt2 {i : Nat} (h : i < 2) : i = 0 ∨ i = 1 := by omega
theorem okA : Okay 2 KA nfA lA [(2, 1)] := by
  refine ⟨by omega, fun i hi => ?_, fun v hv => ?_⟩
  · rcases lt2 hi with rfl | rfl
    · refine ⟨by decide, by decide, by decide, by decide +kernel, by decide +kernel, fun v hv => ?_⟩
      simp [lA] at hv
      rcases hv with rfl | rfl <;> decide +kernel
    · refine ⟨by decide, by decide, by decide, by decide +kernel, by decide +kernel, fun v hv => ?_⟩
      simp [lA] at hv
      subst hv
      decide +kernel
  · simp at hv
    subst hv
    decide +kernel
/-- alive's graph -/
def AG (W : World) (gn gr gw gb : Nat) : Prop := GA W gn 2 KA (faA gw gb) nfA nfA lA ∧ VsAt W (some ⟨gr, 0, none⟩) [(2, 1)]
theorem AG.quiet {W W' : World} {gn gr gw gb : Nat} (h : AG W gn gr gw gb) (o : Out 0 0 W W') : AG W' gn gr gw gb := ⟨h.1.quiet o, h.2.quiet o⟩
abbrev agv (gn gr : Nat) : Value := .agg #[.slice (some ⟨gn, 0, none⟩) 2 2, .slice (some ⟨gr, 0, none⟩) 1 1]
theorem load_alive {W : World} (hT : Tab W) {gn gr gw gb : Nat} (h : AG W gn gr gw gb) : Calls Tryz.prog 9 #[agv gn gr] W fun e w' => ∃ h m lo b, e = .returned (.tuple #[.pointer (some ⟨h, 0, none⟩), .bool true]) ∧ Out 0 0 W w' ∧ W.heap.size ≤ h ∧ W.heap.size ≤ m ∧ W.heap.size ≤ lo ∧ h ≠ m ∧ Loaded w' lo h m 2 KA (faA gw gb) nfA nfA b :=
  load_plain (n := 2) (cn := 2) (nr := 1) (rc := 1) hT h.1 h.2 rfl (by omega) okA
set_option maxHeartbeats 4000000 in
theorem check_alive {W : World} (hT : Tab W) {gn gr gw gb : Nat} (h : AG W gn gr gw gb) : Calls Tryz.prog 6 #[agv gn gr] W fun e w' => e = .returned (.int .i64 0) ∧ Out 0 0 W w' := by
  have o0 : Out 0 0 W (W.alloc (.cells #[.slice (some ⟨gn, 0, none⟩) 2 2, .slice (some ⟨gr, 0, none⟩) 1 1] 26)) := (Out.refl 0 0 W).alloc _
  have H := hid_mk (load_alive (hT.quiet o0) (h.quiet o0))
  have HO := hid_mk o0
  clear hT h o0
  go_enter Tryz.func6, Tryz.ntmps6
  go_wp2_with fail
  refine H.out.mono ?_
  rintro e w1 ⟨hh, m, lo, b, rfl, o1, -⟩
  have HO1 := hid_mk (HO.out.trans o1)
  clear o1 H HO
  go_wp2_with fail
  go_ret
  exact ⟨rfl, HO1.out⟩
/-- the heap that was loaded, as reach and collect want it -/
theorem loaded_parts {w : World} {lo h m gw gb : Nat} {b : Nat → Nat} (hL : Loaded w lo h m 2 KA (faA gw gb) nfA nfA b) : HP w h m 2 (fS (b 0) (b 1) false) ∧ Bl w (b 0) (ndc 8 (.slice none 0 0) (.slice (some ⟨gw, 0, none⟩) 2 2)) 94 ∧ lo ≤ b 0 ∧ m < lo ∧ h < lo := by
  obtain ⟨hP, hN, h1, h2⟩ := hL
  have e : fA b 2 = fS (b 0) (b 1) false := by
    funext y
    unfold fA fS
    by_cases y1 : y = 1
    · subst y1; rfl
    · by_cases y2 : y = 2
      · subst y2; rfl
      · rw [if_neg (by omega), if_neg y1, if_neg y2]
  rw [e] at hP
  exact ⟨hP, (hN 0 (by omega)).2.1, (hN 0 (by omega)).1, h1, h2⟩
theorem AG.cells {W : World} {gn gr gw gb : Nat} (h : AG W gn gr gw gb) : W.cell? ⟨gw, 0, none⟩ = some (.int .i64 2) ∧ W.cell? ⟨gw, 1, none⟩ = some (.int .i64 2) ∧ W.cell? ⟨gw, 2, none⟩ = some (.int .i64 3) ∧ W.cell? ⟨gw, 3, none⟩ = some (.int .i64 0) ∧ W.cell? ⟨gr, 0, none⟩ = some (.int .i64 2) ∧ W.cell? ⟨gr, 1, none⟩ = some (.int .i64 1) := by
  obtain ⟨g1, g2⟩ := h
  have v1 : VsAt W (some ⟨gw, 0, none⟩) [(2, 2), (3, 0)] := (g1 0 (by omega)).2.1
  obtain ⟨a, off, e1, q1, q2⟩ := v1.at (i := 0) rfl
  obtain ⟨a', off', e2, q3, q4⟩ := v1.at (i := 1) rfl
  obtain ⟨a'', off'', e3, q5, q6⟩ := g2.at (i := 0) rfl
  cases e1; cases e2; cases e3
  exact ⟨q1, q2, q3, q4, q5, q6⟩
set_option maxHeartbeats 4000000 in
theorem live_alive {W : World} (hT : Tab W) {gn gr gw gb : Nat} (h : AG W gn gr gw gb) : Calls Tryz.prog 7 #[agv gn gr] W (SortedQ W 1) := by
  have o0 : Out 0 0 W (W.alloc (.cells #[.slice (some ⟨gn, 0, none⟩) 2 2, .slice (some ⟨gr, 0, none⟩) 1 1] 26)) := (Out.refl 0 0 W).alloc _
  have H := hid_mk (load_alive (hT.quiet o0) (h.quiet o0))
  have HO := hid_mk (And.intro o0 (And.intro (Bl.new W #[.slice (some ⟨gn, 0, none⟩) 2 2, .slice (some ⟨gr, 0, none⟩) 1 1] 26) h))
  clear hT h o0
  go_enter Tryz.func7, Tryz.ntmps7
  go_wp2_with fail
  refine H.out.mono ?_
  rintro e w1 ⟨hh, m, lo, b, rfl, o1, -, -, -, -, hL⟩
  obtain ⟨o0, b0, hA⟩ := HO.out
  obtain ⟨c0, c1, c2, c3, c4, c5⟩ := (hA.quiet (o0.trans o1)).cells
  obtain ⟨p1, p2, p3, p4, p5⟩ := loaded_parts hL
  have e1 := (b0.kept o1 (.inr (Nat.zero_le _))).cell (i := 1) rfl
  have HR := hid_mk (reach_one (rc := 1) p1 rfl p2 (by omega) (by decide) c2 c3 c4 c5)
  have HO1 := hid_mk (o0.trans o1)
  clear o1 H HO hA c0 c1 c2 c3 c4 c5 p1 p2 p3 p4 p5 hL o0 b0
  go_wp2_with fail
  refine HR.out.mono ?_
  rintro e w2 ⟨lm, rfl, o2, -, m2⟩
  have HM := hid_mk (And.intro o2 m2)
  clear o2 m2 HR e1
  go_wp2_with fail
  refine (keysS_any _ _).mono ?_
  rintro e w3 ⟨rfl, rfl⟩
  have oK : Out 0 0 w2 (w2.alloc (.cells #[.map (some lm)] 51)) := (Out.refl 0 0 w2).alloc _
  have HS := hid_mk (sorted_one (oneS (Bl.new w2 #[.map (some lm)] 51) (HM.out.2.kept oK (.inr (Nat.zero_le _))) (a0 := 1) rfl (fun a v hv => by by_cases ha : a = 1; exact ha; simp [ha] at hv)))
  have HOK := hid_mk ((HO1.out.trans HM.out.1).trans oK)
  clear oK
  go_wp2_with fail
  refine HS.out.mono ?_
  rintro e w4 ⟨sb, sc, rfl, o4, s4, s5⟩
  have HE := hid_mk (And.intro (HOK.out.trans o4) (And.intro s4 (Nat.le_trans HOK.out.size s5)))
  clear HS o4 s4 s5
  go_wp2_with fail
  go_ret
  exact ⟨sb, sc, rfl, HE.out⟩
end Go.Proofs.YtocncffplcfpbaaGreatDoor
