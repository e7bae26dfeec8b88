/- graph: guard and look of a search in general -/
import Derived.Test.YtocncffplcfpbaaGreatDoorGte
namespace Go.Proofs.YtocncffplcfpbaaGreatDoor
open Go.RowKit Go.MapKept
set_option linter.unusedVariables false
set_option linter.unusedSimpArgs false

set_option maxRecDepth 100000 in
set_option maxHeartbeats 4000000 in
theorem guard_wait {W : World} {B s gw : Nat} {M R : List Int} {Wt : Int → List VP} (h : SR W B s gw M R Wt) (hB : B ≤ W.heap.size) (x a b : Int) (hx : x ∉ M) (hW : (Wt x).length ≤ 1000000) :
    Calls Tryz.prog 54 #[.pointer (some ⟨s, 0, none⟩), .agg #[.int .i64 2, .int .i64 x], .agg #[.int .i64 a, .int .i64 b]] W fun e w' => e = .returned (.tuple #[]) ∧ SR w' B s gw M R (upW Wt x (a, b)) ∧ Fx (fun k => B ≤ k) W w' := by
  obtain ⟨V, hV⟩ : ∃ V, (W.alloc (.cells #[.int .i64 2, .int .i64 x] 28)).alloc (.cells #[.int .i64 a, .int .i64 b] 28) = V := ⟨_, rfl⟩
  obtain ⟨p, hp⟩ : ∃ p, W.heap.size = p := ⟨_, rfl⟩
  have oV : Out 0 0 W V := hV ▸ ((Out.refl 0 0 W).alloc _).alloc _
  have bp : Bl V p #[.int .i64 2, .int .i64 x] 28 := by rw [← hV, ← hp]; exact (Bl.new _ _ _).alloc _
  have bq : Bl V (p + 1) #[.int .i64 a, .int .i64 b] 28 := by
    have := Bl.new (W.alloc (.cells #[.int .i64 2, .int .i64 x] 28)) #[.int .i64 a, .int .i64 b] 28
    rwa [size_alloc, hV, hp] at this
  have HA := hid_mk (has_any (h.quiet (oV.drew)) x)
  rw [show decide (x ∈ M) = false by simpa using hx] at HA
  have H := hid_mk (And.intro h (And.intro hB (And.intro hW (And.intro oV (And.intro bp (And.intro bq hp))))))
  have p0 := bp.cell (i := 0) rfl
  have p1 := bp.cell (i := 1) rfl
  clear h hB hx hW oV bp bq
  go_enter Tryz.func54, Tryz.ntmps54
  go_upto_region 1 with fail
  (try rw [hV]); (try rw [hp])
  clear hV hp
  refine wp_region_held_drew (S := fun w' => w'.cell? ⟨p, 0, none⟩ = some (.int .i64 2) ∧ w'.cell? ⟨p, 1, none⟩ = some (.int .i64 x)) (by kernel_rfl) ?hS1 (fun hHeld => ?rest1)
  case hS1 => exact ⟨p0, p1⟩
  refine tk 0 ?_
  refine tk 1 ?_
  refine tk 2 ?_
  refine tk 3 ?_
  refine tk 4 ?_
  refine tk 5 ?_
  refine tk 6 ?_
  refine tk 7 ?_
  refine tk 8 ?_
  refine wpAnyH_ready (rs := [9]) (by kernel_rfl) (by simp) ?_
  refine AllReadyH.cons rfl (fun KK hK => ?_) AllReadyH.nil
  simp only [xa, xb, xc]
  go_simp
  refine HA.out.mono ?_
  rintro e w5 ⟨rfl, o5⟩
  refine hK.out _ _ ?hS11 (fun hHeld2 => ?rest11)
  case hS11 => exact ⟨o5.cell (w := V.drew) p0 (.inr (Nat.zero_le _)), o5.cell (w := V.drew) p1 (.inr (Nat.zero_le _))⟩
  clear hK KK
  (try clear hHeld)
  have hHeld := hHeld2
  clear hHeld2
  (try simp only [Act.put, xa, xb, xc, xd, xe, xf])
  refine tk 10 ?_
  refine tk 11 ?_
  refine wpAnyH_done (by kernel_rfl) ?_ _
  have H2 : Hid (Out 0 0 W w5 ∧ Bl w5 p #[.int .i64 2, .int .i64 x] 28 ∧ Bl w5 (p + 1) #[.int .i64 a, .int .i64 b] 28) := by
    obtain ⟨_, _, _, oV, bp, bq, _⟩ := H.out
    exact hid_mk ⟨oV.trans (((Out.refl 0 0 V).drew).trans o5), (bp.kept ((Out.refl 0 0 V).drew) (.inr (Nat.zero_le _))).kept o5 (.inr (Nat.zero_le _)), (bq.kept ((Out.refl 0 0 V).drew) (.inr (Nat.zero_le _))).kept o5 (.inr (Nat.zero_le _))⟩
  clear hHeld o5 HA p0 p1
  obtain ⟨h, hB, hW, oV, bp, bq, hp⟩ := H.out
  obtain ⟨o5, bp5, bq5⟩ := H2.out
  have p0 := bp5.cell (i := 0) rfl
  have p1 := bp5.cell (i := 1) rfl
  have q0 := bq5.cell (i := 0) rfl
  have q1 := bq5.cell (i := 1) rfl
  obtain ⟨ra, c, hlt, lk, a', cap', Z, Y, r1, xZ, hos, lkZ, r9, hS, hF⟩ := wait_run h hB (o5.drew) x a b hW
  obtain ⟨n, hn⟩ : ∃ n, (Wt x).length = n := ⟨_, rfl⟩
  rw [hn] at r1 r9 lk hlt xZ lkZ hos
  have s0 : w5.drew.cell? ⟨s, 2, none⟩ = some (.map (some gw)) := by
    obtain ⟨mv, ra, c, a1, _⟩ := h.quiet (o5.drew)
    exact a1.cell (i := 2) rfl
  have hsl := h.lt
  have HZ := hid_mk (And.intro hlt (And.intro xZ (And.intro hp (And.intro lkZ (And.intro hos oV)))))
  have HL := hid_mk lk
  have HR := hid_mk r1
  have HY := hid_mk r9
  have HE := hid_mk (And.intro hS hF)
  have oA : Out 0 0 w5.drew (w5.drew.alloc (.cells #[.int .i64 a, .int .i64 b] 28)) := (Out.refl 0 0 _).alloc _
  have HOA := hid_mk oA
  clear h hB hW oV bp bq o5 bp5 bq5 r1 xZ r9 hS hF hn lk hlt lkZ hos H oA hp hsl
  go_upto_region 2 with fail
  refine wp_region_T (S := fun w' => w'.cell? ⟨p, 0, none⟩ = some (.int .i64 2) ∧ w'.cell? ⟨p, 1, none⟩ = some (.int .i64 x) ∧ w'.cell? ⟨p + 1, 0, none⟩ = some (.int .i64 a) ∧ w'.cell? ⟨p + 1, 1, none⟩ = some (.int .i64 b) ∧ w'.cell? ⟨s, 2, none⟩ = some (.map (some gw)) ∧ (Instr.lookup 74 (.map (some gw)) (.int .i64 x) false).run Tryz.prog w' = .ok (.slice ra n c) w') (z := 16) (by kernel_rfl) ?hS14 (fun hHeld => ?rest14)
  case hS14 => exact ⟨p0, p1, q0, q1, s0, HL.out _ (Out.refl _ _ _)⟩
  refine tkT 0 ?_
  refine tkT 1 ?_
  refine tkT 2 ?_
  refine tkT 3 ?_
  refine tkT 4 ?_
  refine tkT 5 ?_
  refine tkT 6 ?_
  refine tkT 7 ?_
  refine tkT 8 ?_
  refine tkT 9 ?_
  refine tkT 10 ?_
  refine tkT 11 ?_
  refine tkT 12 ?_
  refine tkT 13 ?_
  refine wpAnyT_one (i := 14) (by kernel_rfl) rfl (fun KK hK => ?_)
  simp only [xa, xb, xc]
  go_simp
  refine hK.out _ _ ?hS29 (fun hHeld2 => ?rest29)
  case hS29 => exact ⟨HOA.out.cell (w := w5.drew) p0 (.inr (Nat.zero_le _)), HOA.out.cell (w := w5.drew) p1 (.inr (Nat.zero_le _)), HOA.out.cell (w := w5.drew) q0 (.inr (Nat.zero_le _)), HOA.out.cell (w := w5.drew) q1 (.inr (Nat.zero_le _)), HOA.out.cell s0 (.inr (Nat.zero_le _)), HL.out _ HOA.out⟩
  clear hK KK
  (try clear hHeld)
  have hHeld := hHeld2
  clear hHeld2
  (try simp only [Act.put, xa, xb, xc, xd, xe, xf])
  refine wpAnyT_one (i := 15) (by kernel_rfl) rfl (fun KK hK => ?_)
  refine app_runs _ _ _ _ _ rfl _ _ rfl rfl HR.out ?_
  refine hK.out _ _ ?hS30 (fun hHeld2 => ?rest30)
  case hS30 => exact (have z1 : ∀ k, p ≤ k → ¬ (Value.slice ra n c).ownBlock = some k := (fun k hk e => (by have := HZ.out.1 k e; have := HZ.out.2.2.1; omega)); ⟨HZ.out.2.1.cell (w := w5.drew) p0 (z1 p (Nat.le_refl _)), HZ.out.2.1.cell (w := w5.drew) p1 (z1 p (Nat.le_refl _)), HZ.out.2.1.cell (w := w5.drew) q0 (z1 (p + 1) (by omega)), HZ.out.2.1.cell (w := w5.drew) q1 (z1 (p + 1) (by omega)), HZ.out.2.1.cell s0 HZ.out.2.2.2.2.1, HZ.out.2.2.2.1⟩)
  clear hK KK
  (try clear hHeld)
  have hHeld := hHeld2
  clear hHeld2
  (try simp only [Act.put, xa, xb, xc, xd, xe, xf])
  refine wpAnyT_last (by kernel_rfl) rfl (fun KK hK => ?_)
  simp only [xa, xb, xc]
  have r9 := HY.out
  go_simp
  (try rw [r9])
  go_simp
  refine hK.out _ _ ?_
  clear hK KK
  (try simp only [Act.put, xa, xb, xc, xd, xe, xf])
  refine wpAnyT_done (by kernel_rfl) ?_ _
  have HQ := hid_mk (And.intro HE.out.1 ((Fx.of_out (S := fun k => B ≤ k) (H2.out.1.trans ((Out.refl 0 0 w5).drew))).trans HE.out.2))
  clear hHeld p0 p1 q0 q1 s0 HZ HL HR HY HE HOA r9
  go_wp2
  exact bodyPost_ret (results_none Tryz.results54 _ _ _) rfl ⟨rfl, HQ.out⟩
set_option maxRecDepth 100000 in
set_option maxHeartbeats 4000000 in
theorem guard_meet {W : World} {B s gw : Nat} {M R : List Int} {Wt : Int → List VP} (h : SR W B s gw M R Wt) (hB : B ≤ W.heap.size) (k x a b : Int) (hx : k = 2 → x ∈ M) (hR : R.length ≤ 900000) :
    Calls Tryz.prog 54 #[.pointer (some ⟨s, 0, none⟩), .agg #[.int .i64 k, .int .i64 x], .agg #[.int .i64 a, .int .i64 b]] W fun e w' => e = .returned (.tuple #[]) ∧ SR w' B s gw (mt [(a, b)] (M, R)).1 (mt [(a, b)] (M, R)).2 Wt ∧ Fx (fun k => B ≤ k) W w' := by
  obtain ⟨V, hV⟩ : ∃ V, (W.alloc (.cells #[.int .i64 k, .int .i64 x] 28)).alloc (.cells #[.int .i64 a, .int .i64 b] 28) = V := ⟨_, rfl⟩
  obtain ⟨p, hp⟩ : ∃ p, W.heap.size = p := ⟨_, rfl⟩
  have oV : Out 0 0 W V := hV ▸ ((Out.refl 0 0 W).alloc _).alloc _
  have bp : Bl V p #[.int .i64 k, .int .i64 x] 28 := by rw [← hV, ← hp]; exact (Bl.new _ _ _).alloc _
  have bq : Bl V (p + 1) #[.int .i64 a, .int .i64 b] 28 := by
    have := Bl.new (W.alloc (.cells #[.int .i64 k, .int .i64 x] 28)) #[.int .i64 a, .int .i64 b] 28
    rwa [size_alloc, hV, hp] at this
  have tail : ∀ w5 : World, Out 0 0 V w5 → Hid (Calls Tryz.prog 30 #[.pointer (some ⟨s, 0, none⟩), .slice (some ⟨w5.heap.size, 0, none⟩) 1 1] (w5.alloc (.cells #[.int .i64 a, .int .i64 b] 28)) fun e w' => e = .returned (.tuple #[]) ∧ SR w' B s gw (mt [(a, b)] (M, R)).1 (mt [(a, b)] (M, R)).2 Wt ∧ Fx (fun k => B ≤ k) W w') := by
    intro w5 o5
    have oA : Out 0 0 W (w5.alloc (.cells #[.int .i64 a, .int .i64 b] 28)) := (oV.trans o5).alloc _
    have bA := Bl.new w5 #[.int .i64 a, .int .i64 b] 28
    refine hid_mk ((meet_any (h.quiet oA) (Nat.le_trans hB oA.size) (some ⟨w5.heap.size, 0, none⟩) 1 1 [(a, b)] rfl (by omega) (.inr ⟨w5.heap.size, 0, rfl, fun j v q => by
      cases j with
      | zero => simp at q; subst q; exact ⟨bA.cell (i := 0) rfl, bA.cell (i := 1) rfl⟩
      | succ j => simp at q⟩) (fun q hq => by cases hq; exact .inr ⟨_, bA⟩)).mono ?_)
    rintro e w' ⟨rfl, h1, h2⟩
    exact ⟨rfl, h1, (Fx.of_out oA).trans (h2.wide (fun k _ q => q.1))⟩
  have HA := hid_mk (has_any (h.quiet (oV.drew)) x)
  have H := hid_mk (And.intro oV (And.intro bq hx))
  have p0 := bp.cell (i := 0) rfl
  have p1 := bp.cell (i := 1) rfl
  have HT := hid_mk tail
  clear h hB hx hR oV bp bq tail
  by_cases hk : k = 2
  · subst hk
    rw [show decide (x ∈ M) = true by simpa using H.out.2.2 rfl] at HA
    go_enter Tryz.func54, Tryz.ntmps54
    go_upto_region 1 with fail
    (try rw [hV]); (try rw [hp])
    clear hV hp
    refine wp_region_held_drew (S := fun w' => w'.cell? ⟨p, 0, none⟩ = some (.int .i64 2) ∧ w'.cell? ⟨p, 1, none⟩ = some (.int .i64 x)) (by kernel_rfl) ?hS31 (fun hHeld => ?rest31)
    case hS31 => exact ⟨p0, p1⟩
    refine tk 0 ?_
    refine tk 1 ?_
    refine tk 2 ?_
    refine tk 3 ?_
    refine tk 4 ?_
    refine tk 5 ?_
    refine tk 6 ?_
    refine tk 7 ?_
    refine tk 8 ?_
    refine wpAnyH_ready (rs := [9]) (by kernel_rfl) (by simp) ?_
    refine AllReadyH.cons rfl (fun KK hK => ?_) AllReadyH.nil
    simp only [xa, xb, xc]
    go_simp
    refine HA.out.mono ?_
    rintro e w5 ⟨rfl, o5⟩
    refine hK.out _ _ ?hS41 (fun hHeld2 => ?rest41)
    case hS41 => exact ⟨o5.cell (w := V.drew) p0 (.inr (Nat.zero_le _)), o5.cell (w := V.drew) p1 (.inr (Nat.zero_le _))⟩
    clear hK KK
    (try clear hHeld)
    have hHeld := hHeld2
    clear hHeld2
    (try simp only [Act.put, xa, xb, xc, xd, xe, xf])
    refine tk 10 ?_
    refine tk 11 ?_
    refine wpAnyH_done (by kernel_rfl) ?_ _
    have oV5 : Out 0 0 V w5 := ((Out.refl 0 0 V).drew).trans o5
    have HM := HT.out w5 oV5
    have bq5 := H.out.2.1.kept oV5 (.inr (Nat.zero_le _))
    have q0 := bq5.cell (i := 0) rfl
    have q1 := bq5.cell (i := 1) rfl
    clear hHeld o5 HA p0 p1 oV5 bq5 H HT
    go_wp2_with fail
    refine HM.out.mono ?_
    rintro e w6 ⟨rfl, h6⟩
    have HQ := hid_mk h6
    clear h6 HM q0 q1
    go_wp2_with fail
    exact bodyPost_end (results_none Tryz.results54 _ _ _) rfl ⟨rfl, HQ.out⟩
  · have hk' : (k == 2) = false := by simpa using hk
    go_enter Tryz.func54, Tryz.ntmps54
    go_upto_region 1 with fail
    (try rw [hV]); (try rw [hp])
    clear hV hp
    refine wp_region_held_drew (S := fun w' => w'.cell? ⟨p, 0, none⟩ = some (.int .i64 k) ∧ w'.cell? ⟨p, 1, none⟩ = some (.int .i64 x)) (by kernel_rfl) ?hS44 (fun hHeld => ?rest44)
    case hS44 => exact ⟨p0, p1⟩
    refine tk 0 ?_
    refine tk 1 ?_
    refine tk 2 ?_
    refine tk 3 ?_
    refine sk 4 ?_
    refine sk 5 ?_
    refine sk 6 ?_
    refine sk 7 ?_
    refine sk 8 ?_
    refine sk 9 ?_
    refine sk 10 ?_
    refine tk 11 ?_
    refine wpAnyH_done (by kernel_rfl) ?_ _
    have oV5 : Out 0 0 V V.drew := (Out.refl 0 0 V).drew
    have HM := HT.out V.drew oV5
    have bq5 := H.out.2.1.kept oV5 (.inr (Nat.zero_le _))
    have q0 := bq5.cell (i := 0) rfl
    have q1 := bq5.cell (i := 1) rfl
    clear hHeld HA p0 p1 oV5 bq5 H HT
    go_wp2_with fail
    refine HM.out.mono ?_
    rintro e w6 ⟨rfl, h6⟩
    have HQ := hid_mk h6
    clear h6 HM q0 q1
    go_wp2_with fail
    exact bodyPost_end (results_none Tryz.results54 _ _ _) rfl ⟨rfl, HQ.out⟩
end Go.Proofs.YtocncffplcfpbaaGreatDoor
namespace Go.Proofs.YtocncffplcfpbaaGreatDoor
open Go.RowKit Go.MapKept
set_option linter.unusedVariables false
set_option linter.unusedSimpArgs false

/-- what a look leaves -/
def lkP (K : Int) (l : List VP) (M R : List Int) (Wt : Int → List VP) : (List Int × List Int) × (Int → List VP) :=
  if K = 9 then (if (l.getD 0 (1, 0)).1 = 2 ∧ (l.getD 0 (1, 0)).2 ∉ M then ((M, R), upW Wt (l.getD 0 (1, 0)).2 (l.getD 1 (1, 0))) else (mt [l.getD 1 (1, 0)] (M, R), Wt))
  else if K = 8 then (mt l.tail (M, R), Wt) else (mt l (M, R), Wt)
def LkQ (W : World) (B s gw : Nat) (q : (List Int × List Int) × (Int → List VP)) (e : Ending) (w' : World) : Prop := e = .returned (.tuple #[]) ∧ SR w' B s gw q.1.1 q.1.2 q.2 ∧ Fx (fun k => B ≤ k) W w'
theorem vs_tail {w : World} {g off : Nat} {v : VP} {l : List VP} (h : VsAt w (some ⟨g, off, none⟩) (v :: l)) : VsAt w (some ⟨g, off + 2, none⟩) l := by
  rcases h with h | ⟨g', off', e, h⟩
  · cases h
  · cases e
    refine .inr ⟨g, off + 2, rfl, fun j u q => ?_⟩
    have := h (j + 1) u (by simpa using q)
    rw [show off + 2 + j * 2 = off + (j + 1) * 2 by omega]
    exact this
set_option maxRecDepth 100000 in
set_option maxHeartbeats 4000000 in
theorem look_plain {W : World} {B s gw n : Nat} {M R : List Int} {Wt : Int → List VP} (h : SR W B s gw M R Wt) (hB : B ≤ W.heap.size) {K : Int} {r : Value} (fa : Option Addr) (nf fc : Nat) (l : List VP) (hn : Bl W n (ndc K r (.slice fa nf fc)) 94) (hl : l.length = nf) (hR : R.length + nf ≤ 900000) (hf : VsAt W fa l) (hfa : ∀ q, fa = some q → q.block < B) (h8 : K ≠ 8) (h9 : K ≠ 9) (h10 : K ≠ 10) :
    Calls Tryz.prog 32 #[.pointer (some ⟨s, 0, none⟩), .pointer (some ⟨n, 0, none⟩)] W (LkQ W B s gw (lkP K l M R Wt)) := by
  rw [show lkP K l M R Wt = (mt l (M, R), Wt) by unfold lkP; rw [if_neg h9, if_neg h8]]
  have c0 := hn.cell (i := 0) rfl
  have c2 := hn.cell (i := 2) rfl
  have HM := hid_mk (meet_any h hB fa nf fc l hl (by omega) hf (fun q hq => .inl (hfa q hq)))
  have g8 : (K == 8) = false := by simpa using h8
  have g9 : (K == 9) = false := by simpa using h9
  have g10 : (K == 10) = false := by simpa using h10
  clear hn h hB hl hR hf hfa h8 h9 h10
  go_enter Tryz.func32, Tryz.ntmps32
  go_wp2_with fail
  refine HM.out.mono ?_
  rintro e w1 ⟨rfl, h1, x1⟩
  have HO := hid_mk (And.intro h1 (x1.wide (fun k _ q => q.1)))
  clear h1 x1 HM c0 c2
  go_wp2_with fail
  exact bodyPost_end (results_none Tryz.results32 _ _ _) rfl ⟨rfl, HO.out⟩
set_option maxRecDepth 100000 in
set_option maxHeartbeats 400000 in
theorem look_wk {W : World} {B s gw n : Nat} {M R : List Int} {Wt : Int → List VP} (h : SR W B s gw M R Wt) (hB : B ≤ W.heap.size) {r : Value} (g off fc : Nat) (v u : VP) (hn : Bl W n (ndc 8 r (.slice (some ⟨g, off, none⟩) 2 fc)) 94) (hR : R.length ≤ 800000) (hfc : 2 ≤ fc) (hf : VsAt W (some ⟨g, off, none⟩) [v, u]) (hfa : g < B) :
    Calls Tryz.prog 32 #[.pointer (some ⟨s, 0, none⟩), .pointer (some ⟨n, 0, none⟩)] W (LkQ W B s gw (lkP 8 [v, u] M R Wt)) := by
  rw [show lkP 8 [v, u] M R Wt = (mt [u] (M, R), Wt) by unfold lkP; rw [if_neg (by decide), if_pos rfl]; rfl]
  have c0 := hn.cell (i := 0) rfl
  have c2 := hn.cell (i := 2) rfl
  have HM := hid_mk (meet_any h hB (some ⟨g, off + 2, none⟩) 1 (fc - 1) [u] rfl (by omega) (vs_tail hf) (fun q hq => by cases hq; exact .inl hfa))
  clear hn h hB hR hf hfa
  go_enter Tryz.func32, Tryz.ntmps32
  go_wp2_with fail
  refine HM.out.mono ?_
  rintro e w1 ⟨rfl, h1, x1⟩
  have HO := hid_mk (And.intro h1 (x1.wide (fun k _ q => q.1)))
  clear h1 x1 HM c0 c2
  go_wp2_with fail
  exact bodyPost_end (results_none Tryz.results32 _ _ _) rfl ⟨rfl, HO.out⟩
set_option maxRecDepth 100000 in
set_option maxHeartbeats 4000000 in
theorem look_eph {W : World} {B s gw n : Nat} {M R : List Int} {Wt : Int → List VP} (h : SR W B s gw M R Wt) (hB : B ≤ W.heap.size) {r : Value} (g off fc : Nat) (hnB : n < B) (hgB : g < B) (k x a b : Int) (hn : Bl W n (ndc 9 r (.slice (some ⟨g, off, none⟩) 2 fc)) 94) (hR : R.length ≤ 900000) (hW : (Wt x).length ≤ 1000000) (hf : VsAt W (some ⟨g, off, none⟩) [(k, x), (a, b)]) :
    Calls Tryz.prog 32 #[.pointer (some ⟨s, 0, none⟩), .pointer (some ⟨n, 0, none⟩)] W (LkQ W B s gw (lkP 9 [(k, x), (a, b)] M R Wt)) := by
  have HG : Hid (Calls Tryz.prog 54 #[.pointer (some ⟨s, 0, none⟩), .agg #[.int .i64 k, .int .i64 x], .agg #[.int .i64 a, .int .i64 b]] W.drew (LkQ W.drew B s gw (lkP 9 [(k, x), (a, b)] M R Wt))) := by
    refine hid_mk ?_
    have h' := h.quiet ((Out.refl 0 0 W).drew)
    by_cases hk : k = 2 ∧ x ∉ M
    · rw [show lkP 9 [(k, x), (a, b)] M R Wt = ((M, R), upW Wt x (a, b)) by unfold lkP; rw [if_pos rfl]; exact if_pos hk]
      obtain ⟨rfl, hx⟩ := hk
      exact guard_wait h' hB x a b hx hW
    · rw [show lkP 9 [(k, x), (a, b)] M R Wt = (mt [(a, b)] (M, R), Wt) by unfold lkP; rw [if_pos rfl]; exact if_neg hk]
      exact guard_meet h' hB k x a b (fun e => by
        by_cases hx : x ∈ M
        · exact hx
        · exact absurd ⟨e, hx⟩ hk) hR
  have c0 := hn.cell (i := 0) rfl
  have c2 := hn.cell (i := 2) rfl
  obtain ⟨g', off', e0, q0, q1⟩ := hf.at (i := 0) rfl
  cases e0
  obtain ⟨g', off', e0, q2, q3⟩ := hf.at (i := 1) rfl
  cases e0
  simp only [Nat.zero_mul, Nat.add_zero, Nat.one_mul] at q0 q1 q2 q3
  clear hn h hB hR hf hW
  go_enter Tryz.func32, Tryz.ntmps32
  go_upto_region 5 with fail
  refine wp_region_held_drew (S := fun w' => w'.cell? ⟨n, 2, none⟩ = some (.slice (some ⟨g, off, none⟩) 2 fc) ∧ w'.cell? ⟨g, off, none⟩ = some (.int .i64 k) ∧ w'.cell? ⟨g, off + 1, none⟩ = some (.int .i64 x) ∧ w'.cell? ⟨g, off + 2, none⟩ = some (.int .i64 a) ∧ w'.cell? ⟨g, off + 2 + 1, none⟩ = some (.int .i64 b)) (by kernel_rfl) ?hS1 (fun hHeld => ?rest1)
  case hS1 => exact ⟨c2, q0, q1, q2, q3⟩
  refine tk 0 ?_
  refine tk 1 ?_
  refine tk 2 ?_
  refine tk 3 ?_
  refine tk 4 ?_
  refine tk 5 ?_
  refine tk 6 ?_
  refine tk 7 ?_
  refine tk 8 ?_
  refine tk 9 ?_
  refine tk 10 ?_
  refine tk 11 ?_
  refine tk 12 ?_
  refine wpAnyH_ready (rs := [13]) (by kernel_rfl) (by simp) ?_
  refine AllReadyH.cons rfl (fun KK hK => ?_) AllReadyH.nil
  simp only [xa, xb, xc]
  go_simp
  refine HG.out.mono ?_
  rintro e w5 ⟨rfl, h5, x5⟩
  refine hK.out _ _ ?hS15 (fun hHeld2 => ?rest15)
  case hS15 => exact ⟨x5.cell (w := W.drew) c2 (by omega), x5.cell (w := W.drew) q0 (by omega), x5.cell (w := W.drew) q1 (by omega), x5.cell (w := W.drew) q2 (by omega), x5.cell (w := W.drew) q3 (by omega)⟩
  clear hK KK
  (try clear hHeld)
  have hHeld := hHeld2
  clear hHeld2
  (try simp only [Act.put, xa, xb, xc, xd, xe, xf])
  refine wpAnyH_done (by kernel_rfl) ?_ _
  have HO := hid_mk (And.intro h5 ((Fx.of_out (S := fun k => B ≤ k) ((Out.refl 0 0 W).drew)).trans x5))
  clear hHeld h5 x5 HG c0 c2 q0 q1 q2 q3
  go_wp2
  exact bodyPost_end (results_none Tryz.results32 _ _ _) rfl ⟨rfl, HO.out⟩
end Go.Proofs.YtocncffplcfpbaaGreatDoor
namespace Go.Proofs.YtocncffplcfpbaaGreatDoor
set_option linter.unusedVariables false
set_option linter.unusedSimpArgs false

/-- what a node of a kind holds strongly, and what it guards -/
def stK (K : Int) (l : List VP) : List VP := if K = 9 then [] else if K = 8 then l.tail else l
def gdK (K : Int) (l : List VP) : List (VP × VP) := if K = 9 then [(l.getD 0 (1, 0), l.getD 1 (1, 0))] else []
theorem stK_mem {K : Int} {l : List VP} {v : VP} (h : v ∈ stK K l) : v ∈ l := by
  unfold stK at h
  split at h
  · cases h
  · split at h
    · exact List.mem_of_mem_tail h
    · exact h
theorem getD_mem {l : List VP} {i : Nat} (h : i < l.length) (d : VP) : l.getD i d ∈ l := by
  rw [List.getD_eq_getElem?_getD, List.getElem?_eq_getElem h]
  exact List.getElem_mem h
section
variable {K : Int → Int} {l : Int → List VP} {dom : Int → Prop} {roots : List VP} {D R M : List Int} {W : Int → List VP} {x : Int}
/-- the values that wait for x are met; x is done -/
theorem inv_meet (h : Inv0 (fun y => stK (K y) (l y)) (fun y => gdK (K y) (l y)) dom roots D [x] R M W)
    (h1 : ∀ v ∈ stK (K x) (l x), v.1 = 2 → v.2 ∈ M) (h2 : ∀ q ∈ gdK (K x) (l x), q.2.1 = 2 → (q.1.1 ≠ 2 → q.2.2 ∈ M) ∧ (q.1.1 = 2 → q.2.2 ∈ M ∨ (q.1.2 ∉ D ∧ q.1.2 ≠ x ∧ q.2 ∈ W q.1.2))) :
    Inv0 (fun y => stK (K y) (l y)) (fun y => gdK (K y) (l y)) dom roots (D ++ [x]) [] (mt (W x) (M, R)).2 (mt (W x) (M, R)).1 (delW W x) ∧ ∀ y ∈ M, y ∈ (mt (W x) (M, R)).1 := by
  have hx : x ∈ M := (h.1 x).2 (.inr (.inl (by simp)))
  obtain ⟨p1, p2, p3⟩ := h.mt (l := W x) (fun v hv e => ⟨(h.2.2.2.2 x v hv e).1, (h.2.2.2.2 x v hv e).2 (h.2.2.1 x hx).2⟩)
  refine ⟨p1.done (fun v hv e => p3 _ (h1 v hv e)) (fun q hq e => ⟨fun e2 => p3 _ ((h2 q hq e).1 e2), fun e2 => ?_⟩) p2, p3⟩
  rcases (h2 q hq e).2 e2 with c | c
  · exact .inl (p3 _ c)
  · exact .inr c
theorem inv_step (h : Inv0 (fun y => stK (K y) (l y)) (fun y => gdK (K y) (l y)) dom roots D [x] R M W) (hd : ∀ y, dom y → ∀ u ∈ l y, u.1 = 2 → dom u.2) (h9 : K x = 9 → (l x).length = 2) (hW : ∀ k, (W k).length ≤ D.length) :
    ∃ M1 R1 W1, lkP (K x) (l x) M R W = ((M1, R1), W1) ∧ Inv0 (fun y => stK (K y) (l y)) (fun y => gdK (K y) (l y)) dom roots (D ++ [x]) [] (mt (W1 x) (M1, R1)).2 (mt (W1 x) (M1, R1)).1 (delW W1 x) ∧ (∀ y ∈ M, y ∈ (mt (W1 x) (M1, R1)).1) ∧ (∀ k, (W1 k).length ≤ (D ++ [x]).length) ∧
      Inv0 (fun y => stK (K y) (l y)) (fun y => gdK (K y) (l y)) dom roots D [x] R1 M1 W1 := by
  have hx : x ∈ M := (h.1 x).2 (.inr (.inl (by simp)))
  obtain ⟨dx, lx⟩ := h.2.2.1 x hx
  have hc := (lv_cls (fun y => stK (K y) (l y)) (fun y => gdK (K y) (l y)) roots).2 x lx
  by_cases hk : K x = 9
  · have hl := h9 hk
    have m0 := getD_mem (l := l x) (i := 0) (by omega) (1, 0)
    have m1 := getD_mem (l := l x) (i := 1) (by omega) (1, 0)
    have hs : stK (K x) (l x) = [] := by unfold stK; rw [if_pos hk]
    have hg : gdK (K x) (l x) = [((l x).getD 0 (1, 0), (l x).getD 1 (1, 0))] := by unfold gdK; rw [if_pos hk]
    have hc2 := hc.2 ((l x).getD 0 (1, 0), (l x).getD 1 (1, 0)) (by show _ ∈ gdK (K x) (l x); rw [hg]; simp)
    have hlk : lkP (K x) (l x) M R W = if ((l x).getD 0 (1, 0)).1 = 2 ∧ ((l x).getD 0 (1, 0)).2 ∉ M then ((M, R), upW W ((l x).getD 0 (1, 0)).2 ((l x).getD 1 (1, 0))) else (mt [(l x).getD 1 (1, 0)] (M, R), W) := by
      unfold lkP
      rw [if_pos hk]
    generalize (l x).getD 0 (1, 0) = k at *
    generalize (l x).getD 1 (1, 0) = v at *
    rw [hlk]
    by_cases hkm : k.1 = 2 ∧ k.2 ∉ M
    · rw [if_pos hkm]
      have hw := h.wait (k := k.2) (v := v) (fun e => ⟨hd x dx v m1 e, fun q => hc2 (fun _ => q) e⟩)
      have hkx : k.2 ≠ x := fun e => hkm.2 (e ▸ hx)
      have hvw : v ∈ upW W k.2 v k.2 := by unfold upW; rw [if_pos rfl]; simp
      obtain ⟨q1, q2⟩ := inv_meet hw (by rw [hs]; simp) (by
        rw [hg]
        intro q hq e
        simp at hq
        subst hq
        exact ⟨fun e2 => absurd hkm.1 e2, fun _ => .inr ⟨fun q => hkm.2 ((h.1 _).2 (.inl q)), hkx, hvw⟩⟩)
      refine ⟨M, R, _, rfl, q1, q2, fun y => ?_, hw⟩
      unfold upW
      have := hW y
      have := hW k.2
      split <;> simp <;> omega
    · rw [if_neg hkm]
      obtain ⟨p1, p2, p3⟩ := h.mt (l := [v]) (fun u hu e => by
        simp at hu
        subst hu
        refine ⟨hd x dx u m1 e, hc2 (fun e2 => ?_) e⟩
        by_cases hm : k.2 ∈ M
        · exact (h.2.2.1 _ hm).2
        · exact absurd ⟨e2, hm⟩ hkm)
      obtain ⟨q1, q2⟩ := inv_meet p1 (by rw [hs]; simp) (by
        rw [hg]
        intro q hq e
        simp at hq
        subst hq
        exact ⟨fun e2 => p2 v (by simp) e, fun _ => .inl (p2 v (by simp) e)⟩)
      refine ⟨_, _, _, rfl, q1, fun y hy => q2 y (p3 y hy), fun y => ?_, p1⟩
      have := hW y
      simp; omega
  · have hg : gdK (K x) (l x) = [] := by unfold gdK; rw [if_neg hk]
    have hlk : lkP (K x) (l x) M R W = (mt (stK (K x) (l x)) (M, R), W) := by
      unfold lkP stK
      rw [if_neg hk, if_neg hk]
      split <;> rfl
    rw [hlk]
    obtain ⟨p1, p2, p3⟩ := h.mt (l := stK (K x) (l x)) (fun u hu e => ⟨hd x dx u (stK_mem hu) e, hc.1 u hu e⟩)
    obtain ⟨q1, q2⟩ := inv_meet p1 p2 (by rw [hg]; simp)
    refine ⟨_, _, _, rfl, q1, fun y hy => q2 y (p3 y hy), fun y => ?_, p1⟩
    have := hW y
    simp; omega
end
theorem least {P : Nat → Prop} (h : ∃ r, P r) : ∃ r, P r ∧ ∀ r', P r' → r ≤ r' := by
  obtain ⟨r, hr⟩ := h
  induction r using Nat.strongRecOn with
  | ind r ih =>
    by_cases h : ∃ r', r' < r ∧ P r'
    · obtain ⟨r', h1, h2⟩ := h
      exact ih r' h1 h2
    · exact ⟨r, hr, fun r' h2 => Nat.le_of_not_lt fun h1 => h ⟨r', h1, h2⟩⟩
/-- of each kind of numbers the least one -/
theorem mu_ex : ∃ μ : (Nat → Prop) → Nat, ∀ P : Nat → Prop, (∃ r, P r) → P (μ P) ∧ ∀ r, P r → μ P ≤ r := by
  classical
  refine ⟨fun P => if h : ∃ r, P r then Classical.choose (least h) else 0, fun P h => ?_⟩
  simp only [dif_pos h]
  exact Classical.choose_spec (least h)
end Go.Proofs.YtocncffplcfpbaaGreatDoor
namespace Go.Proofs.YtocncffplcfpbaaGreatDoor
open Go.RowKit Go.MapKept
set_option linter.unusedVariables false
set_option linter.unusedSimpArgs false

/-- a node as a search goes over it -/
def NdOk (W : World) (K : Int) (l : List VP) (v : Value) : Prop := ∃ b r fa nf fc, v = .pointer (some ⟨b, 0, none⟩) ∧ Bl W b (ndc K r (.slice fa nf fc)) 94 ∧ VsAt W fa l ∧ l.length = nf ∧ nf ≤ 100000 ∧ (∀ q, fa = some q → q.block < W.heap.size) ∧ K ≠ 10 ∧ (K = 8 ∨ K = 9 → nf = 2 ∧ 2 ≤ fc)
theorem len_two {l : List VP} (h : l.length = 2) : ∃ v u, l = [v, u] := by
  match l, h with
  | [v, u], _ => exact ⟨v, u, rfl⟩
theorem vs_two {W : World} {fa : Option Addr} {v u : VP} (h : VsAt W fa [v, u]) : ∃ g off, fa = some ⟨g, off, none⟩ := by
  rcases h with h | ⟨g, off, rfl, _⟩
  · cases h
  · exact ⟨g, off, rfl⟩
/-- look of any node but a table -/
theorem look_any {W w : World} {s gw : Nat} {M R : List Int} {Wt : Int → List VP} (h : SR w W.heap.size s gw M R Wt) (x : Fx (fun k => W.heap.size ≤ k) W w) {K : Int} {l : List VP} {v : Value} (hv : NdOk W K l v) (hR : R.length ≤ 700000) (hW : ∀ y, (Wt y).length ≤ 1000000) :
    Calls Tryz.prog 32 #[.pointer (some ⟨s, 0, none⟩), v] w (LkQ w W.heap.size s gw (lkP K l M R Wt)) := by
  obtain ⟨b, r, fa, nf, fc, rfl, hb, hf, hl, hnf, hfa, h10, h89⟩ := hv
  have hlt := hb.lt
  have hb' := hb.fx x (by omega)
  have hf' := hf.fx x (fun q hq => by have := hfa q hq; omega)
  by_cases h8 : K = 8
  · subst h8
    obtain ⟨rfl, h2⟩ := h89 (.inl rfl)
    obtain ⟨v, u, rfl⟩ := len_two hl
    obtain ⟨g, off, rfl⟩ := vs_two hf
    exact look_wk h x.size g off fc v u hb' (by omega) h2 hf' (hfa _ rfl)
  · by_cases h9 : K = 9
    · subst h9
      obtain ⟨rfl, h2⟩ := h89 (.inr rfl)
      obtain ⟨⟨k, y⟩, ⟨a, c⟩, rfl⟩ := len_two hl
      obtain ⟨g, off, rfl⟩ := vs_two hf
      exact look_eph h x.size g off fc hlt (hfa _ rfl) k y a c hb' (by omega) (hW y) hf'
    · exact look_plain h x.size fa nf fc l hb' hl (by omega) hf' hfa h8 h9 h10
/-- the loop of a search: r rounds at most are left -/
def RI (W : World) (s gw n : Nat) (K : Int → Int) (l : Int → List VP) (f : Int → Option Value) (rl : List VP) (c d : Value) (wr : World) (r : Nat) : Prop :=
  ∃ (id : Int) (D E R M : List Int) (Wt : Int → List VP), c = .int .i64 id ∧ SR wr W.heap.size s gw M R Wt ∧ Fx (fun k => W.heap.size ≤ k) W wr ∧ Inv0 (fun y => stK (K y) (l y)) (fun y => gdK (K y) (l y)) (fun y => f y ≠ none) rl D E R M Wt ∧ (∀ v ∈ rl, v.1 = 2 → v.2 ∈ M) ∧ (∀ k, (Wt k).length ≤ D.length) ∧
    ((d = .bool true ∧ E = [id] ∧ r + D.length = n + 1) ∨ (d = .bool false ∧ id = 0 ∧ E = [] ∧ R = [] ∧ r = 0))
/-- what reach tells -/
def RcQ (W : World) (K : Int → Int) (l : Int → List VP) (f : Int → Option Value) (rl : List VP) (e : Ending) (w' : World) : Prop :=
  ∃ mv M, e = .returned mv ∧ Out 0 0 W w' ∧ ((mv = .map none ∧ M = []) ∨ ∃ lm, mv = .map (some lm) ∧ W.heap.size ≤ lm ∧ MpAt w' lm (mF M)) ∧ (∀ y, y ∈ M ↔ Lv (fun y => stK (K y) (l y)) (fun y => gdK (K y) (l y)) rl y) ∧ M.Nodup ∧ ∀ y ∈ M, f y ≠ none
theorem vcs_get : ∀ {l : List VP} {j : Nat} {v : VP}, l[j]? = some v → (vcs l)[j * 2]? = some (.int .i64 v.1) ∧ (vcs l)[j * 2 + 1]? = some (.int .i64 v.2)
  | [], j, v, h => by simp at h
  | a :: l, 0, v, h => by simp at h; subst h; exact ⟨by simp [vcs], by simp [vcs]⟩
  | a :: l, j + 1, v, h => by
    have := vcs_get (l := l) (j := j) (v := v) (by simpa using h)
    have e : vcs (a :: l) = [.int .i64 a.1, .int .i64 a.2] ++ vcs l := rfl
    rw [e, show (j + 1) * 2 = j * 2 + 2 by omega, show j * 2 + 2 + 1 = (j * 2 + 1) + 2 by omega, List.getElem?_append_right (by simp), List.getElem?_append_right (by simp)]
    exact this
theorem own_vs {w : World} {B c : Nat} {ra : Option Addr} {l : List VP} (h : w.ownsRow B 28 2 (.slice ra l.length c) l.length (vcs l)) : VsAt w ra l ∧ ∀ q, ra = some q → Vr w q.block := by
  refine ⟨?_, fun q hq => ?_⟩
  · by_cases hl : l = []
    · exact .inl hl
    · have : 0 < l.length := List.length_pos_iff.2 hl
      obtain ⟨g, cur, rfl, _, hc, _⟩ := own_cellsX h this
      refine .inr ⟨g, 0, rfl, fun j v hj => ?_⟩
      obtain ⟨e1, e2⟩ := vcs_get hj
      have h1 := hc _ _ e1
      have h2 := hc _ _ e2
      rw [Nat.zero_add]
      exact ⟨h1, h2⟩
  · subst hq
    rcases h.2 with ⟨q1, _⟩ | ⟨g, c', cur, q1, _, h3, _⟩
    · cases q1
    · cases q1
      exact ⟨cur, h3⟩
/-- what waited for x was met -/
theorem SR.del {w : World} {B s gw : Nat} {M R : List Int} {Wt : Int → List VP} (h : SR w B s gw M R Wt) (x : Int) : ∃ w', (Builtin.delete_ #[74, 3] 0 #[.map (some gw), .int .i64 x]).run Tryz.prog w = .ok (.tuple #[]) w' ∧ SR w' B s gw M R (delW Wt x) ∧ Fx (fun k => B ≤ k) w w' := by
  obtain ⟨mv, ra, c, a1, a2, a3, a4, a5, f, f1, f2, f3⟩ := h
  obtain ⟨w', dl, m', o'⟩ := mp_del (ty := 0) Tryz.underlying74 Tryz.underlying3 f1 x
  have xY : Fx (fun k => k = gw) w w' := ⟨o'.1, o'.2.1, o'.2.2.1, o'.size, fun k h1 h2 => o'.block h1 (by omega)⟩
  refine ⟨w', dl, ⟨mv, ra, c, a1.fx xY (bl_mp a1 f1), a2, a3, ?_, own_fx a5 xY (fun g hg e => own_mp a5 f1 (e ▸ hg)), _, m', fun k hk => ?_, fun k v hv => ?_⟩, xY.wide (fun k _ e => e ▸ a3)⟩
  · rcases a4 with a4 | ⟨lm, e1, e2, e3, e4⟩
    · exact .inl a4
    · exact .inr ⟨lm, e1, e2, e3, e4.fx xY e3⟩
  · unfold delW
    by_cases e : k = x
    · rw [if_pos e]
    · rw [if_neg e] at hk ⊢; exact f2 k hk
  · by_cases e : k = x
    · rw [if_pos e] at hv; cases hv
    · rw [if_neg e] at hv
      rw [show delW Wt x k = Wt k from if_neg e]
      obtain ⟨⟨b2, c2, rfl, ho2⟩, hap⟩ := f3 k v hv
      refine ⟨⟨b2, c2, rfl, own_fx ho2 xY (fun g hg e2 => own_mp ho2 f1 (e2 ▸ hg))⟩, fun k' v' hv' hne => ?_⟩
      by_cases e' : k' = x
      · rw [if_pos e'] at hv'; cases hv'
      · rw [if_neg e'] at hv'
        exact hap k' v' hv' hne
theorem Inv0.dlen {st : Int → List VP} {gd : Int → List (VP × VP)} {dom : Int → Prop} {roots : List VP} {D E R M : List Int} {W : Int → List VP} {n : Nat} (h : Inv0 st gd dom roots D E R M W) (hd : ∀ y, dom y → 1 ≤ y ∧ y ≤ n) : D.length + E.length + R.length ≤ n := by
  obtain ⟨a1, a2, a3, _⟩ := h
  have := nodup_le n (D ++ E ++ R) a2 (fun y hy => hd y (a3 y ((a1 y).2 (by rw [List.mem_append, List.mem_append, or_assoc] at hy; exact hy))).1)
  simp at this
  omega
/-- the next one is taken -/
theorem take_ri {W w : World} {s gw n : Nat} {K : Int → Int} {l : Int → List VP} {f : Int → Option Value} {rl : List VP} {D R M : List Int} {Wt : Int → List VP} (h : SR w W.heap.size s gw M R Wt) (x : Fx (fun k => W.heap.size ≤ k) W w) (hI : Inv0 (fun y => stK (K y) (l y)) (fun y => gdK (K y) (l y)) (fun y => f y ≠ none) rl D [] R M Wt) (hM : ∀ v ∈ rl, v.1 = 2 → v.2 ∈ M) (hW : ∀ k, (Wt k).length ≤ D.length) (hn : n ≤ 400000) (hdom : ∀ y, f y ≠ none → 1 ≤ y ∧ y ≤ n) :
    Calls Tryz.prog 31 #[.pointer (some ⟨s, 0, none⟩)] w fun e w' => ∃ c d r, e = .returned (.tuple #[c, d]) ∧ RI W s gw n K l f rl c d w' r ∧ r + D.length ≤ n + 1 := by
  have hlen := hI.dlen hdom
  rcases List.eq_nil_or_concat R with rfl | ⟨R, y, rfl⟩
  · refine (take_nil h).mono ?_
    rintro e w' ⟨rfl, rfl⟩
    exact ⟨_, _, 0, rfl, ⟨0, D, [], [], M, Wt, rfl, h, x, hI, hM, hW, .inr ⟨rfl, rfl, rfl, rfl, rfl⟩⟩, by omega⟩
  · rw [List.concat_eq_append] at h hI hlen
    simp at hlen
    refine (take_some h (by omega)).mono ?_
    rintro e w' ⟨rfl, h1, x1⟩
    exact ⟨_, _, n + 1 - D.length, rfl, ⟨y, D, [y], R, M, Wt, rfl, h1, x.trans (x1.wide (fun k _ q => q.1)), hI.take, hM, hW, .inl ⟨rfl, rfl, by omega⟩⟩, by omega⟩
set_option maxRecDepth 100000 in
set_option maxHeartbeats 4000000 in
theorem reach_any {W : World} {h m : Nat} {la : Int} {f : Int → Option Value} (H : HP W h m la f) (K : Int → Int) (l : Int → List VP) (hN : ∀ y v, f y = some v → NdOk W (K y) (l y) v) (n : Nat) (hn : n ≤ 400000) (hdom : ∀ y, f y ≠ none → 1 ≤ y ∧ y ≤ n) (hcl : ∀ y, f y ≠ none → ∀ u ∈ l y, u.1 = 2 → f u.2 ≠ none)
    (ra : Option Addr) (nr rc : Nat) (rl : List VP) (hr : VsAt W ra rl) (hrl : rl.length = nr) (hnr : nr ≤ 400000) (hra : ∀ q, ra = some q → q.block < W.heap.size) (hrc : ∀ u ∈ rl, u.1 = 2 → f u.2 ≠ none) :
    Calls Tryz.prog 14 #[.pointer (some ⟨h, 0, none⟩), .slice ra nr rc] W (RcQ W K l f rl) := by
  obtain ⟨μ, hμ⟩ := mu_ex
  obtain ⟨g, hg0⟩ : ∃ g, W.heap.size = g := ⟨_, rfl⟩
  have hmm := @run_makeMap Tryz.prog
  have o1 : Out 0 0 W ((W.alloc (.map #[] 0)).alloc (.cells #[.map none, .slice none 0 0, .map (some g)] 78)) := ((Out.refl 0 0 W).alloc _).alloc _
  have b1 : Bl ((W.alloc (.map #[] 0)).alloc (.cells #[.map none, .slice none 0 0, .map (some g)] 78)) (g + 1) #[.map none, .slice none 0 0, .map (some g)] 78 := by
    have := Bl.new (W.alloc (.map #[] 0)) #[.map none, .slice none 0 0, .map (some g)] 78
    rwa [size_alloc, hg0] at this
  have m1 : MpAt ((W.alloc (.map #[] 0)).alloc (.cells #[.map none, .slice none 0 0, .map (some g)] 78)) g (fun _ => none) := by
    have := (mp_new W).kept ((Out.refl 0 0 _).alloc (.cells #[.map none, .slice none 0 0, .map (some g)] 78)) (.inr (Nat.zero_le _))
    rwa [hg0] at this
  obtain ⟨W1, hW1⟩ : ∃ W1, (W.alloc (.map #[] 0)).alloc (.cells #[.map none, .slice none 0 0, .map (some g)] 78) = W1 := ⟨_, rfl⟩
  rw [hW1] at o1 b1 m1
  have hS1 : SR W1 W.heap.size (g + 1) g [] [] (fun _ => []) := ⟨_, none, 0, b1, by omega, by omega, .inl ⟨rfl, rfl⟩, ⟨rfl, .inl ⟨rfl, rfl⟩⟩, _, m1, fun _ _ => rfl, fun k v hv => by cases hv⟩
  have HM := hid_mk (meet_any hS1 o1.size ra nr rc rl hrl (by simp; omega) (hr.quiet o1) (fun q hq => .inl (hra q hq)))
  have hlv := (lv_cls (fun y => stK (K y) (l y)) (fun y => gdK (K y) (l y)) rl).1
  obtain ⟨i1, i2, _⟩ := (Inv0.start (st := fun y => stK (K y) (l y)) (gd := fun y => gdK (K y) (l y)) (dom := fun y => f y ≠ none) (roots := rl)).mt (l := rl) (fun v hv e => ⟨hrc v hv e, hlv v hv e⟩)
  obtain ⟨⟨M1, R1⟩, hmr⟩ : ∃ q, mt rl ([], []) = q := ⟨_, rfl⟩
  rw [hmr] at i1 i2 HM
  simp only [] at i1 i2 HM
  have HI := hid_mk (And.intro i1 (And.intro i2 (And.intro o1 hg0)))
  have HH := hid_mk (And.intro H (And.intro hN (And.intro hn (And.intro hdom hcl))))
  clear H hN hn hdom hcl hr hrl hnr hra hrc o1 b1 m1 hS1 hlv i1 i2 hmr
  go_enter Tryz.func14, Tryz.ntmps14
  go_wp2_with fail
  (try rw [hW1])
  obtain ⟨s, hs⟩ : ∃ s, g + 1 = s := ⟨_, rfl⟩
  rw [hs] at HM ⊢
  clear hW1 hs hg0 hmm
  refine HM.out.mono ?_
  rintro e w2 ⟨rfl, hS2, x2⟩
  have HS2 := hid_mk (And.intro hS2 x2)
  clear hS2 x2 HM
  have HT : Hid (Calls Tryz.prog 31 #[.pointer (some ⟨s, 0, none⟩)] w2 fun e w' => ∃ c d r, e = .returned (.tuple #[c, d]) ∧ RI W s g n K l f rl c d w' r ∧ r + ([] : List Int).length ≤ n + 1) :=
    hid_mk (take_ri HS2.out.1 ((Fx.of_out HI.out.2.2.1).trans (HS2.out.2.wide (fun k _ q => q.1))) HI.out.1 HI.out.2.1 (by simp) HH.out.2.2.1 HH.out.2.2.2.1)
  clear HS2 HI
  go_wp2_with fail
  refine HT.out.mono ?_
  rintro e w3 ⟨c3, d3, r3, rfl, hRI3, -⟩
  have HR3 := hid_mk hRI3
  clear HT hRI3
  go_wp2_with fail
  go_loopw [6, 7] (fun c d wr => ∃ r, RI W s g n K l f rl c d wr r) (fun c d wr => μ (RI W s g n K l f rl c d wr))
  case atStart => exact ⟨_, HR3.out⟩
  case round =>
    obtain ⟨hμ1, hμ2⟩ := hμ _ hrel
    clear hμ2
    obtain ⟨ix, D, E, R, M, Wt, rfl, hS, hX, hI, hM, hW, ⟨rfl, rfl, hr⟩ | ⟨rfl, rfl, rfl, rfl, hr⟩⟩ := hμ1
    · obtain ⟨H, hN, hn, hdom, hcl⟩ := HH.out
      have hid : ix ∈ M := (hI.1 ix).2 (.inr (.inl (by simp)))
      have hfd := (hI.2.2.1 ix hid).1
      obtain ⟨v, hv⟩ : ∃ v, f ix = some v := Option.ne_none_iff_exists'.1 hfd
      have hok := hN ix v hv
      have hlen := hI.dlen hdom
      simp at hlen
      obtain ⟨M1, R1, Wt1, hlk, hI2, hM2, hW2, hI1⟩ := inv_step hI (fun y hy u hu e => hcl y hy u hu e) (fun h9 => by
        obtain ⟨b, r, fa, nf, fc, -, -, -, q1, -, -, -, q2⟩ := hok
        rw [q1]
        exact (q2 (.inr h9)).1) hW
      have H3 := H.fx hX (by have := H.1.lt; omega) (by have := H.2.lt; omega)
      have e0 := H3.1.cell (i := 0) rfl
      have lk := mp_look false Tryz.underlying57 Tryz.underlying3 (zero_np _) H3.2 ix
      rw [if_neg (by simp), hv] at lk
      simp only [Option.getD_some] at lk
      have HL := hid_mk (look_any hS hX hok (by omega) (fun y => by have := hW y; omega))
      rw [hlk] at HL
      have HG := hid_mk (And.intro hX (And.intro hI2 (And.intro (fun v hv e => hM2 _ (hM v hv e)) (And.intro hW2 (And.intro hI1 (And.intro hr hn))))))
      clear H hN hn hdom hcl hid hfd hok hlen hI hM hW hI2 hM2 hW2 hI1 H3 hS hX hv hlk hr
      go_wp2_with fail
      refine HL.out.mono ?_
      rintro e w4 ⟨rfl, hS4, hX4⟩
      simp only [] at hS4
      have HS4 := hid_mk (And.intro hS4 hX4)
      obtain ⟨mv, ra4, c4, a1, a2, a3, a4, a5, a6⟩ := hS4
      obtain ⟨rw4, rc4, ow, lkw, -⟩ := a6.row ix
      obtain ⟨gX, gI2, gM2, gW2, gI1, gr, gn⟩ := HG.out
      have e1 := a1.cell (i := 2) rfl
      have lk4 := lkw w4 (Out.refl _ _ _)
      obtain ⟨ov1, ov2⟩ := own_vs ow
      have hl1 := gI1.dlen HH.out.2.2.2.1
      have hl2 := gW2 ix
      simp at hl1 hl2
      obtain ⟨nw, hnw⟩ : ∃ nw, (Wt1 ix).length = nw := ⟨_, rfl⟩
      have HM := hid_mk (meet_any HS4.out.1 (gX.trans HS4.out.2).size rw4 nw rc4 (Wt1 ix) hnw (by omega) ov1 (fun q hq => .inr (ov2 q hq)))
      rw [hnw] at lk4
      clear a1 a2 a3 a4 a5 a6 ow lkw gX gI2 gM2 gW2 gI1 gr gn ov1 ov2 hl1 hl2 hX4 HL e0 lk hnw
      go_wp2_with fail
      refine HM.out.mono ?_
      rintro e w5 ⟨rfl, hS5, hX5⟩
      obtain ⟨w6, dl, hS6, hX6⟩ := hS5.del ix
      obtain ⟨mv, ra5, c5, a1, -⟩ := hS5
      have e2 := a1.cell (i := 2) rfl
      have HT : Hid (Calls Tryz.prog 31 #[.pointer (some ⟨s, 0, none⟩)] w6 fun e w' => ∃ c d r, e = .returned (.tuple #[c, d]) ∧ RI W s g n K l f rl c d w' r ∧ r + (D ++ [ix]).length ≤ n + 1) := by
        obtain ⟨gX, gI2, gM2, gW2, gI1, gr, gn⟩ := HG.out
        exact hid_mk (take_ri hS6 (((gX.trans HS4.out.2).trans (hX5.wide (fun k _ q => q.1))).trans hX6) gI2 gM2 (fun k => by unfold delW; split; simp; exact gW2 k) gn HH.out.2.2.2.1)
      clear a1 hS6 hX6 hX5 HM e1 lk4 HS4
      go_wp2_with fail
      refine HT.out.mono ?_
      rintro e w7 ⟨c7, d7, r7, rfl, hR7, hr7⟩
      have HE := hid_mk (And.intro hR7 hr7)
      clear HT hR7 hr7 e2 dl
      go_wp2_with fail
      exact ⟨⟨_, HE.out.1⟩, Nat.lt_of_le_of_lt ((hμ _ ⟨_, HE.out.1⟩).2 _ HE.out.1) (by have := HE.out.2; have := HG.out.2.2.2.2.2.1; simp at *; omega)⟩
    · have hE := hI.ends hM
      have hnd := hI.2.1
      have hMD : ∀ y, y ∈ M ↔ y ∈ D := fun y => by rw [hI.1 y]; simp
      obtain ⟨mv, ra5, c5, a1, a2, a3, a4, a5, a6⟩ := hS
      have e0 := a1.cell (i := 0) rfl
      have HE : Hid (RcQ W K l f rl (.returned mv) wr) := by
        refine hid_mk ⟨mv, D, rfl, hX.out (fun k h1 h2 => by omega), ?_, fun y => by rw [← hMD y]; exact hE y, by simpa using hnd, fun y hy => (hI.2.2.1 y ((hMD y).2 hy)).1⟩
        rcases a4 with ⟨q1, q2⟩ | ⟨lm, q1, q2, q3, q4⟩
        · refine .inl ⟨q1, ?_⟩
          cases D with
          | nil => rfl
          | cons a D => have := (hMD a).2 (by simp); rw [q2] at this; cases this
        · exact .inr ⟨lm, q1, q2, q4.congr (fun a => by unfold mF; by_cases ha : a ∈ M <;> simp [ha, (hMD a).symm])⟩
      clear hE hnd hMD a1 a2 a3 a4 a5 a6 hX hI hM hW hr
      go_wp2_with fail
      go_ret
      exact HE.out
end Go.Proofs.YtocncffplcfpbaaGreatDoor
