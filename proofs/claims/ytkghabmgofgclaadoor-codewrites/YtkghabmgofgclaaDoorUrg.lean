/- the law: alive, within -/
import Derived.Test.YtkghabmgofgclaaDoorUrf
namespace Go.Proofs.YtkghabmgofgclaaDoor
open Go.RowKit
set_option linter.unusedVariables false
set_option linter.unusedSimpArgs false

theorem rd_ok {w w' : World} {n : Nat} {bs : List Int} {e : Ending} {x : Int} {ts : List (List Int)} {fs : List (Int × Int × Int × List (Int × Int))} (h : RdQ w n bs e w') (hn : n ≤ 65536) (hw : wholeR bs = .inr (x, ts, fs)) : Out 0 0 w w' ∧ ∃ gt gf, PrAt w' w.heap.size gt gf ts fs ∧ e = .returned (.tuple #[.agg #[.int .i64 x, .slice (some ⟨gt, 0, none⟩) ts.length ts.length, .slice (some ⟨gf, 0, none⟩) fs.length fs.length], .int .i64 0, .int .i64 0]) := by
  obtain ⟨o, h | h | h⟩ := h
  · omega
  · obtain ⟨_, x', q, h1, _⟩ := h; rw [hw] at h1; cases h1
  · obtain ⟨_, x', ts', fs', gt, gf, h1, h2, h3⟩ := h
    rw [hw] at h1
    cases h1
    exact ⟨o, gt, gf, h2, h3⟩
theorem rd_err {w w' : World} {n : Nat} {bs : List Int} {e : Ending} {x : Int} {q : Nat} (h : RdQ w n bs e w') (hn : n ≤ 65536) (hw : wholeR bs = .inl (x, q)) : Out 0 0 w w' ∧ e = .returned (.tuple #[.agg #[.int .i64 0, .slice none 0 0, .slice none 0 0], .int .i64 (q : Int), .int .i64 x]) := by
  obtain ⟨o, h | h | h⟩ := h
  · omega
  · obtain ⟨_, x', q, h1, h2⟩ := h
    rw [hw] at h1
    cases h1
    exact ⟨o, h2⟩
  · obtain ⟨_, x', ts', fs', gt, gf, h1, h2, h3⟩ := h; rw [hw] at h1; cases h1
theorem rd_long {w w' : World} {n : Nat} {bs : List Int} {e : Ending} (h : RdQ w n bs e w') (hn : 65536 < n) : Out 0 0 w w' ∧ e = .returned (.tuple #[.agg #[.int .i64 0, .slice none 0 0, .slice none 0 0], .int .i64 0, .int .i64 2]) := by
  obtain ⟨o, h | h | h⟩ := h
  · exact ⟨o, h.2⟩
  · omega
  · omega
theorem enc_byt {P : Int × List (List Int) × List (Int × Int × Int × List (Int × Int))} (h : okP P) (ht : ∀ t ∈ P.2.1, Byt t) : Byt (encP P) := by
  have hI : ∀ x, okI x → Byt (encI x) := by
    intro x hx
    have := opS_in hx.1
    refine Byt.cons (by omega) (by omega) ?_
    unfold opB
    split
    · exact numB_byt _
    split
    · exact numB_byt _
    split
    · exact le8_byt _
    · exact Byt.nil
  have hflat : ∀ {α : Type} (f : α → List Int) (l : List α), (∀ x ∈ l, Byt (f x)) → Byt (l.flatMap f) := by
    intro α f l hl b hb
    obtain ⟨x, hx, hb⟩ := List.mem_flatMap.1 hb
    exact hl x hx b hb
  unfold encP
  refine Byt.app (by intro b hb; simp at hb; omega) ((numB_byt _).app ((numB_byt _).app ((hflat _ _ fun t h2 => ?_).app ((numB_byt _).app (hflat _ _ fun f h2 => ?_)))))
  · exact (numB_byt _).app (ht t h2)
  · exact (numB_byt _).app ((numB_byt _).app ((numB_byt _).app ((numB_byt _).app (hflat _ _ fun x h3 => hI x ((h.2.2.2.2 f h2).2.2.2.2 x h3)))))
theorem sm_byt : Byt (encP (1, smT, smF)) := enc_byt sm_ok (by intro t ht; simp [smT] at ht; subst ht; intro b hb; simp at hb; omega)
set_option maxRecDepth 100000 in
set_option maxHeartbeats 2000000 in
theorem alive_any {w : World} (hT : Ty w) : Calls Tryd.prog 9 #[] w fun e w' => e = .returned (.bool true) ∧ Out 0 0 w w' := by
  have HT := hid_mk hT
  obtain ⟨E, hE⟩ : ∃ E, encP (1, smT, smF) = E := ⟨_, rfl⟩
  obtain ⟨L, hL⟩ : ∃ L, E.length = L := ⟨_, rfl⟩
  have hw := wr_ok sm_ok (by have := sm_len; omega)
  rw [hE] at hw
  have hL1 : Hid (20 < L ∧ L ≤ 100) := hid_mk (by rw [← hL, ← hE]; exact sm_len)
  have hEB : Hid (Byt E) := hid_mk (by rw [← hE]; exact sm_byt)
  have hR : Hid (wholeR E = .inr (1, smT, smF)) := hid_mk (by rw [← hE]; exact rd_wr sm_ok)
  have HW := hid_mk hw
  have HL := hid_mk hL
  have HWr : Hid (∀ (w1 : World) (g1 g2 : Nat), Ty w1 → TxIn w1 w1.heap.size (some ⟨g1, 0, none⟩) smT → FnIn w1 w1.heap.size (some ⟨g2, 0, none⟩) smF → Calls Tryd.prog 17 #[.agg #[.int .i64 1, .slice (some ⟨g1, 0, none⟩) 1 1, .slice (some ⟨g2, 0, none⟩) 1 1]] w1 fun e w' => ∃ ra cap, e = .returned (.tuple #[.slice ra L cap, .int .i64 0]) ∧ Out 0 0 w1 w' ∧ ByIn w' w'.heap.size ra E ∧ L ≤ cap) := hid_mk fun w1 g1 g2 q1 q2 q3 => by
    refine (write_any q1 (Nat.le_refl _) 1 smT smF (some ⟨g1, 0, none⟩) (some ⟨g2, 0, none⟩) 1 1 1 1 rfl rfl q2 q3 sm_mi).mono fun e w' ⟨ra, K, cap, h1, h2, h3, h4⟩ => ?_
    rw [HW.out.1] at h1
    rw [HW.out.2] at h3 h4
    have hK : K = L := by rw [← h4]; exact HL.out
    subst hK
    refine ⟨ra, cap, h1, h2, ByIn.own hEB.out h3 (fun q hq => (own_ge h3 hq).2), ?_⟩
    rcases h3.2 with ⟨q, q'⟩ | ⟨g, c2, cur, q, _, _, h9, _⟩
    · omega
    · cases q; exact h9
  clear hT hE hL hw
  go_enter Tryd.func9, Tryd.ntmps9
  go_wp2_with (first
    | (go_at_call 18; refine (sample_any _).mono ?_; rintro e w1 ⟨o1, g1, g2, rfl, t1, f1⟩)
    | (go_at_call 17; refine (HWr.out _ _ _ (HT.out.out o1 (.inr rfl)) t1 f1).mono ?_; rintro e w2 ⟨ra, cap, rfl, o2, hb2, hcap⟩)
    | (go_at_call 19; refine (read_any ((HT.out.out o1 (.inr rfl)).out o2 (.inr rfl)) (Nat.le_refl _) hb2 HL.out hcap).mono ?_; intro e w3 hq; obtain ⟨o3, gt, gf, hp, rfl⟩ := rd_ok hq (by have := hL1.out; omega) hR.out))
  clear hq
  have HO := hid_mk ((o1.trans o2).trans o3)
  have HP := hid_mk hp
  clear o1 o2 o3 hp t1 f1 hb2 hcap
  rw [show smT.length = 1 from rfl, show smF.length = 1 from rfl]
  obtain ⟨V, hV⟩ : ∃ V, w3.alloc (.cells #[.int .i64 1, .slice (some ⟨gt, 0, none⟩) 1 1, .slice (some ⟨gf, 0, none⟩) 1 1] 25) = V := ⟨_, rfl⟩
  obtain ⟨g, hg⟩ : ∃ g, w3.heap.size = g := ⟨_, rfl⟩
  have oV : Out 0 0 w3 V := by rw [← hV]; exact (Out.refl 0 0 w3).alloc _
  have bV : Bl V g #[.int .i64 1, .slice (some ⟨gt, 0, none⟩) 1 1, .slice (some ⟨gf, 0, none⟩) 1 1] 25 := by rw [← hV, ← hg]; exact Bl.new _ _ _
  have HV := hid_mk (HO.out.trans oV)
  have HPV := hid_mk (HP.out.kept oV (Nat.zero_le _))
  have h20 : (20 : Int) < (L : Int) := by have := hL1.out; omega
  rw [hV, hg]
  clear hV hg oV
  have HB := hid_mk bV
  refine wp_region_held_drew (S := fun w' => w'.cell? ⟨g, 0, none⟩ = some (.int .i64 1) ∧ w'.cell? ⟨g, 1, none⟩ = some (.slice (some ⟨gt, 0, none⟩) 1 1) ∧ w'.cell? ⟨g, 2, none⟩ = some (.slice (some ⟨gf, 0, none⟩) 1 1)) (by kernel_rfl) ⟨bV.cell (i := 0) rfl, bV.cell (i := 1) rfl, bV.cell (i := 2) rfl⟩ (fun hHeld => ?_)
  clear bV
  refine tk 0 ?_
  refine tk 1 ?_
  refine tk 2 ?_
  refine tk 3 ?_
  refine tk 4 ?_
  refine tk 5 ?_
  refine tk 6 ?_
  refine tk 7 ?_
  refine tk 8 ?_
  refine tk 9 ?_
  refine tk 10 ?_
  refine tk 11 ?_
  refine tk 12 ?_
  refine tk 13 ?_
  refine tk 14 ?_
  refine tk 15 ?_
  refine tk 16 ?_
  refine wpAnyH_ready (rs := [17]) (by kernel_rfl) (by simp) ?_
  refine AllReadyH.cons rfl (fun KK hK => ?_) AllReadyH.nil
  simp only [xa, xb, xc]
  go_simp
  refine (sample_any _).mono ?_
  rintro e w4 ⟨o4, g3, g4, rfl, t4, f4⟩
  have HO4 : Hid (Out 0 0 V w4) := hid_mk (((Out.refl 0 0 V).drew).trans o4)
  have b4 := kept0 HB.out HO4.out
  refine hK.out _ _ ⟨b4.cell (i := 0) rfl, b4.cell (i := 1) rfl, b4.cell (i := 2) rfl⟩ (fun _ => ?_)
  refine wpAnyH_ready (rs := [18]) (by kernel_rfl) (by simp) ?_
  refine AllReadyH.cons rfl (fun KK hK => ?_) AllReadyH.nil
  simp only [xa, xb, xc]
  go_simp
  have hp4 := HPV.out.kept HO4.out (Nat.zero_le _)
  refine (same_any 1 1 smT smT smF smF (some ⟨gt, 0, none⟩) (some ⟨g3, 0, none⟩) (some ⟨gf, 0, none⟩) (some ⟨g4, 0, none⟩) 1 1 1 1 1 1 1 1 rfl rfl rfl rfl hp4.tx t4 hp4.fn f4 ⟨by decide, by decide, by intro f hf; simp [smF] at hf; subst hf; decide⟩).mono ?_
  rintro e w5 ⟨⟨b, rfl, hb⟩, o5⟩
  have hbt : b = true := hb.2 rfl
  subst hbt
  have HO5 : Hid (Out 0 0 w w5) := hid_mk ((HV.out.trans HO4.out).trans o5)
  have b5 := kept0 b4 o5
  refine hK.out _ _ ⟨b5.cell (i := 0) rfl, b5.cell (i := 1) rfl, b5.cell (i := 2) rfl⟩ (fun _ => ?_)
  clear b4 b5 hp4 o4 o5 hb t4 f4
  refine tk 19 ?_
  refine tk 20 ?_
  refine wpAnyH_done (by kernel_rfl) ?_ _
  go_wp2
  go_ret
  exact ⟨rfl, HO5.out⟩
/-- a number brought to 0 .. n - 1 -/
def wiV (x : Int) (n : Nat) : Nat := if x < 0 then ((-(x + 1)) % (n : Int)).toNat else (x % (n : Int)).toNat
theorem wi_lt {x : Int} {n : Nat} (h : 0 < n) : wiV x n < n := by
  unfold wiV
  split
  · have := Int.emod_lt_of_pos (-(x + 1)) (show (0 : Int) < n by omega)
    have := Int.emod_nonneg (-(x + 1)) (show (n : Int) ≠ 0 by omega)
    omega
  · have := Int.emod_lt_of_pos x (show (0 : Int) < n by omega)
    have := Int.emod_nonneg x (show (n : Int) ≠ 0 by omega)
    omega
end Go.Proofs.YtkghabmgofgclaaDoor
