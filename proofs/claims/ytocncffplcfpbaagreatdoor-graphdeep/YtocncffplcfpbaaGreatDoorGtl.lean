/- graph: Check and Live of any plain graph -/
import Derived.Test.YtocncffplcfpbaaGreatDoorGti
import Derived.Test.YtocncffplcfpbaaGreatDoorGtk
import Derived.Test.YtocncffplcfpbaaGreatDoorGrs
namespace Go.Proofs.YtocncffplcfpbaaGreatDoor
open Go.RowKit Go.MapKept
set_option linter.unusedVariables false
set_option linter.unusedSimpArgs false

/-- the fields of a number -/
def lI (n : Nat) (l : Nat → List VP) (y : Int) : List VP := if 1 ≤ y ∧ y ≤ n then l (y - 1).toNat else []
/-- a plain graph in memory -/
def PGr (W : World) (gn n : Nat) (K : Nat → Nat) (fa : Nat → Option Addr) (nf fc : Nat → Nat) (l : Nat → List VP) (ra : Option Addr) (nr : Nat) (r : List VP) : Prop :=
  GA W gn n K fa nf fc l ∧ VsAt W ra r ∧ r.length = nr ∧ Okay n K nf l r ∧ n ≤ 400000 ∧ nr ≤ 400000 ∧ (∀ q, ra = some q → q.block < W.heap.size) ∧ ∀ i, i < n → nf i ≤ 100000 ∧ (K i = 8 ∨ K i = 9 → nf i = 2 ∧ 2 ≤ fc i) ∧ ∀ q, fa i = some q → q.block < W.heap.size
section
variable {W w : World} {gn n nr lo h m : Nat} {K : Nat → Nat} {fa : Nat → Option Addr} {nf fc b : Nat → Nat} {l : Nat → List VP} {ra : Option Addr} {r : List VP}
theorem PGr.quiet {W' : World} (H : PGr W gn n K fa nf fc l ra nr r) (o : Out 0 0 W W') : PGr W' gn n K fa nf fc l ra nr r := by
  obtain ⟨h1, h2, h3, h4, h5, h6, h7, h8⟩ := H
  exact ⟨h1.quiet o, h2.quiet o, h3, h4, h5, h6, fun q hq => Nat.lt_of_lt_of_le (h7 q hq) o.size, fun i hi => ⟨(h8 i hi).1, (h8 i hi).2.1, fun q hq => Nat.lt_of_lt_of_le ((h8 i hi).2.2 q hq) o.size⟩⟩
theorem fA_some {y : Int} {v : Value} (hv : fA b n y = some v) : ∃ i : Nat, i < n ∧ y = ((i + 1 : Nat) : Int) ∧ v = .pointer (some ⟨b i, 0, none⟩) := by
  unfold fA at hv
  by_cases hy : 1 ≤ y ∧ y ≤ (n : Int)
  · rw [if_pos hy] at hv
    cases hv
    exact ⟨(y - 1).toNat, by omega, by omega, rfl⟩
  · rw [if_neg hy] at hv; cases hv
theorem kA_at {i : Nat} (hi : i < n) : kA K n ((i + 1 : Nat) : Int) = (K i : Int) := by
  unfold kA
  rw [if_pos ⟨by omega, by omega⟩, show (((i + 1 : Nat) : Int) - 1).toNat = i by omega]
theorem lI_at {i : Nat} (hi : i < n) : lI n l ((i + 1 : Nat) : Int) = l i := by
  unfold lI
  rw [if_pos ⟨by omega, by omega⟩, show (((i + 1 : Nat) : Int) - 1).toNat = i by omega]
theorem fA_dom {y : Int} (hy : fA b n y ≠ none) : 1 ≤ y ∧ y ≤ n := by
  unfold fA at hy
  by_cases h : 1 ≤ y ∧ y ≤ (n : Int)
  · exact h
  · rw [if_neg h] at hy; exact absurd rfl hy
theorem fA_ne {y : Int} (hy : 1 ≤ y ∧ y ≤ n) : fA b n y ≠ none := by
  unfold fA
  rw [if_pos hy]; simp
theorem loaded_nd (H : PGr W gn n K fa nf fc l ra nr r) (o : Out 0 0 W w) (hL : Loaded w lo h m n K fa nf fc b) : ∀ y v, fA b n y = some v → NdOk w (kA K n y) (lI n l y) v := by
  intro y v hv
  obtain ⟨i, hi, rfl, rfl⟩ := fA_some hv
  obtain ⟨h1, h2, h3, h4, h5, h6, h7, h8⟩ := H
  rw [kA_at hi, lI_at hi]
  obtain ⟨g1, g2, g3⟩ := h1 i hi
  refine ⟨b i, _, fa i, nf i, fc i, rfl, (hL.2.1 i hi).2.1, g2.quiet o, g3, (h8 i hi).1, fun q hq => Nat.lt_of_lt_of_le ((h8 i hi).2.2 q hq) o.size, ?_, ?_⟩
  · have := (h4.2.1 i hi).1; omega
  · intro e
    exact (h8 i hi).2.1 (by omega)
theorem pl_dom {v : VP} (hp : plB (kA K n) v.1 v.2 = true) (h2 : v.1 = 2) : 1 ≤ v.2 ∧ v.2 ≤ n := by
  unfold plB at hp
  rw [if_pos h2] at hp
  simp only [Bool.and_eq_true, decide_eq_true_eq] at hp
  have := hp.1
  unfold kdV at this
  split at this
  · unfold kA at this
    split at this
    · assumption
    · omega
  · omega
theorem loaded_cl (H : PGr W gn n K fa nf fc l ra nr r) : ∀ y, fA b n y ≠ none → ∀ u ∈ lI n l y, u.1 = 2 → fA b n u.2 ≠ none := by
  intro y hy u hu h2
  obtain ⟨v, hv⟩ := Option.ne_none_iff_exists'.1 hy
  obtain ⟨i, hi, rfl, rfl⟩ := fA_some hv
  rw [lI_at hi] at hu
  exact fA_ne (pl_dom ((H.2.2.2.1.2.1 i hi).2.2.2.2.2 u hu) h2)
theorem loaded_rt (H : PGr W gn n K fa nf fc l ra nr r) : ∀ u ∈ r, u.1 = 2 → fA b n u.2 ≠ none := by
  intro u hu h2
  have := (H.2.2.2.1.2.2 u hu).2 h2
  refine fA_ne ?_
  unfold kA at this
  split at this
  · assumption
  · exact absurd rfl this
/-- what lives in a plain graph -/
def LvG (n : Nat) (K : Nat → Nat) (l : Nat → List VP) (r : List VP) (y : Int) : Prop := Lv (fun y => stK (kA K n y) (lI n l y)) (fun y => gdK (kA K n y) (lI n l y)) r y
/-- reach of what load has made -/
theorem reach_plain (H : PGr W gn n K fa nf fc l ra nr r) (o : Out 0 0 W w) (hL : Loaded w lo h m n K fa nf fc b) (rc : Nat) :
    Calls Tryz.prog 14 #[.pointer (some ⟨h, 0, none⟩), .slice ra nr rc] w (RcQ w (kA K n) (lI n l) (fA b n) r) := by
  obtain ⟨h1, h2, h3, h4, h5, h6, h7, h8⟩ := id H
  exact reach_any hL.1 (kA K n) (lI n l) (loaded_nd H o hL) n h5 (fun y hy => fA_dom hy) (loaded_cl H) ra nr rc r (h2.quiet o) h3 h6 (fun q hq => Nat.lt_of_lt_of_le (h7 q hq) o.size) (loaded_rt H)
end
set_option maxHeartbeats 4000000 in
theorem check_plain {W : World} (hT : Tab W) {gn n nr cn rc : Nat} {K : Nat → Nat} {fa : Nat → Option Addr} {nf fc : Nat → Nat} {l : Nat → List VP} {ra : Option Addr} {r : List VP} (H : PGr W gn n K fa nf fc l ra nr r) :
    Calls Tryz.prog 6 #[.agg #[.slice (some ⟨gn, 0, none⟩) n cn, .slice ra nr rc]] W fun e w' => e = .returned (.int .i64 0) ∧ Out 0 0 W w' := by
  have o0 : Out 0 0 W (W.alloc (.cells #[.slice (some ⟨gn, 0, none⟩) n cn, .slice ra nr rc] 26)) := (Out.refl 0 0 W).alloc _
  have H0 := H.quiet o0
  have HL := hid_mk (load_plain (rc := rc) (cn := cn) (hT.quiet o0) H0.1 H0.2.1 H0.2.2.1 (by have := H0.2.2.2.2.2.1; omega) H0.2.2.2.1)
  have HO := hid_mk o0
  clear hT H o0 H0
  go_enter Tryz.func6, Tryz.ntmps6
  go_wp2_with fail
  refine HL.out.mono ?_
  rintro e w1 ⟨hh, m, lo, b, rfl, o1, -⟩
  have HO1 := hid_mk (HO.out.trans o1)
  clear o1 HL HO
  go_wp2_with fail
  go_ret
  exact ⟨rfl, HO1.out⟩
/-- what Live tells -/
def LiQ (W : World) (n : Nat) (K : Nat → Nat) (l : Nat → List VP) (r : List VP) (e : Ending) (w' : World) : Prop := ∃ (ks : List Int) (a : Option Addr) (c : Nat), e = .returned (.slice a ks.length c) ∧ ks.Nodup ∧ (∀ y, y ∈ ks ↔ LvG n K l r y) ∧ ks.Pairwise (fun x y => x ≤ y) ∧ Out 0 0 W w'
set_option maxHeartbeats 4000000 in
theorem live_plain {W : World} (hT : Tab W) {gn n nr cn rc : Nat} {K : Nat → Nat} {fa : Nat → Option Addr} {nf fc : Nat → Nat} {l : Nat → List VP} {ra : Option Addr} {r : List VP} (H : PGr W gn n K fa nf fc l ra nr r) (hne : ∃ y, LvG n K l r y) :
    Calls Tryz.prog 7 #[.agg #[.slice (some ⟨gn, 0, none⟩) n cn, .slice ra nr rc]] W (LiQ W n K l r) := by
  have o0 : Out 0 0 W (W.alloc (.cells #[.slice (some ⟨gn, 0, none⟩) n cn, .slice ra nr rc] 26)) := (Out.refl 0 0 W).alloc _
  have H0 := H.quiet o0
  have HL := hid_mk (load_plain (rc := rc) (cn := cn) (hT.quiet o0) H0.1 H0.2.1 H0.2.2.1 (by have := H0.2.2.2.2.2.1; omega) H0.2.2.2.1)
  have HO := hid_mk (And.intro o0 (And.intro (Bl.new W #[.slice (some ⟨gn, 0, none⟩) n cn, .slice ra nr rc] 26) (And.intro H0 hne)))
  clear hT H o0 H0 hne
  go_enter Tryz.func7, Tryz.ntmps7
  go_wp2_with fail
  refine HL.out.mono ?_
  rintro e w1 ⟨hh, m, lo, b, rfl, o1, -, -, -, -, hL⟩
  obtain ⟨o0, b0, H0, hne⟩ := HO.out
  have e1 := (b0.kept o1 (.inr (Nat.zero_le _))).cell (i := 1) rfl
  have HR := hid_mk (reach_plain H0 o1 hL rc)
  have HO1 := hid_mk (And.intro (o0.trans o1) (And.intro hne (And.intro H0.2.2.2.2.1 (fun y (hy : fA b n y ≠ none) => fA_dom hy))))
  clear o1 HL HO hL o0 b0 H0 hne
  go_wp2_with fail
  refine HR.out.mono ?_
  rintro e w2 ⟨mv, M, rfl, o2, hmv, hM, hMn, hMd⟩
  obtain ⟨lm, rfl, m2⟩ : ∃ lm, mv = .map (some lm) ∧ MpAt w2 lm (mF M) := by
    rcases hmv with ⟨_, rfl⟩ | ⟨lm, q1, _, q2⟩
    · obtain ⟨y, hy⟩ := HO1.out.2.1
      exact absurd ((hM y).2 hy) (by simp)
    · exact ⟨lm, q1, q2⟩
  have HM := hid_mk (And.intro o2 (And.intro m2 (And.intro hM hMd)))
  clear o2 m2 HR e1 hmv hM hMn hMd
  go_wp2_with fail
  refine (keysS_any _ _).mono ?_
  rintro e w3 ⟨rfl, rfl⟩
  have oK : Out 0 0 w2 (w2.alloc (.cells #[.map (some lm)] 51)) := (Out.refl 0 0 w2).alloc _
  have hmm : ∀ a, mF M a ≠ none ↔ a ∈ M := fun a => by unfold mF; split <;> simp_all
  have HS := hid_mk (sorted_gen (n := n) (genS (Bl.new w2 #[.map (some lm)] 51) (HM.out.2.1.kept oK (.inr (Nat.zero_le _)))) (fun a ha => HO1.out.2.2.2 a (HM.out.2.2.2 a ((hmm a).1 ha))) (by have := HO1.out.2.2.1; omega) (by
    obtain ⟨y, hy⟩ := HO1.out.2.1
    exact ⟨y, (hmm y).2 ((HM.out.2.2.1 y).2 hy)⟩))
  have HOK := hid_mk (And.intro ((HO1.out.1.trans HM.out.1).trans oK) hmm)
  clear oK hmm
  go_wp2_with fail
  refine HS.out.mono ?_
  rintro e w4 ⟨ks, a, c, rfl, k1, k2, k3, o4, ow⟩
  have HE : Hid (LiQ W n K l r (.returned (.slice a ks.length c)) w4) := hid_mk ⟨ks, a, c, rfl, k1, fun y => ((k2 y).trans (HOK.out.2 y)).trans (HM.out.2.2.1 y), k3, HOK.out.1.trans o4⟩
  clear HS o4 ow k1 k2 k3
  go_wp2_with fail
  go_ret
  exact HE.out
end Go.Proofs.YtocncffplcfpbaaGreatDoor
