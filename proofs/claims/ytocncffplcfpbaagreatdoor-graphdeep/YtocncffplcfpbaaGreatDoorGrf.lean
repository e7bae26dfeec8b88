/- graph: load of a graph of plain nodes whose numbers are 1, 2, .. -/
import Derived.Test.YtocncffplcfpbaaGreatDoorGre
namespace Go.Proofs.YtocncffplcfpbaaGreatDoor
open Go.RowKit Go.MapKept
set_option linter.unusedVariables false
set_option linter.unusedSimpArgs false

/-- the i-th node of a list of nodes -/
def NA (w : World) (gn i K : Nat) (fa : Option Addr) (nf fc : Nat) : Prop :=
  w.cell? ⟨gn, i * 5, none⟩ = some (.int .i64 ((i + 1 : Nat) : Int)) ∧ w.cell? ⟨gn, i * 5 + 1, none⟩ = some (.int .i64 K) ∧ w.cell? ⟨gn, i * 5 + 2, none⟩ = some (.slice none 0 0) ∧ w.cell? ⟨gn, i * 5 + 3, none⟩ = some (.slice fa nf fc) ∧ w.cell? ⟨gn, i * 5 + 4, none⟩ = some (.slice none 0 0)
theorem NA.quiet {w w' : World} {gn i K : Nat} {fa : Option Addr} {nf fc : Nat} (h : NA w gn i K fa nf fc) (x : Out 0 0 w w') : NA w' gn i K fa nf fc :=
  ⟨x.cell h.1 (.inr (Nat.zero_le _)), x.cell h.2.1 (.inr (Nat.zero_le _)), x.cell h.2.2.1 (.inr (Nat.zero_le _)), x.cell h.2.2.2.1 (.inr (Nat.zero_le _)), x.cell h.2.2.2.2 (.inr (Nat.zero_le _))⟩
/-- the map of the first i nodes, which lie at b -/
def fA (b : Nat → Nat) (i : Nat) (x : Int) : Option Value := if 1 ≤ x ∧ x ≤ i then some (.pointer (some ⟨b (x - 1).toNat, 0, none⟩)) else none
def kA (K : Nat → Nat) (n : Nat) (x : Int) : Int := if 1 ≤ x ∧ x ≤ n then (K (x - 1).toNat : Int) else 0
theorem fA_zero (b : Nat → Nat) : fA b 0 = fun _ => none := by funext x; unfold fA; rw [if_neg (by omega)]
theorem fA_up (b : Nat → Nat) (i nb : Nat) : (fun x => if x = ((i + 1 : Nat) : Int) then some (.pointer (some ⟨nb, 0, none⟩)) else fA b i x) = fA (fun j => if j = i then nb else b j) (i + 1) := by
  funext x
  unfold fA
  by_cases h : x = ((i + 1 : Nat) : Int)
  · rw [if_pos h, if_pos (by omega)]
    simp only []
    rw [if_pos (by omega)]
  · rw [if_neg h]
    by_cases h2 : 1 ≤ x ∧ x ≤ (i : Int)
    · rw [if_pos h2, if_pos (by omega)]
      simp only []
      rw [if_neg (by omega)]
    · rw [if_neg h2, if_neg (by omega)]
/-- the first i nodes as the heap holds them -/
def HN (w : World) (lo : Nat) (K : Nat → Nat) (fa : Nat → Option Addr) (nf fc : Nat → Nat) (b : Nat → Nat) (i : Nat) : Prop := ∀ j, j < i → lo ≤ b j ∧ Bl w (b j) (ndc (K j) (.slice none 0 0) (.slice (fa j) (nf j) (fc j))) 94 ∧ ∀ k, k < j → b k < b j
theorem HN.fx {S : Nat → Prop} {w w' : World} {lo : Nat} {K : Nat → Nat} {fa : Nat → Option Addr} {nf fc b : Nat → Nat} {i : Nat} (h : HN w lo K fa nf fc b i) (x : Fx S w w') (hS : ∀ k, lo ≤ k → ¬ S k) : HN w' lo K fa nf fc b i :=
  fun j hj => ⟨(h j hj).1, (h j hj).2.1.fx x (hS _ (h j hj).1), (h j hj).2.2⟩
theorem HN.quiet {w w' : World} {lo : Nat} {K : Nat → Nat} {fa : Nat → Option Addr} {nf fc b : Nat → Nat} {i : Nat} (h : HN w lo K fa nf fc b i) (x : Out 0 0 w w') : HN w' lo K fa nf fc b i := h.fx (Fx.of_out (S := fun _ => False) x) (fun _ _ q => q)
theorem HN.up {w : World} {lo : Nat} {K : Nat → Nat} {fa : Nat → Option Addr} {nf fc b : Nat → Nat} {i nb : Nat} (h : HN w lo K fa nf fc b i) (h1 : lo ≤ nb) (h2 : Bl w nb (ndc (K i) (.slice none 0 0) (.slice (fa i) (nf i) (fc i))) 94) (h3 : ∀ j, j < i → b j < nb) : HN w lo K fa nf fc (fun j => if j = i then nb else b j) (i + 1) := by
  intro j hj
  by_cases e : j = i
  · subst e
    simp only [if_true]
    refine ⟨h1, h2, fun k hk => ?_⟩
    rw [if_neg (by omega)]
    exact h3 k hk
  · simp only [if_neg e]
    refine ⟨(h j (by omega)).1, (h j (by omega)).2.1, fun k hk => ?_⟩
    rw [if_neg (by omega)]
    exact (h j (by omega)).2.2 k hk
theorem HN.kd {w : World} {lo : Nat} {K : Nat → Nat} {fa : Nat → Option Addr} {nf fc b : Nat → Nat} {i : Nat} (h : HN w lo K fa nf fc b i) : Kd w (fA b i) (kA K i) := by
  intro x
  unfold fA kA
  by_cases hx : 1 ≤ x ∧ x ≤ (i : Int)
  · rw [if_pos hx, if_pos hx]
    exact .inr ⟨_, rfl, (h (x - 1).toNat (by omega)).2.1.cell (i := 0) rfl⟩
  · rw [if_neg hx, if_neg hx]
    exact .inl ⟨rfl, rfl⟩
/-- a graph of plain nodes -/
def GA (w : World) (gn n : Nat) (K : Nat → Nat) (fa : Nat → Option Addr) (nf fc : Nat → Nat) (l : Nat → List (Int × Int)) : Prop :=
  ∀ i, i < n → NA w gn i (K i) (fa i) (nf i) (fc i) ∧ VsAt w (fa i) (l i) ∧ (l i).length = nf i
theorem GA.quiet {w w' : World} {gn n : Nat} {K : Nat → Nat} {fa : Nat → Option Addr} {nf fc : Nat → Nat} {l : Nat → List (Int × Int)} (h : GA w gn n K fa nf fc l) (x : Out 0 0 w w') : GA w' gn n K fa nf fc l :=
  fun i hi => ⟨(h i hi).1.quiet x, (h i hi).2.1.quiet x, (h i hi).2.2⟩
def Okay (n : Nat) (K : Nat → Nat) (nf : Nat → Nat) (l : Nat → List (Int × Int)) (r : List (Int × Int)) : Prop :=
  n ≤ 1000000 ∧ (∀ i, i < n → (1 ≤ K i ∧ K i ≤ 11 ∧ K i ≠ 4 ∧ K i ≠ 7 ∧ K i ≠ 10 ∧ K i ≠ 11) ∧ fr (K i) = 0 ∧ nf i ≤ 1000000 ∧ sizeB (K i) ((nf i : Int) - ff (K i)) = true ∧ IntKind.i64.wrap ((nf i : Int) - ff (K i)) = (nf i : Int) - ff (K i) ∧ ∀ v ∈ l i, plB (kA K n) v.1 v.2 = true) ∧
  (∀ v ∈ r, validB_v v.1 v.2 = true ∧ (v.1 = 2 → kA K n v.2 ≠ 0))
/-- a heap of the nodes of a graph -/
def Loaded (w : World) (lo h m n : Nat) (K : Nat → Nat) (fa : Nat → Option Addr) (nf fc b : Nat → Nat) : Prop := HP w h m n (fA b n) ∧ HN w lo K fa nf fc b n ∧ m < lo ∧ h < lo
/-- where load stands behind i nodes -/
def LD (W wr : World) (g h m gn cn : Nat) (ra : Option Addr) (nr rc n i : Nat) (K : Nat → Nat) (fa : Nat → Option Addr) (nf fc b : Nat → Nat) : Prop :=
  Out 0 0 W wr ∧ Bl wr g #[.slice (some ⟨gn, 0, none⟩) n cn, .slice ra nr rc] 26 ∧ HP wr h m i (fA b i) ∧ HN wr (g + 3) K fa nf fc b i ∧ g + 3 ≤ wr.heap.size
theorem LD.up {W w5 X w8 Y : World} {g h m gn cn : Nat} {ra : Option Addr} {nr rc n i nb : Nat} {K : Nat → Nat} {fa : Nat → Option Addr} {nf fc b : Nat → Nat} {id : Int} (hL : LD W w5 g h m gn cn ra nr rc n i K fa nf fc b) (hg : W.heap.size = g) (hm : g + 1 = m) (hh : m + 1 = h) (xF : Fx (fun k => k = h) w5 X) (hB : Bl X h #[.map (some m), .int .i64 id] 59) (o9 : Out 0 0 X w8) (m9 : MpAt Y m (fun x => if x = id then some (.pointer (some ⟨nb, 0, none⟩)) else fA b i x)) (y9 : Out m (m + 1) w8 Y) (hid : ((i + 1 : Nat) : Int) = id) (hnb : X.heap.size ≤ nb) (b8 : Bl w8 nb (ndc (K i) (.slice none 0 0) (.slice (fa i) (nf i) (fc i))) 94) :
    LD W Y g h m gn cn ra nr rc n (i + 1) K fa nf fc (fun j => if j = i then nb else b j) := by
  have hs := hL.2.2.2.2
  have x1 : Fx (fun k => k = h ∨ k = m) w5 Y := ((xF.wide (fun _ _ q => .inl q)).trans (Fx.of_out o9)).trans ⟨y9.1, y9.2.1, y9.2.2.1, y9.size, fun k h1 h2 => y9.block h1 (by omega)⟩
  have x2 : Fx (fun _ => False) W Y := (Fx.of_out hL.1).then x1 (fun k h1 h2 => by omega)
  refine ⟨x2.out (fun _ _ q => q), hL.2.1.fx x1 (by omega), ⟨?_, ?_⟩, (hL.2.2.2.1.fx x1 (fun k hk => by omega)).up ?_ (b8.kept y9 ?_) ?_, Nat.le_trans hs x1.size⟩
  · rw [hid]
    exact (hB.kept o9 (.inr (Nat.zero_le _))).kept y9 (by omega)
  · rw [← hid, fA_up] at m9
    exact m9
  · have := xF.size
    omega
  · have := xF.size
    omega
  · intro j hj
    have := (hL.2.2.2.1 j hj).2.1.lt
    have := xF.size
    omega
theorem run_mm (n : Int) (w : World) : (Instr.makeMap 57 (some (.int .i64 n))).run Tryz.prog w = .ok (.map (some w.heap.size)) (w.alloc (.map #[] 0)) := by
  simp [Instr.makeMap, run_underlying Tryz.underlying57, asInt, asIntOf, Result.andThen]
set_option maxRecDepth 100000 in
set_option maxHeartbeats 4000000 in
theorem load_plain {W : World} (hT : Tab W) {gn cn n : Nat} {ra : Option Addr} {nr rc : Nat} {K : Nat → Nat} {fa : Nat → Option Addr} {nf fc : Nat → Nat} {l : Nat → List (Int × Int)} {r : List (Int × Int)} (hG : GA W gn n K fa nf fc l) (hR : VsAt W ra r) (hr : r.length = nr) (hr2 : nr ≤ 1000000) (ok : Okay n K nf l r) :
    Calls Tryz.prog 9 #[.agg #[.slice (some ⟨gn, 0, none⟩) n cn, .slice ra nr rc]] W fun e w' => ∃ h m lo b, e = .returned (.tuple #[.pointer (some ⟨h, 0, none⟩), .bool true]) ∧ Out 0 0 W w' ∧ W.heap.size ≤ h ∧ W.heap.size ≤ m ∧ W.heap.size ≤ lo ∧ h ≠ m ∧ Loaded w' lo h m n K fa nf fc b := by
  obtain ⟨g, hg0⟩ : ∃ g, W.heap.size = g := ⟨_, rfl⟩
  have c0 := (Bl.new W #[.slice (some ⟨gn, 0, none⟩) n cn, .slice ra nr rc] 26).cell (i := 0) rfl
  have HH := hid_mk (And.intro hT (And.intro hG (And.intro hR (And.intro hr (And.intro hr2 ok)))))
  have hmm := run_mm
  have HL0 : Hid (Out 0 0 W (((W.alloc (.cells #[.slice (some ⟨gn, 0, none⟩) n cn, .slice ra nr rc] 26)).alloc (.map #[] 0)).alloc (.cells #[.map (some (g + 1)), .int .i64 0] 59)) ∧ Bl (((W.alloc (.cells #[.slice (some ⟨gn, 0, none⟩) n cn, .slice ra nr rc] 26)).alloc (.map #[] 0)).alloc (.cells #[.map (some (g + 1)), .int .i64 0] 59)) g #[.slice (some ⟨gn, 0, none⟩) n cn, .slice ra nr rc] 26 ∧ HP (((W.alloc (.cells #[.slice (some ⟨gn, 0, none⟩) n cn, .slice ra nr rc] 26)).alloc (.map #[] 0)).alloc (.cells #[.map (some (g + 1)), .int .i64 0] 59)) (g + 1 + 1) (g + 1) 0 (fun _ => none) ∧ (((W.alloc (.cells #[.slice (some ⟨gn, 0, none⟩) n cn, .slice ra nr rc] 26)).alloc (.map #[] 0)).alloc (.cells #[.map (some (g + 1)), .int .i64 0] 59)).heap.size = g + 3) := by
    rw [← hg0]
    refine hid_mk ⟨(((Out.refl 0 0 W).alloc _).alloc _).alloc _, ((Bl.new _ _ _).alloc _).alloc _, ⟨?_, ?_⟩, by rw [size_alloc, size_alloc, size_alloc]⟩
    · have := Bl.new ((W.alloc (.cells #[.slice (some ⟨gn, 0, none⟩) n cn, .slice ra nr rc] 26)).alloc (.map #[] 0)) #[.map (some (W.heap.size + 1)), .int .i64 0] 59
      rwa [size_alloc, size_alloc] at this
    · have := (mp_new (W.alloc (.cells #[.slice (some ⟨gn, 0, none⟩) n cn, .slice ra nr rc] 26))).kept ((Out.refl 0 0 _).alloc (.cells #[.map (some (W.heap.size + 1)), .int .i64 0] 59)) (.inr (Nat.zero_le _))
      rwa [size_alloc] at this
  clear hT hG hR hr hr2 ok
  go_enter Tryz.func9, Tryz.ntmps9
  go_wp2_with fail
  obtain ⟨V, hV⟩ : ∃ V, ((W.alloc (.cells #[.slice (some ⟨gn, 0, none⟩) n cn, .slice ra nr rc] 26)).alloc (.map #[] 0)).alloc (.cells #[.map (some (g + 1)), .int .i64 0] 59) = V := ⟨_, rfl⟩
  rw [hV] at HL0 ⊢
  have HG := hid_mk (And.intro hg0 (And.intro (Nat.lt_succ_self (g + 1)) (Nat.lt_succ_self g)))
  clear hV c0 hg0
  obtain ⟨m, hm⟩ : ∃ m, g + 1 = m := ⟨_, rfl⟩
  rw [hm] at HL0 HG ⊢
  obtain ⟨h, hh⟩ : ∃ h, m + 1 = h := ⟨_, rfl⟩
  rw [hh] at HL0 ⊢
  replace HG := hid_mk (And.intro HG.out (And.intro hm hh))
  clear hm hh
  go_loopw [18] (fun c wr => ∃ (i : Nat) (b : Nat → Nat), c = .int .i64 i ∧ i ≤ n ∧ LD W wr g h m gn cn ra nr rc n i K fa nf fc b) (fun c _ => n - (intOf c).toNat)
  case atStart => exact ⟨0, fun _ => 0, rfl, Nat.zero_le _, HL0.out.1, HL0.out.2.1, by rw [fA_zero]; exact HL0.out.2.2.1, fun j hj => absurd hj (Nat.not_lt_zero _), by have := HL0.out.2.2.2; omega⟩
  case round =>
    obtain ⟨i, b, rfl, him, hL⟩ := hrel
    by_cases hgo : i < n
    · obtain ⟨l1, l2⟩ := lt_d hgo
      obtain ⟨hT, hG, hR, hr, hr2, ok⟩ := HH.out
      obtain ⟨⟨d0, d1, d2, d3, d4⟩, hv, hvl⟩ := hG.quiet hL.1 i hgo
      obtain ⟨⟨k1, k2, k3, k4, k5, k6⟩, k7, k8, k9, k10, k11⟩ := ok.2.1 i hgo
      obtain ⟨id, hid⟩ : ∃ id : Int, ((i + 1 : Nat) : Int) = id := ⟨_, rfl⟩
      rw [hid] at d0
      have lid : decide (id ≤ (i : Int)) = false := by simp; omega
      have lmi : (i : Int) < (n : Int) := by omega
      have HK : Hid (Tab wr ∧ 1 ≤ K i ∧ K i ≤ 11 ∧ K i ≠ 4 ∧ K i ≠ 10 ∧ fr (K i) = (0 : Nat) ∧ IntKind.i64.wrap ((nf i : Int) - ff (K i)) = (nf i : Int) - ff (K i) ∧ sizeB (K i) ((nf i : Int) - ff (K i)) = true ∧ n ≤ 1000000) := hid_mk ⟨hT.quiet hL.1, k1, k2, k3, k5, k7, k10, k9, ok.1⟩
      have HLA := hid_mk (And.intro hL hid)
      have HGO := hid_mk hgo
      clear hT hG hR hr hr2 ok hv hvl k1 k2 k3 k4 k5 k6 k7 k8 k9 k10 k11 hL him hid hgo
      generalize hKi : K i = Ki at *
      generalize hfi : fa i = fi at *
      generalize hni : nf i = ni at *
      generalize hci : fc i = ci at *
      go_upto_region 5 with fail
      obtain ⟨A, hA⟩ : ∃ A, wr.alloc (.cells #[.int .i64 id, .int .i64 Ki, .slice none 0 0, .slice fi ni ci, .slice none 0 0] 32) = A := ⟨_, rfl⟩
      obtain ⟨p, hp⟩ : ∃ p, wr.heap.size = p := ⟨_, rfl⟩
      have oA : Out 0 0 wr A := hA ▸ (Out.refl 0 0 _).alloc _
      have BA : Bl A p #[.int .i64 id, .int .i64 Ki, .slice none 0 0, .slice fi ni ci, .slice none 0 0] 32 := by rw [← hA, ← hp]; exact Bl.new _ _ _
      rw [hA, hp]
      have HLB : Hid (LD W A g h m gn cn ra nr rc n i K fa nf fc b ∧ ((i + 1 : Nat) : Int) = id ∧ p < A.heap.size ∧ g + 3 ≤ p) := hid_mk ⟨⟨HLA.out.1.1.trans oA, HLA.out.1.2.1.kept oA (.inr (Nat.zero_le _)), HLA.out.1.2.2.1.quiet oA, HLA.out.1.2.2.2.1.quiet oA, Nat.le_trans HLA.out.1.2.2.2.2 oA.size⟩, HLA.out.2, BA.lt, hp ▸ HLA.out.1.2.2.2.2⟩
      have e0 := BA.cell (i := 0) rfl
      have e1 := BA.cell (i := 1) rfl
      have e2 := BA.cell (i := 2) rfl
      have e3 := BA.cell (i := 3) rfl
      have e4 := BA.cell (i := 4) rfl
      have e5 := HLB.out.1.2.2.1.1.cell (i := 1) rfl
      have HF := hid_mk (formed_yes ((HK.out.1.quiet oA).quiet ((Out.refl 0 0 A).drew)) id Ki HK.out.2.1 HK.out.2.2.1 HK.out.2.2.2.1 HK.out.2.2.2.2.1 none fi none 0 0 ni ci 0 HK.out.2.2.2.2.2.1 _ rfl HK.out.2.2.2.2.2.2.1 HK.out.2.2.2.2.2.2.2.1)
      clear hA hp oA HLA d0 d1 d2 d3 d4
      have HBA := hid_mk BA
      clear BA
      refine wp_region_held_drew (S := fun w' => w'.cell? ⟨p, 0, none⟩ = some (.int .i64 id) ∧ w'.cell? ⟨p, 1, none⟩ = some (.int .i64 Ki) ∧ w'.cell? ⟨p, 2, none⟩ = some (.slice none 0 0) ∧ w'.cell? ⟨p, 3, none⟩ = some (.slice fi ni ci) ∧ w'.cell? ⟨p, 4, none⟩ = some (.slice none 0 0) ∧ w'.cell? ⟨h, 1, none⟩ = some (.int .i64 i)) (by kernel_rfl) ?hS1 (fun hHeld => ?rest1)
      case hS1 => exact ⟨e0, e1, e2, e3, e4, e5⟩
      refine tk 0 ?_
      refine tk 1 ?_
      refine tk 2 ?_
      refine tk 3 ?_
      refine tk 4 ?_
      refine tk 5 ?_
      refine tk 6 ?_
      refine tk 7 ?_
      refine tk 8 ?_
      refine wpAnyH_ready (rs := [9]) (by kernel_rfl) (by simp) ?_
      refine AllReadyH.cons rfl (fun KK hK => ?_) AllReadyH.nil
      simp only [xa, xb, xc]
      go_simp
      refine HF.out.mono ?_
      rintro e w5 ⟨rfl, o5⟩
      have o9 : Out 0 0 A w5 := ((Out.refl 0 0 A).drew).trans o5
      refine hK.out _ _ ?hS11 (fun hHeld2 => ?rest11)
      case hS11 => exact ⟨o9.cell e0 (.inr (Nat.zero_le _)), o9.cell e1 (.inr (Nat.zero_le _)), o9.cell e2 (.inr (Nat.zero_le _)), o9.cell e3 (.inr (Nat.zero_le _)), o9.cell e4 (.inr (Nat.zero_le _)), o9.cell e5 (.inr (Nat.zero_le _))⟩
      clear hK KK
      (try clear hHeld)
      have hHeld := hHeld2
      clear hHeld2
      (try simp only [Act.put, xa, xb, xc, xd, xe, xf])
      refine tk 10 ?_
      refine tk 11 ?_
      refine wpAnyH_done (by kernel_rfl) ?_ _
      have f0 := (HBA.out.kept o9 (.inr (Nat.zero_le _))).cell (i := 0) rfl
      have HLC : Hid (LD W w5 g h m gn cn ra nr rc n i K fa nf fc b ∧ ((i + 1 : Nat) : Int) = id ∧ p < w5.heap.size ∧ g + 3 ≤ p) := hid_mk ⟨⟨HLB.out.1.1.trans o9, HLB.out.1.2.1.kept o9 (.inr (Nat.zero_le _)), HLB.out.1.2.2.1.quiet o9, HLB.out.1.2.2.2.1.quiet o9, Nat.le_trans HLB.out.1.2.2.2.2 o9.size⟩, HLB.out.2.1, Nat.lt_of_lt_of_le HLB.out.2.2.1 o9.size, HLB.out.2.2.2⟩
      replace HBA := hid_mk (HBA.out.kept o9 (.inr (Nat.zero_le _)))
      have f1 := HLC.out.1.2.2.1.1.cell (i := 1) rfl
      have f2 := HLC.out.1.2.2.1.1.frozen 1
      clear hHeld o5 o9 HF HLB e0 e1 e2 e3 e4 e5
      go_upto_region 8 with fail
      obtain ⟨X, hX⟩ : ∃ X, w5.setCell ⟨h, 1, none⟩ (.int .i64 id) = X := ⟨_, rfl⟩
      rw [hX]
      have HX : Hid (Fx (fun k => k = h) w5 X ∧ Bl X h #[.map (some m), .int .i64 id] 59 ∧ MpAt X m (fA b i) ∧ Bl X p #[.int .i64 id, .int .i64 Ki, .slice none 0 0, .slice fi ni ci, .slice none 0 0] 32) := by
        have xx : Fx (fun k => k = h) w5 X := hX ▸ Fx.set (S := fun k => k = h) (Fx.refl _ w5) (p := ⟨h, 1, none⟩) (.inl rfl) _
        refine hid_mk ⟨xx, hX ▸ HLC.out.1.2.2.1.1.set 1 (.int .i64 id), ?_, HBA.out.fx xx (by have := HLC.out.2.2.2; have := HG.out.2; omega)⟩
        obtain ⟨es, clock, hb, r9⟩ := HLC.out.1.2.2.1.2
        exact ⟨es, clock, xx.heap hb (by have := HG.out.2; omega), r9⟩
      have e0 := HX.out.2.2.2.cell (i := 0) rfl
      have e1 := HX.out.2.2.2.cell (i := 1) rfl
      have e2 := HX.out.2.2.2.cell (i := 2) rfl
      have e3 := HX.out.2.2.2.cell (i := 3) rfl
      have e4 := HX.out.2.2.2.cell (i := 4) rfl
      have e5 := HX.out.2.1.cell (i := 0) rfl
      clear f0 f1 f2 hX HBA
      refine wp_region_T (S := fun w' => w'.cell? ⟨p, 0, none⟩ = some (.int .i64 id) ∧ w'.cell? ⟨p, 1, none⟩ = some (.int .i64 Ki) ∧ w'.cell? ⟨p, 2, none⟩ = some (.slice none 0 0) ∧ w'.cell? ⟨p, 3, none⟩ = some (.slice fi ni ci) ∧ w'.cell? ⟨p, 4, none⟩ = some (.slice none 0 0) ∧ w'.cell? ⟨h, 0, none⟩ = some (.map (some m))) (z := 8) (by kernel_rfl) ?hS14 (fun hHeld => ?rest14)
      case hS14 => exact ⟨e0, e1, e2, e3, e4, e5⟩
      refine tkT 0 ?_
      refine tkT 1 ?_
      refine tkT 2 ?_
      refine tkT 3 ?_
      refine tkT 4 ?_
      refine tkT 5 ?_
      refine tkT 6 ?_
      refine wpAnyT_one (i := 7) (by kernel_rfl) rfl (fun KK hK => ?_)
      simp only [xa, xb, xc]
      go_simp
      refine (hold_plain id Ki HK.out.2.2.2.2.1 none fi none 0 0 ni ci 0).mono ?_
      rintro e w8 ⟨nb, rfl, o8, hnb, b8⟩
      have o9 : Out 0 0 X w8 := ((Out.refl 0 0 X).drew).trans o8
      refine hK.out _ _ ?hS22 (fun hHeld2 => ?rest22)
      case hS22 => exact ⟨o9.cell e0 (.inr (Nat.zero_le _)), o9.cell e1 (.inr (Nat.zero_le _)), o9.cell e2 (.inr (Nat.zero_le _)), o9.cell e3 (.inr (Nat.zero_le _)), o9.cell e4 (.inr (Nat.zero_le _)), o9.cell e5 (.inr (Nat.zero_le _))⟩
      clear hK KK
      (try clear hHeld)
      have hHeld := hHeld2
      clear hHeld2
      (try simp only [Act.put, xa, xb, xc, xd, xe, xf])
      refine wpAnyT_last (by kernel_rfl) rfl (fun KK hK => ?_)
      simp only [xa, xb, xc]
      obtain ⟨Y, r9, m9, y9⟩ := mp_put Tryz.underlying57 Tryz.underlying3 (HX.out.2.2.1.kept o9 (.inr (Nat.zero_le _))) id (.pointer (some ⟨nb, 0, none⟩))
      go_simp
      (try rw [r9])
      go_simp
      refine hK.out _ _ ?_
      clear hK KK
      (try simp only [Act.put, xa, xb, xc, xd, xe, xf])
      refine wpAnyT_done (by kernel_rfl) ?_ _
      have HL2 : Hid (LD W Y g h m gn cn ra nr rc n (i + 1) K fa nf fc (fun j => if j = i then nb else b j)) := hid_mk (LD.up HLC.out.1 HG.out.1.1 HG.out.2.1 HG.out.2.2 HX.out.1 HX.out.2.1 o9 m9 y9 HLC.out.2.1 hnb (by rw [hKi, hfi, hni, hci]; exact b8))
      clear hHeld o8 o9 hnb b8 m9 y9 r9 HX HLC e0 e1 e2 e3 e4 e5
      go_wp2
      exact ⟨⟨i + 1, _, up_v HGO.out HK.out.2.2.2.2.2.2.2.2, HGO.out, HL2.out⟩, by rw [up_w HGO.out HK.out.2.2.2.2.2.2.2.2]; exact ms_n HGO.out⟩
    · obtain rfl : n = i := by omega
      have l1 : decide ((n : Int) < (n : Int)) = false := by simp
      have c0 := hL.2.1.cell (i := 0) rfl
      have HL := hid_mk hL
      have HO0 : Hid (Out 0 0 wr wr) := hid_mk (Out.refl 0 0 wr)
      clear hL hgo him HL0 hmm
      go_wp2_with fail
      clear l1
      go_loopw [51] (fun c wq => ∃ i : Nat, c = .int .i64 i ∧ i ≤ n ∧ Out 0 0 wr wq) (fun c _ => n - (intOf c).toNat)
      case atStart => exact ⟨0, rfl, Nat.zero_le _, HO0.out⟩
      case round =>
        obtain ⟨i, rfl, him, hO⟩ := hrel
        by_cases hgo : i < n
        · obtain ⟨l1, l2⟩ := lt_d hgo
          obtain ⟨hT, hG, hR, hr, hr2, ok⟩ := HH.out
          obtain ⟨⟨d0, d1, d2, d3, d4⟩, hv, hvl⟩ := hG.quiet (HL.out.1.trans hO) i hgo
          obtain ⟨⟨k1, k2, k3, k4, k5, k6⟩, k7, k8, k9, k10, k11⟩ := ok.2.1 i hgo
          obtain ⟨id, hid⟩ : ∃ id : Int, ((i + 1 : Nat) : Int) = id := ⟨_, rfl⟩
          rw [hid] at d0
          have oA : Out 0 0 wr (wr.alloc (.cells #[.int .i64 id, .int .i64 (K i), .slice none 0 0, .slice (fa i) (nf i) (fc i), .slice none 0 0] 32)) := (Out.refl 0 0 _).alloc _
          have HF := hid_mk (filled_yes ((HL.out.2.2.1.quiet hO).quiet oA) (((HL.out.2.2.2.1.quiet hO).quiet oA).kd) id (K i) none (fa i) none 0 0 (nf i) (fc i) 0 (b i) (l i) hvl k8 (hv.quiet oA) (by unfold fA; rw [if_pos (by omega), show (id - 1).toNat = i from by omega]) (by unfold kA; rw [if_pos (by omega), show (id - 1).toNat = i from by omega]) (by simp; omega) (by simp; omega) k11)
          have lmi : (i : Int) < (n : Int) := by omega
          have HI := hid_mk (And.intro hgo (And.intro ok.1 (hO.trans oA)))
          clear hT hG hR hr hr2 ok hv hvl k1 k2 k3 k4 k5 k6 k7 k8 k9 k10 k11 him hid hgo hO oA HL HH HO0 HG
          go_wp2_with fail
          refine HF.out.mono ?_
          rintro e w2 ⟨rfl, o2⟩
          have HO2 := hid_mk (HI.out.2.2.trans o2)
          clear o2 HF d0 d1 d2 d3 d4
          go_wp2
          exact ⟨⟨i + 1, up_v HI.out.1 HI.out.2.1, HI.out.1, HO2.out⟩, by rw [up_w HI.out.1 HI.out.2.1]; exact ms_n HI.out.1⟩
        · obtain rfl : n = i := by omega
          have l1 : decide ((n : Int) < (n : Int)) = false := by simp
          have HLq : Hid (LD W wr g h m gn cn ra nr rc n n K fa nf fc b) := hid_mk ⟨HL.out.1.trans hO, HL.out.2.1.kept hO (.inr (Nat.zero_le _)), HL.out.2.2.1.quiet hO, HL.out.2.2.2.1.quiet hO, Nat.le_trans HL.out.2.2.2.2 hO.size⟩
          have c1 := HLq.out.2.1.cell (i := 1) rfl
          obtain ⟨hT, hG, hR, hr, hr2, ok⟩ := HH.out
          have HR := hid_mk (rooted_yes HLq.out.2.2.1 HLq.out.2.2.2.1.kd ra nr rc r hr hr2 (hR.quiet HLq.out.1) ok.2.2)
          clear hT hG hR hr hr2 ok hgo him hO HL HO0 HH
          go_wp2_with fail
          refine HR.out.mono ?_
          rintro e w2 ⟨rfl, o2⟩
          have HE : Hid (Out 0 0 W w2 ∧ W.heap.size ≤ h ∧ W.heap.size ≤ m ∧ W.heap.size ≤ g + 3 ∧ h ≠ m ∧ Loaded w2 (g + 3) h m n K fa nf fc b) := by
            obtain ⟨⟨q1, -⟩, q2, q3⟩ := HG.out
            exact hid_mk ⟨HLq.out.1.trans o2, by omega, by omega, by omega, by omega, HLq.out.2.2.1.quiet o2, HLq.out.2.2.2.1.quiet o2, by omega, by omega⟩
          clear o2 HLq HR c1 HG
          go_wp2
          go_ret2
          exact ⟨h, m, g + 3, b, rfl, HE.out⟩
end Go.Proofs.YtocncffplcfpbaaGreatDoor
