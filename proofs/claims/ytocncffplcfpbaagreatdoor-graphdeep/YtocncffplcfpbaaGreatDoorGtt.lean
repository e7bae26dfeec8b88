/- GraphDeep: graphs that grow node by node, and root by root -/
import Derived.Test.YtocncffplcfpbaaGreatDoorGts
namespace Go.Proofs.YtocncffplcfpbaaGreatDoor
open Go.RowKit Go.MapKept
set_option linter.unusedVariables false
set_option linter.unusedSimpArgs false

/-- k nodes and j roots were put into the graph at gb -/
def DG (W w : World) (gb vb : Nat) (K nf : Nat → Nat) (l : Nat → List VP) (r : List VP) (k j : Nat) : Prop := Out 0 0 W w ∧ Bl w vb #[.int .i64 3, .int .i64 3] 28 ∧ ∃ (a : Option Addr) (ac : Nat) (tb : Nat → Nat) (ra : Option Addr) (rc : Nat), Bl w gb #[.slice a k ac, .slice ra j rc] 26 ∧ Told w a ac k K nf tb nf l W.heap.size ∧ w.ownsRow W.heap.size 28 2 (.slice ra j rc) j (vcs (r.take j)) ∧ (∀ i, i < k → (Value.slice ra j rc).ownBlock ≠ some (tb i)) ∧ (Value.slice ra j rc).ownBlock ≠ some vb
theorem told_zero {w : World} {K nf tb tc : Nat → Nat} {l : Nat → List VP} {B : Nat} : Told w none 0 0 K nf tb tc l B := ⟨⟨rfl, .inl ⟨rfl, rfl⟩⟩, fun i hi => absurd hi (by omega)⟩
theorem DG.quiet {W w w' : World} {gb vb : Nat} {K nf : Nat → Nat} {l : Nat → List VP} {r : List VP} {k j : Nat} (h : DG W w gb vb K nf l r k j) (o : Out 0 0 w w') : DG W w' gb vb K nf l r k j := by
  obtain ⟨h1, h2, a, ac, tb, ra, rc, h3, h4, h5, h6, h7⟩ := h
  have x := Fx.of_out (S := fun _ => False) o
  exact ⟨h1.trans o, h2.kept o (.inr (Nat.zero_le _)), a, ac, tb, ra, rc, h3.kept o (.inr (Nat.zero_le _)), h4.fx x (fun _ _ => id) (fun _ _ => id), own_fx h5 x (fun _ _ => id), h6, h7⟩
/-- one node more -/
theorem node_app {W w X : World} {gb vb fb : Nat} {K nf : Nat → Nat} {l : Nat → List VP} {r : List VP} {k j : Nat} {ix : Int} (h : DG W w gb vb K nf l r k j) (oX : Out 0 0 w X) (hv : VB X fb (l k)) (hfb : w.heap.size ≤ fb) (hk : k ≤ 100000) (hgb : W.heap.size ≤ gb) (hix : ((k + 1 : Nat) : Int) = ix) :
    ∃ a ac rv a' cap' Z, w.cell? ⟨gb, 0, none⟩ = some (.slice a k ac) ∧ X.cell? ⟨gb, 0, none⟩ = some (.slice a k ac) ∧ X.cell? ⟨gb, 1, none⟩ = some rv ∧ (Builtin.append_ #[23, 23] 23 #[.slice a k ac, .slice (some ⟨X.heap.size, 0, none⟩) 1 1]).run Tryz.prog (X.alloc (.cells #[.int .i64 ix, .int .i64 (K k : Int), .slice none 0 0, .slice (some ⟨fb, 0, none⟩) (nf k) (nf k), .slice none 0 0] 32)) = .ok (.slice a' (k + 1) cap') Z ∧
      Z.cell? ⟨gb, 0, none⟩ = some (.slice a k ac) ∧ Z.frozen? ⟨gb, 0, none⟩ = false ∧ DG W (Z.setCell ⟨gb, 0, none⟩ (.slice a' (k + 1) cap')) gb vb K nf l r (k + 1) j := by
  obtain ⟨h1, h2, a, ac, tb, ra, rc, h3, ⟨h4, h4b⟩, h5, h6, h7⟩ := h
  have b3 := h3.kept oX (.inr (Nat.zero_le _))
  obtain ⟨E, hE⟩ : ∃ E, X.alloc (.cells #[.int .i64 ix, .int .i64 (K k : Int), .slice none 0 0, .slice (some ⟨fb, 0, none⟩) (nf k) (nf k), .slice none 0 0] 32) = E := ⟨_, rfl⟩
  have oE : Out 0 0 X E := hE ▸ (Out.refl 0 0 X).alloc _
  have bE : Bl E X.heap.size #[.int .i64 ix, .int .i64 (K k : Int), .slice none 0 0, .slice (some ⟨fb, 0, none⟩) (nf k) (nf k), .slice none 0 0] 32 := hE ▸ Bl.new _ _ _
  have oXE := oX.trans oE
  have x0 := Fx.of_out (S := fun _ => False) oXE
  have own4 := own_fx h4 x0 (fun _ _ => id)
  have own5 := own_fx h5 x0 (fun _ _ => id)
  obtain ⟨a', cap', Z, q1, q2, q3, q4⟩ := app_at (w := E) (m := 1) (c := 1) (sa := some ⟨X.heap.size, 0, none⟩) Tryz.underlying23 info_nd rfl (by decide) (by decide) (ys := [.int .i64 ix, .int .i64 (K k : Int), .slice none 0 0, .slice (some ⟨fb, 0, none⟩) (nf k) (nf k), .slice none 0 0]) own4 (Nat.le_trans h1.size oXE.size) (.inr ⟨X.heap.size, 0, rfl, fun t u hu => by rw [Nat.zero_add]; exact bE.cell (by rw [← hu]; simp)⟩) rfl (nd_one _ _ _ _ _) (by omega) (by omega) 23
  have bZ := (b3.kept oE (.inr (Nat.zero_le _))).fx q3 (fun e => own_ot own4 (b3.kept oE (.inr (Nat.zero_le _))) (by decide) e)
  have xS : Fx (fun t => t = gb) Z (Z.setCell ⟨gb, 0, none⟩ (.slice a' (k + 1) cap')) := Fx.set (S := fun t => t = gb) (Fx.refl _ Z) (p := ⟨gb, 0, none⟩) (.inl rfl) _
  have xA : Fx (fun t => (Value.slice a k ac).ownBlock = some t ∨ t = gb) w (Z.setCell ⟨gb, 0, none⟩ (.slice a' (k + 1) cap')) := ((Fx.of_out oXE).trans (q3.wide (fun _ _ e => .inl e))).trans (xS.wide (fun _ _ e => .inr e))
  have vrow : ∀ b' l', VB w b' l' → VB (Z.setCell ⟨gb, 0, none⟩ (.slice a' (k + 1) cap')) b' l' := fun b' l' hv => hv.fx xA (by
    rintro (e | e)
    · obtain ⟨c, hc, _⟩ := hv
      exact own_ot h4 hc (by decide) e
    · exact hv.ne h3 (by decide) e)
  refine ⟨a, ac, _, a', cap', Z, h3.cell (i := 0) rfl, b3.cell (i := 0) rfl, b3.cell (i := 1) rfl, hE ▸ q1, bZ.cell (i := 0) rfl, bZ.frozen 0, ?_, h2.fx xA ?_, a', cap', (fun i => if i = k then fb else tb i), ra, rc, bZ.set 0 _, ⟨?_, fun i hi => ?_⟩, own_fx h5 xA ?_, fun i hi => ?_, h7⟩
  · exact ((Fx.of_out (S := fun _ => False) h1).then xA (fun t h1 h2 => by rcases h2 with e | e; have := (own_ge h4 e).1; omega; omega)).out (fun _ _ q => q)
  · rintro (e | e)
    · exact own_ot h4 h2 (by decide) e
    · subst e
      have h9 := h3
      unfold Bl at h2 h9
      rw [h2] at h9
      simp at h9
  · have := nCs_up K nf tb nf k fb (nf k)
    rw [show (fun i => if i = k then nf k else nf i) = nf by funext i; split; rename_i e; rw [e]; rfl] at this
    rw [this, hix]
    exact own_fx q2 xS (fun g hg e => own_ot q2 bZ (by decide) (e ▸ hg))
  · by_cases e : i = k
    · subst e
      simp only [if_true]
      have v1 := hv.quiet oE
      exact (v1.fx q3 (fun e => by obtain ⟨c, hc, _⟩ := v1; exact own_ot own4 hc (by decide) e)).fx xS (v1.ne (b3.kept oE (.inr (Nat.zero_le _))) (by decide))
    · simp only [if_neg e]
      exact vrow _ _ (h4b i (by omega))
  · rintro g hg (e | e)
    · exact own_ap h4 h5 (by decide) e hg
    · exact own_ot h5 h3 (by decide) (e ▸ hg)
  · by_cases e : i = k
    · subst e
      simp only [if_true]
      intro e2
      have := (own_ge h5 e2).2
      omega
    · simp only [if_neg e]
      exact h6 i (by omega)
/-- one root more -/
theorem root_app {W w X : World} {gb vb : Nat} {K nf : Nat → Nat} {l : Nat → List VP} {r : List VP} {k j : Nat} {x y : Int} (h : DG W w gb vb K nf l r k j) (oX : Out 0 0 w X) (hr : r[j]? = some (x, y)) (hj : j ≤ 100000) (hgb : W.heap.size ≤ gb) (hvb : vb < w.heap.size) :
    ∃ ra rc av a' cap' Z, w.cell? ⟨gb, 1, none⟩ = some (.slice ra j rc) ∧ X.cell? ⟨gb, 1, none⟩ = some (.slice ra j rc) ∧ X.cell? ⟨gb, 0, none⟩ = some av ∧ (Builtin.append_ #[24, 24] 24 #[.slice ra j rc, .slice (some ⟨X.heap.size, 0, none⟩) 1 1]).run Tryz.prog (X.alloc (.cells #[.int .i64 x, .int .i64 y] 28)) = .ok (.slice a' (j + 1) cap') Z ∧
      Z.cell? ⟨gb, 1, none⟩ = some (.slice ra j rc) ∧ Z.frozen? ⟨gb, 1, none⟩ = false ∧ DG W (Z.setCell ⟨gb, 1, none⟩ (.slice a' (j + 1) cap')) gb vb K nf l r k (j + 1) := by
  obtain ⟨h1, h2, a, ac, tb, ra, rc, h3, ⟨h4, h4b⟩, h5, h6, h7⟩ := h
  have b3 := h3.kept oX (.inr (Nat.zero_le _))
  obtain ⟨E, hE⟩ : ∃ E, X.alloc (.cells #[.int .i64 x, .int .i64 y] 28) = E := ⟨_, rfl⟩
  have oE : Out 0 0 X E := hE ▸ (Out.refl 0 0 X).alloc _
  have bE : Bl E X.heap.size #[.int .i64 x, .int .i64 y] 28 := hE ▸ Bl.new _ _ _
  have hEs : E.heap.size = X.heap.size + 1 := by rw [← hE, size_alloc]
  have oXE := oX.trans oE
  have x0 := Fx.of_out (S := fun _ => False) oXE
  have own5 := own_fx h5 x0 (fun _ _ => id)
  obtain ⟨a', cap', Z, q1, q2, q3, q4⟩ := app_at (w := E) (m := 1) (c := 1) (sa := some ⟨X.heap.size, 0, none⟩) Tryz.underlying24 info_v rfl (by decide) (by decide) (ys := [.int .i64 x, .int .i64 y]) own5 (Nat.le_trans h1.size oXE.size) (.inr ⟨X.heap.size, 0, rfl, fun t u hu => by rw [Nat.zero_add]; exact bE.cell (by rw [← hu]; simp)⟩) rfl (by intro u hu; simp at hu; rcases hu with rfl | rfl <;> rfl) (by omega) (by omega) 24
  have bZ := (b3.kept oE (.inr (Nat.zero_le _))).fx q3 (fun e => own_ot own5 (b3.kept oE (.inr (Nat.zero_le _))) (by decide) e)
  have xS : Fx (fun t => t = gb) Z (Z.setCell ⟨gb, 1, none⟩ (.slice a' (j + 1) cap')) := Fx.set (S := fun t => t = gb) (Fx.refl _ Z) (p := ⟨gb, 1, none⟩) (.inl rfl) _
  have xA : Fx (fun t => (Value.slice ra j rc).ownBlock = some t ∨ t = gb) w (Z.setCell ⟨gb, 1, none⟩ (.slice a' (j + 1) cap')) := ((Fx.of_out oXE).trans (q3.wide (fun _ _ e => .inl e))).trans (xS.wide (fun _ _ e => .inr e))
  have hnew : ∀ g, g < w.heap.size → (Value.slice ra j rc).ownBlock ≠ some g → (Value.slice a' (j + 1) cap').ownBlock ≠ some g := by
    intro g hg hne e
    rcases q4 with q4 | q4
    · exact hne (q4.symm.trans e)
    · rw [q4] at e
      have := Option.some.inj e
      have := oXE.size
      omega
  refine ⟨ra, rc, _, a', cap', Z, h3.cell (i := 1) rfl, b3.cell (i := 1) rfl, b3.cell (i := 0) rfl, hE ▸ q1, bZ.cell (i := 1) rfl, bZ.frozen 1, ?_, h2.fx xA ?_, a, ac, tb, a', cap', bZ.set 1 _, ⟨own_fx h4 xA ?_, fun i hi => (h4b i hi).fx xA ?_⟩, ?_, fun i hi => hnew _ (h4b i hi).lt (h6 i hi), hnew _ hvb h7⟩
  · exact ((Fx.of_out (S := fun _ => False) h1).then xA (fun t h1 h2 => by rcases h2 with e | e; have := (own_ge h5 e).1; omega; omega)).out (fun _ _ q => q)
  · rintro (e | e)
    · exact h7 e
    · subst e
      have h9 := h3
      unfold Bl at h2 h9
      rw [h2] at h9
      simp at h9
  · rintro g hg (e | e)
    · exact own_ap h5 h4 (by decide) e hg
    · exact own_ot h4 h3 (by decide) (e ▸ hg)
  · rintro (e | e)
    · exact h6 i hi e
    · exact (h4b i hi).ne h3 (by decide) e
  · rw [List.take_add_one, hr, show (some (x, y)).toList = [(x, y)] from rfl, vcs_snoc]
    exact own_fx q2 xS (fun g hg e => own_ot q2 bZ (by decide) (e ▸ hg))
end Go.Proofs.YtocncffplcfpbaaGreatDoor
