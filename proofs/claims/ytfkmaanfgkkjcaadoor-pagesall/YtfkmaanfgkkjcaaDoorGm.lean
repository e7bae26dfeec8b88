/- a pair: its steps -/
import Derived.Test.YtfkmaanfgkkjcaaDoorGl
namespace Go.Proofs.YtfkmaanfgkkjcaaDoor
open Go.RowKit
set_option linter.unusedVariables false
set_option linter.unusedSimpArgs false

/-- other colours for new blocks and for those that grow -/
theorem Keep.recol {B : Nat} {w : World} {b : Nat} {vT vR vL vW vS vM : Value} {L Wr Ls : List Value} {Mk : List Nat} {C : Nat → List (Int × Int × Int)} {col : Nat → Nat} {cur : Option (Nat × Nat × Nat)} {p : Nat} {u : Bool} (h : Keep B w b vT vR vL vW vS vM L Wr Ls Mk C col cur p u) (col' : Nat → Nat) (e : ∀ x, x < w.heap.size → col x ≠ 8 → col' x = col x) : Keep B w b vT vR vL vW vS vM L Wr Ls Mk C col' cur p u := by
  have hlt := heap_lt h.hb
  refine { h with lo := ?_, cb := ?_, cL := ?_, cW := ?_, cS := ?_, cM := ?_, q := ?_, wr := ?_, f := ?_ }
  · intro k hk; rw [e k (by have := h.hB; omega) (by rw [h.lo k hk]; decide), h.lo k hk]
  · rw [e b hlt (by rw [h.cb]; decide), h.cb]
  · intro x hx; rw [e x (own_lt h.oL hx) (by rw [h.cL x hx]; decide), h.cL x hx]
  · intro x hx; rw [e x (own_lt h.oW hx) (by rw [h.cW x hx]; decide), h.cW x hx]
  · intro x hx; rw [e x (own_lt h.oS hx) (by rw [h.cS x hx]; decide), h.cS x hx]
  · intro x hx; rw [e x (own_lt h.oM hx) (by rw [h.cM x hx]; decide), h.cM x hx]
  · intro i v hp hv
    obtain ⟨a, b', c⟩ := h.q i v hp hv
    exact ⟨a, b', fun x hx => by rw [e x (own_lt a hx) (by rw [c x hx]; omega), c x hx]⟩
  · intro hu i v hv
    obtain ⟨a, cap, e1, hr⟩ := h.wr hu i v hv
    refine ⟨a, cap, e1, fun h0 => ?_⟩
    obtain ⟨g, g0, g1, g2, g3⟩ := hr h0
    exact ⟨g, g0, g1, by rw [e g g1 (by rw [g2]; decide), g2], g3⟩
  · intro i v m hv hm
    obtain ⟨a, n, cap, e1, hn, hr⟩ := h.f i v m hv hm
    refine ⟨a, n, cap, e1, hn, fun h0 => ?_⟩
    obtain ⟨g, g0, hg⟩ := hr h0
    refine ⟨g, g0, ?_⟩
    rcases hg with ⟨g1, g2, g3⟩ | hg
    · exact .inl ⟨g1, by rw [e g g1 (by rw [g2]; decide), g2], g3⟩
    · exact .inr hg
/-- blocks that are none of what is kept -/
theorem Keep.chg {B : Nat} {w : World} {b : Nat} {vT vR vL vW vS vM : Value} {L Wr Ls : List Value} {Mk : List Nat} {C : Nat → List (Int × Int × Int)} {col : Nat → Nat} {cur : Option (Nat × Nat × Nat)} {p : Nat} {u : Bool} (h : Keep B w b vT vR vL vW vS vM L Wr Ls Mk C col cur p u) {w' : World} {P : Nat → Prop} (o : Chg col P w w') (hP : ∀ c, P c → c = 7 ∨ c = 8 ∨ c = 9) : Keep B w' b vT vR vL vW vS vM L Wr Ls Mk C col cur p u := by
  have no : ∀ c, c ≠ 7 ∧ c ≠ 8 ∧ c ≠ 9 → ¬ P c := fun c hc hp => by have := hP c hp; omega
  refine { h with hB := Nat.le_trans h.hB o.size, hb := ?_, oL := ?_, oW := ?_, oS := ?_, oM := ?_, q := ?_, wr := ?_, f := ?_ }
  · exact o.heap h.hb (no _ (by rw [h.cb]; decide))
  · exact o.own h.oL fun x hx => no _ (by rw [h.cL x hx]; decide)
  · exact o.own h.oW fun x hx => no _ (by rw [h.cW x hx]; decide)
  · exact o.own h.oS fun x hx => no _ (by rw [h.cS x hx]; decide)
  · exact o.own h.oM fun x hx => no _ (by rw [h.cM x hx]; decide)
  · intro i v hp hv
    obtain ⟨a, b', c⟩ := h.q i v hp hv
    exact ⟨o.list a fun x hx => no _ (by rw [c x hx]; omega), b', c⟩
  · intro hu i v hv; exact o.were (h.wr hu i v hv) (no _ (by decide))
  · intro i v m hv hm; exact o.full (h.f i v m hv hm) (no _ (by decide))
theorem Keep.quiet {B : Nat} {w : World} {b : Nat} {vT vR vL vW vS vM : Value} {L Wr Ls : List Value} {Mk : List Nat} {C : Nat → List (Int × Int × Int)} {col : Nat → Nat} {cur : Option (Nat × Nat × Nat)} {p : Nat} {u : Bool} (h : Keep B w b vT vR vL vW vS vM L Wr Ls Mk C col cur p u) {w' : World} (o : Out 0 0 w w') : Keep B w' b vT vR vL vW vS vM L Wr Ls Mk C col cur p u := h.chg (P := fun c => c = 8) (Chg.of_out o _ _) (fun _ h => .inr (.inl h))
def upd (col : Nat → Nat) (g c : Nat) : Nat → Nat := fun x => if x = g then c else col x
theorem upd_self (col : Nat → Nat) (g c : Nat) : upd col g c g = c := by unfold upd; rw [if_pos rfl]
theorem upd_other {col : Nat → Nat} {g c x : Nat} (h : x ≠ g) : upd col g c x = col x := by unfold upd; rw [if_neg h]
theorem keep_set {w : World} {b : Nat} {x0 x1 x2 x3 x4 x5 : Value} {T : TypeId} (h : w.heap[b]? = some (.cells #[x0, x1, x2, x3, x4, x5] T (0, 0))) (i : Nat) (hi : i < 6) (v : Value) :
    (w.setCell ⟨b, i, none⟩ v).heap[b]? = some (.cells (#[x0, x1, x2, x3, x4, x5].setIfInBounds i v) T (0, 0)) := by
  simp [World.setCell, Array.getElem?_modify, h]
theorem keep_cells {w : World} {b : Nat} {x0 x1 x2 x3 x4 x5 : Value} {T : TypeId} (h : w.heap[b]? = some (.cells #[x0, x1, x2, x3, x4, x5] T (0, 0))) :
    w.cell? ⟨b, 0, none⟩ = some x0 ∧ w.cell? ⟨b, 1, none⟩ = some x1 ∧ w.cell? ⟨b, 2, none⟩ = some x2 ∧ w.cell? ⟨b, 3, none⟩ = some x3 ∧ w.cell? ⟨b, 4, none⟩ = some x4 ∧ w.cell? ⟨b, 5, none⟩ = some x5 ∧ ∀ i, w.frozen? ⟨b, i, none⟩ = false := by
  simp [World.cell?, World.frozen?, h]
theorem Keep.pushL {B : Nat} {w : World} {b : Nat} {vT vR vL vW vS vM : Value} {L Wr Ls : List Value} {Mk : List Nat} {C : Nat → List (Int × Int × Int)} {col : Nat → Nat} {cur : Option (Nat × Nat × Nat)} {p : Nat} {u : Bool} (h : Keep B w b vT vR vL vW vS vM L Wr Ls Mk C col cur p u) {xs : List Value} {w1 w2 : World} {v' : Value} {g cap : Nat} (o1 : Out 0 0 w w1) (own : w2.ownsRow B 37 1 v' (L.length + xs.length) (L ++ xs)) (gr : Grew w1 w2 vL g) (hv : v' = .slice (some ⟨g, 0, none⟩) (L.length + xs.length) cap) (hq : ∀ (i : Nat) (x : Value), xs[i]? = some x → ListIs w B x (C (L.length + i)) ∧ (C (L.length + i)).length ≤ 64 ∧ ∀ y, x.ownBlock = some y → col y = 20 + (L.length + i)) :
    w2.heap[b]? = some (.cells #[vT, vR, vL, vW, vS, vM] 59 (0, 0)) ∧ (∀ y, y < w.heap.size → upd col g 1 y = col y) ∧ Chg col (fun c => c = 0 ∨ c = 1) w (w2.setCell ⟨b, 2, none⟩ v') ∧ Keep B (w2.setCell ⟨b, 2, none⟩ v') b vT vR v' vW vS vM (L ++ xs) Wr Ls Mk C (upd col g 1) cur p u := by
  have hcol : ∀ y, y < w.heap.size → upd col g 1 y = col y := by
    intro y hy
    rcases gr with ⟨_, hg⟩ | ⟨hg, _⟩
    · exact upd_other (by have := o1.size; omega)
    · by_cases e : y = g
      · subst e; rw [upd_self, h.cL y hg]
      · exact upd_other e
  have hgb : g ≠ b := by
    intro e
    subst e
    rcases gr with ⟨_, hg⟩ | ⟨hg, _⟩
    · have := heap_lt h.hb; have := o1.size; omega
    · have := h.cL _ hg; rw [h.cb] at this; cases this
  have ch1 : Chg col (fun c => c = 1) w w2 := (Chg.of_out o1 _ _).trans (Chg.grew gr fun y hy => h.cL y hy)
  have ch2 : Chg col (fun c => c = 0 ∨ c = 1) w w2 := ch1.mono fun c hc => .inr hc
  have hb2 : w2.heap[b]? = some (.cells #[vT, vR, vL, vW, vS, vM] 59 (0, 0)) := ch1.heap h.hb (by rw [h.cb]; decide)
  have ch3 : Chg col (fun c => c = 0 ∨ c = 1) w (w2.setCell ⟨b, 2, none⟩ v') := ch2.setCell (.inl h.cb) _
  have hr := h.recol (upd col g 1) fun y hy _ => hcol y hy
  have ch4 : Chg (upd col g 1) (fun c => c = 0 ∨ c = 1) w (w2.setCell ⟨b, 2, none⟩ v') := ⟨ch3.1, ch3.2.1, ch3.2.2.1, ch3.size, fun y hy hp => ch3.2.2.2.2 y hy (by rw [← hcol y hy]; exact hp)⟩
  have no : ∀ c, c ≠ 0 → c ≠ 1 → ¬ (c = 0 ∨ c = 1) := fun c h1 h2 h3 => by rcases h3 with h3 | h3 <;> contradiction
  have hnew : (w2.setCell ⟨b, 2, none⟩ v').ownsRow B 37 1 v' (L.length + xs.length) (L ++ xs) := by
    obtain ⟨k1, k2⟩ := own
    refine ⟨k1, ?_⟩
    rcases k2 with k2 | ⟨g', cap', cu, e, r1, r2, r3⟩
    · exact .inl k2
    · refine .inr ⟨g', cap', cu, e, r1, ?_, r3⟩
      rw [hv] at e
      cases e
      rw [Below.heap_setCell _ _ _ _ hgb]
      exact r2
  refine ⟨hb2, hcol, ch3, { lo := hr.lo, hB := Nat.le_trans hr.hB ch4.size, hb := ?_, cb := hr.cb, oL := ?_, oW := ?_, oS := ?_, oM := ?_, cL := fun y hy => by rw [hv] at hy; cases hy; exact upd_self _ _ _, cW := hr.cW, cS := hr.cS, cM := hr.cM, q := ?_, wr := ?_, f := ?_ }⟩
  · exact keep_set hb2 2 (by decide) v'
  · exact by rw [List.length_append]; exact hnew
  · exact ch4.own hr.oW fun y hy => no _ (by rw [hr.cW y hy]; decide) (by rw [hr.cW y hy]; decide)
  · exact ch4.own hr.oS fun y hy => no _ (by rw [hr.cS y hy]; decide) (by rw [hr.cS y hy]; decide)
  · exact ch4.own hr.oM fun y hy => no _ (by rw [hr.cM y hy]; decide) (by rw [hr.cM y hy]; decide)
  · intro i v hp hv'
    by_cases hi : i < L.length
    · rw [List.getElem?_append_left hi] at hv'
      obtain ⟨a, b', c⟩ := hr.q i v hp hv'
      exact ⟨ch4.list a fun y hy => no _ (by rw [c y hy]; omega) (by rw [c y hy]; omega), b', c⟩
    · rw [List.getElem?_append_right (by omega)] at hv'
      have hq1 := hq (i - L.length) v hv'
      rw [show L.length + (i - L.length) = i from by omega] at hq1
      refine ⟨ch3.list hq1.1 fun y hy => no _ (by rw [hq1.2.2 y hy]; omega) (by rw [hq1.2.2 y hy]; omega), hq1.2.1, fun y hy => ?_⟩
      rw [hcol y (own_lt hq1.1 hy), hq1.2.2 y hy]
  · intro hu i v hv'; exact ch4.were (hr.wr hu i v hv') (no _ (by decide) (by decide))
  · intro i v m hv' hm; exact ch4.full (hr.f i v m hv' hm) (no _ (by decide) (by decide))
theorem Keep.pushW {B : Nat} {w : World} {b : Nat} {vT vR vL vW vS vM : Value} {L Wr Ls : List Value} {Mk : List Nat} {C : Nat → List (Int × Int × Int)} {col : Nat → Nat} {cur : Option (Nat × Nat × Nat)} {p : Nat} {u : Bool} (h : Keep B w b vT vR vL vW vS vM L Wr Ls Mk C col cur p u) {xs : List Value} {w1 w2 : World} {v' : Value} {g cap : Nat} (o1 : Out 0 0 w w1) (own : w2.ownsRow B 37 1 v' (Wr.length + xs.length) (Wr ++ xs)) (gr : Grew w1 w2 vW g) (hv : v' = .slice (some ⟨g, 0, none⟩) (Wr.length + xs.length) cap) (hq : ∀ (i : Nat) (x : Value), xs[i]? = some x → Were w col x (C (Wr.length + i))) :
    w2.heap[b]? = some (.cells #[vT, vR, vL, vW, vS, vM] 59 (0, 0)) ∧ (∀ y, y < w.heap.size → upd col g 2 y = col y) ∧ Chg col (fun c => c = 0 ∨ c = 2) w (w2.setCell ⟨b, 3, none⟩ v') ∧ Keep B (w2.setCell ⟨b, 3, none⟩ v') b vT vR vL v' vS vM L (Wr ++ xs) Ls Mk C (upd col g 2) cur p u := by
  have hcol : ∀ y, y < w.heap.size → upd col g 2 y = col y := by
    intro y hy
    rcases gr with ⟨_, hg⟩ | ⟨hg, _⟩
    · exact upd_other (by have := o1.size; omega)
    · by_cases e : y = g
      · subst e; rw [upd_self, h.cW y hg]
      · exact upd_other e
  have hgb : g ≠ b := by
    intro e
    subst e
    rcases gr with ⟨_, hg⟩ | ⟨hg, _⟩
    · have := heap_lt h.hb; have := o1.size; omega
    · have := h.cW _ hg; rw [h.cb] at this; cases this
  have ch1 : Chg col (fun c => c = 2) w w2 := (Chg.of_out o1 _ _).trans (Chg.grew gr fun y hy => h.cW y hy)
  have ch2 : Chg col (fun c => c = 0 ∨ c = 2) w w2 := ch1.mono fun c hc => .inr hc
  have hb2 : w2.heap[b]? = some (.cells #[vT, vR, vL, vW, vS, vM] 59 (0, 0)) := ch1.heap h.hb (by rw [h.cb]; decide)
  have ch3 : Chg col (fun c => c = 0 ∨ c = 2) w (w2.setCell ⟨b, 3, none⟩ v') := ch2.setCell (.inl h.cb) _
  have hr := h.recol (upd col g 2) fun y hy _ => hcol y hy
  have ch4 : Chg (upd col g 2) (fun c => c = 0 ∨ c = 2) w (w2.setCell ⟨b, 3, none⟩ v') := ⟨ch3.1, ch3.2.1, ch3.2.2.1, ch3.size, fun y hy hp => ch3.2.2.2.2 y hy (by rw [← hcol y hy]; exact hp)⟩
  have no : ∀ c, c ≠ 0 → c ≠ 2 → ¬ (c = 0 ∨ c = 2) := fun c h1 h2 h3 => by rcases h3 with h3 | h3 <;> contradiction
  have hnew : (w2.setCell ⟨b, 3, none⟩ v').ownsRow B 37 1 v' (Wr.length + xs.length) (Wr ++ xs) := by
    obtain ⟨k1, k2⟩ := own
    refine ⟨k1, ?_⟩
    rcases k2 with k2 | ⟨g', cap', cu, e, r1, r2, r3⟩
    · exact .inl k2
    · refine .inr ⟨g', cap', cu, e, r1, ?_, r3⟩
      rw [hv] at e
      cases e
      rw [Below.heap_setCell _ _ _ _ hgb]
      exact r2
  refine ⟨hb2, hcol, ch3, { lo := hr.lo, hB := Nat.le_trans hr.hB ch4.size, hb := ?_, cb := hr.cb, oL := ?_, oW := ?_, oS := ?_, oM := ?_, cL := hr.cL, cW := fun y hy => by rw [hv] at hy; cases hy; exact upd_self _ _ _, cS := hr.cS, cM := hr.cM, q := ?_, wr := ?_, f := ?_ }⟩
  · exact keep_set hb2 3 (by decide) v'
  · exact ch4.own hr.oL fun y hy => no _ (by rw [hr.cL y hy]; decide) (by rw [hr.cL y hy]; decide)
  · exact by rw [List.length_append]; exact hnew
  · exact ch4.own hr.oS fun y hy => no _ (by rw [hr.cS y hy]; decide) (by rw [hr.cS y hy]; decide)
  · exact ch4.own hr.oM fun y hy => no _ (by rw [hr.cM y hy]; decide) (by rw [hr.cM y hy]; decide)
  · intro i v hp hv'
    have r := hr.q i v hp hv'
    exact ⟨ch4.list r.1 fun y hy => no _ (by rw [r.2.2 y hy]; omega) (by rw [r.2.2 y hy]; omega), r.2.1, r.2.2⟩
  · intro hu i v hv'
    by_cases hi : i < Wr.length
    · rw [List.getElem?_append_left hi] at hv'
      exact ch4.were (hr.wr hu i v hv') (no _ (by decide) (by decide))
    · rw [List.getElem?_append_right (by omega)] at hv'
      have hq1 := hq (i - Wr.length) v hv'
      rw [show Wr.length + (i - Wr.length) = i from by omega] at hq1
      have hq2 : Were w (upd col g 2) v (C i) := by
        obtain ⟨a, cp, e1, r⟩ := hq1
        refine ⟨a, cp, e1, fun h0 => ?_⟩
        obtain ⟨y, y0, y1, y2, y3⟩ := r h0
        exact ⟨y, y0, y1, by rw [hcol y y1, y2], y3⟩
      exact ch4.were hq2 (no _ (by decide) (by decide))
  · intro i v m hv' hm; exact ch4.full (hr.f i v m hv' hm) (no _ (by decide) (by decide))
theorem Keep.pushS {B : Nat} {w : World} {b : Nat} {vT vR vL vW vS vM : Value} {L Wr Ls : List Value} {Mk : List Nat} {C : Nat → List (Int × Int × Int)} {col : Nat → Nat} {cur : Option (Nat × Nat × Nat)} {p : Nat} {u : Bool} (h : Keep B w b vT vR vL vW vS vM L Wr Ls Mk C col cur p u) {x : Value} {w1 w2 : World} {v' : Value} {g cap : Nat} (o1 : Out 0 0 w w1) (own : w2.ownsRow B 37 1 v' (Ls.length + 1) (Ls ++ [x])) (gr : Grew w1 w2 vS g) (hv : v' = .slice (some ⟨g, 0, none⟩) (Ls.length + 1) cap) (hq : Mk.length ≤ Ls.length) :
    w2.heap[b]? = some (.cells #[vT, vR, vL, vW, vS, vM] 59 (0, 0)) ∧ (∀ y, y < w.heap.size → upd col g 3 y = col y) ∧ Chg col (fun c => c = 0 ∨ c = 3) w (w2.setCell ⟨b, 4, none⟩ v') ∧ Keep B (w2.setCell ⟨b, 4, none⟩ v') b vT vR vL vW v' vM L Wr (Ls ++ [x]) Mk C (upd col g 3) cur p u := by
  have hcol : ∀ y, y < w.heap.size → upd col g 3 y = col y := by
    intro y hy
    rcases gr with ⟨_, hg⟩ | ⟨hg, _⟩
    · exact upd_other (by have := o1.size; omega)
    · by_cases e : y = g
      · subst e; rw [upd_self, h.cS y hg]
      · exact upd_other e
  have hgb : g ≠ b := by
    intro e
    subst e
    rcases gr with ⟨_, hg⟩ | ⟨hg, _⟩
    · have := heap_lt h.hb; have := o1.size; omega
    · have := h.cS _ hg; rw [h.cb] at this; cases this
  have ch1 : Chg col (fun c => c = 3) w w2 := (Chg.of_out o1 _ _).trans (Chg.grew gr fun y hy => h.cS y hy)
  have ch2 : Chg col (fun c => c = 0 ∨ c = 3) w w2 := ch1.mono fun c hc => .inr hc
  have hb2 : w2.heap[b]? = some (.cells #[vT, vR, vL, vW, vS, vM] 59 (0, 0)) := ch1.heap h.hb (by rw [h.cb]; decide)
  have ch3 : Chg col (fun c => c = 0 ∨ c = 3) w (w2.setCell ⟨b, 4, none⟩ v') := ch2.setCell (.inl h.cb) _
  have hr := h.recol (upd col g 3) fun y hy _ => hcol y hy
  have ch4 : Chg (upd col g 3) (fun c => c = 0 ∨ c = 3) w (w2.setCell ⟨b, 4, none⟩ v') := ⟨ch3.1, ch3.2.1, ch3.2.2.1, ch3.size, fun y hy hp => ch3.2.2.2.2 y hy (by rw [← hcol y hy]; exact hp)⟩
  have no : ∀ c, c ≠ 0 → c ≠ 3 → ¬ (c = 0 ∨ c = 3) := fun c h1 h2 h3 => by rcases h3 with h3 | h3 <;> contradiction
  have hnew : (w2.setCell ⟨b, 4, none⟩ v').ownsRow B 37 1 v' (Ls.length + 1) (Ls ++ [x]) := by
    obtain ⟨k1, k2⟩ := own
    refine ⟨k1, ?_⟩
    rcases k2 with k2 | ⟨g', cap', cu, e, r1, r2, r3⟩
    · exact .inl k2
    · refine .inr ⟨g', cap', cu, e, r1, ?_, r3⟩
      rw [hv] at e
      cases e
      rw [Below.heap_setCell _ _ _ _ hgb]
      exact r2
  refine ⟨hb2, hcol, ch3, { lo := hr.lo, hB := Nat.le_trans hr.hB ch4.size, hb := ?_, cb := hr.cb, oL := ?_, oW := ?_, oS := ?_, oM := ?_, cL := hr.cL, cW := hr.cW, cS := fun y hy => by rw [hv] at hy; cases hy; exact upd_self _ _ _, cM := hr.cM, q := ?_, wr := ?_, f := ?_ }⟩
  · exact keep_set hb2 4 (by decide) v'
  · exact ch4.own hr.oL fun y hy => no _ (by rw [hr.cL y hy]; decide) (by rw [hr.cL y hy]; decide)
  · exact ch4.own hr.oW fun y hy => no _ (by rw [hr.cW y hy]; decide) (by rw [hr.cW y hy]; decide)
  · exact by rw [List.length_append]; exact hnew
  · exact ch4.own hr.oM fun y hy => no _ (by rw [hr.cM y hy]; decide) (by rw [hr.cM y hy]; decide)
  · intro i v hp hv'
    have r := hr.q i v hp hv'
    exact ⟨ch4.list r.1 fun y hy => no _ (by rw [r.2.2 y hy]; omega) (by rw [r.2.2 y hy]; omega), r.2.1, r.2.2⟩
  · intro hu i v hv'; exact ch4.were (hr.wr hu i v hv') (no _ (by decide) (by decide))
  · intro i v m hv' hm
    by_cases hi : i < Ls.length
    · rw [List.getElem?_append_left hi] at hv'
      exact ch4.full (hr.f i v m hv' hm) (no _ (by decide) (by decide))
    · have := (List.getElem?_eq_some_iff.1 hm).1
      omega
theorem Keep.pushM {B : Nat} {w : World} {b : Nat} {vT vR vL vW vS vM : Value} {L Wr Ls : List Value} {Mk : List Nat} {C : Nat → List (Int × Int × Int)} {col : Nat → Nat} {cur : Option (Nat × Nat × Nat)} {p : Nat} {u : Bool} (h : Keep B w b vT vR vL vW vS vM L Wr Ls Mk C col cur p u) {x : Nat} {w1 w2 : World} {v' : Value} {g cap : Nat} (o1 : Out 0 0 w w1) (own : w2.ownsRow B 3 1 v' (Mk.length + 1) (ints Mk ++ [.int .i64 x])) (gr : Grew w1 w2 vM g) (hv : v' = .slice (some ⟨g, 0, none⟩) (Mk.length + 1) cap) (hq : ∀ v, Ls[Mk.length]? = some v → FullC w col cur v x) :
    w2.heap[b]? = some (.cells #[vT, vR, vL, vW, vS, vM] 59 (0, 0)) ∧ (∀ y, y < w.heap.size → upd col g 4 y = col y) ∧ Chg col (fun c => c = 0 ∨ c = 4) w (w2.setCell ⟨b, 5, none⟩ v') ∧ Keep B (w2.setCell ⟨b, 5, none⟩ v') b vT vR vL vW vS v' L Wr Ls (Mk ++ [x]) C (upd col g 4) cur p u := by
  have hcol : ∀ y, y < w.heap.size → upd col g 4 y = col y := by
    intro y hy
    rcases gr with ⟨_, hg⟩ | ⟨hg, _⟩
    · exact upd_other (by have := o1.size; omega)
    · by_cases e : y = g
      · subst e; rw [upd_self, h.cM y hg]
      · exact upd_other e
  have hgb : g ≠ b := by
    intro e
    subst e
    rcases gr with ⟨_, hg⟩ | ⟨hg, _⟩
    · have := heap_lt h.hb; have := o1.size; omega
    · have := h.cM _ hg; rw [h.cb] at this; cases this
  have ch1 : Chg col (fun c => c = 4) w w2 := (Chg.of_out o1 _ _).trans (Chg.grew gr fun y hy => h.cM y hy)
  have ch2 : Chg col (fun c => c = 0 ∨ c = 4) w w2 := ch1.mono fun c hc => .inr hc
  have hb2 : w2.heap[b]? = some (.cells #[vT, vR, vL, vW, vS, vM] 59 (0, 0)) := ch1.heap h.hb (by rw [h.cb]; decide)
  have ch3 : Chg col (fun c => c = 0 ∨ c = 4) w (w2.setCell ⟨b, 5, none⟩ v') := ch2.setCell (.inl h.cb) _
  have hr := h.recol (upd col g 4) fun y hy _ => hcol y hy
  have ch4 : Chg (upd col g 4) (fun c => c = 0 ∨ c = 4) w (w2.setCell ⟨b, 5, none⟩ v') := ⟨ch3.1, ch3.2.1, ch3.2.2.1, ch3.size, fun y hy hp => ch3.2.2.2.2 y hy (by rw [← hcol y hy]; exact hp)⟩
  have no : ∀ c, c ≠ 0 → c ≠ 4 → ¬ (c = 0 ∨ c = 4) := fun c h1 h2 h3 => by rcases h3 with h3 | h3 <;> contradiction
  have hnew : (w2.setCell ⟨b, 5, none⟩ v').ownsRow B 3 1 v' (Mk.length + 1) (ints Mk ++ [.int .i64 x]) := by
    obtain ⟨k1, k2⟩ := own
    refine ⟨k1, ?_⟩
    rcases k2 with k2 | ⟨g', cap', cu, e, r1, r2, r3⟩
    · exact .inl k2
    · refine .inr ⟨g', cap', cu, e, r1, ?_, r3⟩
      rw [hv] at e
      cases e
      rw [Below.heap_setCell _ _ _ _ hgb]
      exact r2
  refine ⟨hb2, hcol, ch3, { lo := hr.lo, hB := Nat.le_trans hr.hB ch4.size, hb := ?_, cb := hr.cb, oL := ?_, oW := ?_, oS := ?_, oM := ?_, cL := hr.cL, cW := hr.cW, cS := hr.cS, cM := fun y hy => by rw [hv] at hy; cases hy; exact upd_self _ _ _, q := ?_, wr := ?_, f := ?_ }⟩
  · exact keep_set hb2 5 (by decide) v'
  · exact ch4.own hr.oL fun y hy => no _ (by rw [hr.cL y hy]; decide) (by rw [hr.cL y hy]; decide)
  · exact ch4.own hr.oW fun y hy => no _ (by rw [hr.cW y hy]; decide) (by rw [hr.cW y hy]; decide)
  · exact ch4.own hr.oS fun y hy => no _ (by rw [hr.cS y hy]; decide) (by rw [hr.cS y hy]; decide)
  · exact by rw [List.length_append, show ints (Mk ++ [x]) = ints Mk ++ [.int .i64 x] from by simp [ints]]; exact hnew
  · intro i v hp hv'
    have r := hr.q i v hp hv'
    exact ⟨ch4.list r.1 fun y hy => no _ (by rw [r.2.2 y hy]; omega) (by rw [r.2.2 y hy]; omega), r.2.1, r.2.2⟩
  · intro hu i v hv'; exact ch4.were (hr.wr hu i v hv') (no _ (by decide) (by decide))
  · intro i v m hv' hm
    by_cases hi : i < Mk.length
    · rw [List.getElem?_append_left hi] at hm
      exact ch4.full (hr.f i v m hv' hm) (no _ (by decide) (by decide))
    · have hi2 : i = Mk.length := by
        have := (List.getElem?_eq_some_iff.1 hm).1
        simp at this; omega
      subst hi2
      rw [List.getElem?_append_right (Nat.le_refl _)] at hm
      simp at hm
      subst hm
      have hq2 : FullC w (upd col g 4) cur v x := by
        obtain ⟨a, n, cp, e1, hn, r⟩ := hq v hv'
        refine ⟨a, n, cp, e1, hn, fun h0 => ?_⟩
        obtain ⟨y, y0, y1⟩ := r h0
        refine ⟨y, y0, ?_⟩
        rcases y1 with ⟨y1, y2, y3⟩ | y1
        · exact .inl ⟨y1, by rw [hcol y y1, y2], y3⟩
        · exact .inr y1
      exact ch4.full hq2 (no _ (by decide) (by decide))
/-! the one that grows -/
def curOf (v : Value) (N m : Nat) : Option (Nat × Nat × Nat) := v.ownBlock.map fun g => (g, N, m)
/-- it grows no more -/
theorem Keep.shut {B : Nat} {w : World} {b : Nat} {vT vR vL vW vS vM : Value} {L Wr Ls : List Value} {Mk : List Nat} {C : Nat → List (Int × Int × Int)} {col : Nat → Nat} {p : Nat} {u : Bool} {vf : Value} {N m : Nat} (h : Keep B w b vT vR vL vW vS vM L Wr Ls Mk C col (curOf vf N m) p u) (hl : ListIs w B vf (List.replicate N (pm m))) (hc : ∀ x, vf.ownBlock = some x → col x = 8) :
    ∃ col', (∀ x, x < w.heap.size → col x ≠ 8 → col' x = col x) ∧ Keep B w b vT vR vL vW vS vM L Wr Ls Mk C col' none p u := by
  cases hb : vf.ownBlock with
  | none =>
    rw [show curOf vf N m = none from by unfold curOf; rw [hb]; rfl] at h
    exact ⟨col, fun _ _ _ => rfl, h⟩
  | some g =>
    rw [show curOf vf N m = some (g, N, m) from by unfold curOf; rw [hb]; rfl] at h
    have hg8 := hc g hb
    have he : ∀ x, x < w.heap.size → col x ≠ 8 → upd col g 5 x = col x := fun x _ hx => upd_other (by intro e; subst e; exact hx hg8)
    have hr := h.recol (upd col g 5) he
    refine ⟨upd col g 5, he, { hr with f := ?_ }⟩
    intro i v k hv hk
    obtain ⟨a, n, cap, e1, hn, r⟩ := hr.f i v k hv hk
    refine ⟨a, n, cap, e1, hn, fun h0 => ?_⟩
    obtain ⟨y, y0, y1⟩ := r h0
    refine ⟨y, y0, ?_⟩
    rcases y1 with y1 | ⟨M, y1, y2⟩
    · exact .inl y1
    · left
      cases y1
      obtain ⟨a', cap', e', hrow⟩ := list_shape hl
      simp only [List.length_replicate] at hrow
      obtain ⟨g', g0, g1, g2, g3⟩ := hrow (by omega)
      rw [hb] at g1
      cases g1
      refine ⟨g2, upd_self _ _ _, fun j hj => ?_⟩
      exact g3 j _ (by rw [List.getElem?_replicate, if_pos (by omega)])
theorem Keep.opened {B : Nat} {w : World} {b : Nat} {vT vR vL vW vS vM : Value} {L Wr Ls : List Value} {Mk : List Nat} {C : Nat → List (Int × Int × Int)} {col : Nat → Nat} {p : Nat} {u : Bool} (h : Keep B w b vT vR vL vW vS vM L Wr Ls Mk C col none p u) (cur : Option (Nat × Nat × Nat)) : Keep B w b vT vR vL vW vS vM L Wr Ls Mk C col cur p u := by
  refine { h with f := ?_ }
  intro i v k hv hk
  obtain ⟨a, n, cap, e1, hn, r⟩ := h.f i v k hv hk
  refine ⟨a, n, cap, e1, hn, fun h0 => ?_⟩
  obtain ⟨y, y0, y1⟩ := r h0
  refine ⟨y, y0, ?_⟩
  rcases y1 with y1 | ⟨M, y1, y2⟩
  · exact .inl y1
  · cases y1
theorem Keep.longer {B : Nat} {w : World} {b : Nat} {vT vR vL vW vS vM : Value} {L Wr Ls : List Value} {Mk : List Nat} {C : Nat → List (Int × Int × Int)} {col : Nat → Nat} {p : Nat} {u : Bool} {g N m : Nat} (h : Keep B w b vT vR vL vW vS vM L Wr Ls Mk C col (some (g, N, m)) p u) : Keep B w b vT vR vL vW vS vM L Wr Ls Mk C col (some (g, N + 1, m)) p u := by
  refine { h with f := ?_ }
  intro i v k hv hk
  obtain ⟨a, n, cap, e1, hn, r⟩ := h.f i v k hv hk
  refine ⟨a, n, cap, e1, hn, fun h0 => ?_⟩
  obtain ⟨y, y0, y1⟩ := r h0
  refine ⟨y, y0, ?_⟩
  rcases y1 with y1 | ⟨M, y1, y2⟩
  · exact .inl y1
  · cases y1
    exact .inr ⟨_, rfl, by omega⟩
/-- hold's state: what is kept, the list that grows -/
def HoldSt (B b : Nat) (vT vR vL vW : Value) (L Wr : List Value) (C : Nat → List (Int × Int × Int)) (p : Nat) (u : Bool) (m : Nat) (w : World) (vf : Value) (N : Nat) (vS vM : Value) (Ls : List Value) (Mk : List Nat) (col : Nat → Nat) : Prop :=
  Keep B w b vT vR vL vW vS vM L Wr Ls Mk C col (curOf vf N m) p u ∧ ListIs w B vf (List.replicate N (pm m)) ∧ ∀ x, vf.ownBlock = some x → col x = 8
theorem Keep.below {B : Nat} {w : World} {b : Nat} {vT vR vL vW vS vM : Value} {L Wr Ls : List Value} {Mk : List Nat} {C : Nat → List (Int × Int × Int)} {col : Nat → Nat} {p : Nat} {u : Bool} {cur : Option (Nat × Nat × Nat)} (h : Keep B w b vT vR vL vW vS vM L Wr Ls Mk C col cur p u) {w' : World} {P : Nat → Prop} (o : Chg col P w w') (hP : ¬ P 7) : Below B w w' := o.below (fun k hk => by rw [h.lo k hk]; exact hP) h.hB
/-- blocks of colour 7 are as they were, and of that colour still -/
def Fix (col col' : Nat → Nat) (w w' : World) : Prop := Chg col (fun c => c ≠ 7) w w' ∧ ∀ k, k < w.heap.size → col k = 7 → col' k = 7
theorem Fix.of {col col' : Nat → Nat} {P : Nat → Prop} {w w' : World} (h : Chg col P w w') (hP : ¬ P 7) (e : ∀ k, k < w.heap.size → col k = 7 → col' k = 7) : Fix col col' w w' :=
  ⟨h.mono fun c hc h7 => by subst h7; exact hP hc, e⟩
theorem Fix.refl (col : Nat → Nat) (w : World) : Fix col col w w := ⟨Chg.of_out (Out.refl 0 0 _) _ _, fun _ _ h => h⟩
theorem Fix.trans {c0 c1 c2 : Nat → Nat} {a b c : World} (h : Fix c0 c1 a b) (g : Fix c1 c2 b c) : Fix c0 c2 a c := by
  refine ⟨⟨g.1.1.trans h.1.1, g.1.2.1.trans h.1.2.1, g.1.2.2.1.trans h.1.2.2.1, Nat.le_trans h.1.size g.1.size, fun k hk hp => ?_⟩, fun k hk h7 => g.2 k (Nat.lt_of_lt_of_le hk h.1.size) (h.2 k hk h7)⟩
  have h7 : c0 k = 7 := Classical.not_not.1 hp
  exact (g.1.2.2.2.2 k (Nat.lt_of_lt_of_le hk h.1.size) (fun q => q (h.2 k hk h7))).trans (h.1.2.2.2.2 k hk hp)
theorem Fix.recol {c0 c1 c2 : Nat → Nat} {a b : World} (h : Fix c0 c1 a b) (e : ∀ x, x < b.heap.size → c1 x ≠ 8 → c2 x = c1 x) : Fix c0 c2 a b :=
  ⟨h.1, fun k hk h7 => by have := h.2 k hk h7; rw [e k (Nat.lt_of_lt_of_le hk h.1.size) (by rw [this]; decide)]; exact this⟩
theorem Fix.heap {c0 c1 : Nat → Nat} {a b : World} (h : Fix c0 c1 a b) {k : Nat} {o : Obj} (hb : a.heap[k]? = some o) (h7 : c0 k = 7) : b.heap[k]? = some o := h.1.heap hb (fun q => q h7)
theorem Fix.cell {c0 c1 : Nat → Nat} {a b : World} (h : Fix c0 c1 a b) {k i : Nat} {v : Value} (hb : a.cell? ⟨k, i, none⟩ = some v) (h7 : c0 k = 7) : b.cell? ⟨k, i, none⟩ = some v := h.1.cell hb (fun q => q h7)
theorem Keep.fixed {B : Nat} {w : World} {b : Nat} {vT vR vL vW vS vM : Value} {L Wr Ls : List Value} {Mk : List Nat} {C : Nat → List (Int × Int × Int)} {col : Nat → Nat} {cur : Option (Nat × Nat × Nat)} {p : Nat} {u : Bool} (h : Keep B w b vT vR vL vW vS vM L Wr Ls Mk C col cur p u) {w' : World} {col' : Nat → Nat} (o : Fix col col' w w') : Below B w w' := h.below o.1 (by decide)
theorem HoldSt.pushS {B : Nat} {w : World} {b : Nat} {vT vR vL vW vS vM : Value} {L Wr Ls : List Value} {Mk : List Nat} {C : Nat → List (Int × Int × Int)} {col : Nat → Nat} {p : Nat} {u : Bool} {m N : Nat} {vf : Value} (h : HoldSt B b vT vR vL vW L Wr C p u m w vf N vS vM Ls Mk col) {w1 w2 : World} {v' : Value} {g cap : Nat} (o1 : Out 0 0 w w1) (own : w2.ownsRow B 37 1 v' (Ls.length + 1) (Ls ++ [vf])) (gr : Grew w1 w2 vS g) (hv : v' = .slice (some ⟨g, 0, none⟩) (Ls.length + 1) cap) (hq : Mk.length ≤ Ls.length) :
    w2.heap[b]? = some (.cells #[vT, vR, vL, vW, vS, vM] 59 (0, 0)) ∧ ∃ col', Fix col col' w (w2.setCell ⟨b, 4, none⟩ v') ∧ HoldSt B b vT vR vL vW L Wr C p u m (w2.setCell ⟨b, 4, none⟩ v') vf N v' vM (Ls ++ [vf]) Mk col' := by
  obtain ⟨hk, hl, hc⟩ := h
  obtain ⟨r1, r2, r3, r4⟩ := hk.pushS o1 own gr hv hq
  refine ⟨r1, _, Fix.of r3 (by decide) (fun k hk h7 => by rw [r2 k hk]; exact h7), r4, r3.list hl fun x hx => ?_, fun x hx => ?_⟩
  · rw [hc x hx]; decide
  · rw [r2 x (own_lt hl hx)]; exact hc x hx
theorem HoldSt.pushM {B : Nat} {w : World} {b : Nat} {vT vR vL vW vS vM : Value} {L Wr Ls : List Value} {Mk : List Nat} {C : Nat → List (Int × Int × Int)} {col : Nat → Nat} {p : Nat} {u : Bool} {m N : Nat} {vf : Value} (h : HoldSt B b vT vR vL vW L Wr C p u m w vf N vS vM Ls Mk col) {w1 w2 : World} {v' : Value} {g cap : Nat} (o1 : Out 0 0 w w1) (own : w2.ownsRow B 3 1 v' (Mk.length + 1) (ints Mk ++ [.int .i64 m])) (gr : Grew w1 w2 vM g) (hv : v' = .slice (some ⟨g, 0, none⟩) (Mk.length + 1) cap) (hq : Ls[Mk.length]? = some vf) (hN : N ≤ 200 ∧ m ≤ 3000) :
    w2.heap[b]? = some (.cells #[vT, vR, vL, vW, vS, vM] 59 (0, 0)) ∧ ∃ col', Fix col col' w (w2.setCell ⟨b, 5, none⟩ v') ∧ HoldSt B b vT vR vL vW L Wr C p u m (w2.setCell ⟨b, 5, none⟩ v') vf N vS v' Ls (Mk ++ [m]) col' := by
  obtain ⟨hk, hl, hc⟩ := h
  have hfull : ∀ v, Ls[Mk.length]? = some v → FullC w col (curOf vf N m) v m := by
    intro v hv'
    rw [hq] at hv'
    cases hv'
    obtain ⟨a', cap', e', hrow⟩ := list_shape hl
    simp only [List.length_replicate] at hrow e'
    refine ⟨a', N, cap', e', hN, fun h0 => ?_⟩
    obtain ⟨g', g0, g1, g2, g3⟩ := hrow h0
    exact ⟨g', g0, .inr ⟨N, by unfold curOf; rw [g1]; rfl, Nat.le_refl _⟩⟩
  obtain ⟨r1, r2, r3, r4⟩ := hk.pushM o1 own gr hv hfull
  refine ⟨r1, _, Fix.of r3 (by decide) (fun k hk h7 => by rw [r2 k hk]; exact h7), r4, r3.list hl fun x hx => ?_, fun x hx => ?_⟩
  · rw [hc x hx]; decide
  · rw [r2 x (own_lt hl hx)]; exact hc x hx
theorem HoldSt.grow {B : Nat} {w : World} {b : Nat} {vT vR vL vW vS vM : Value} {L Wr Ls : List Value} {Mk : List Nat} {C : Nat → List (Int × Int × Int)} {col : Nat → Nat} {p : Nat} {u : Bool} {m N : Nat} {vf : Value} (h : HoldSt B b vT vR vL vW L Wr C p u m w vf N vS vM Ls Mk col) {w1 w2 : World} {v' : Value} {g cap : Nat} (o1 : Out 0 0 w w1) (own : w2.ownsRow B 45 3 v' (N + 1) (pgs (List.replicate N (pm m)) ++ [.int .i64 (-(m : Int)), .int .i64 0, .int .i64 0])) (gr : Grew w1 w2 vf g) (hv : v' = .slice (some ⟨g, 0, none⟩) (N + 1) cap) :
    ∃ col', Fix col col' w w2 ∧ HoldSt B b vT vR vL vW L Wr C p u m w2 v' (N + 1) vS vM Ls Mk col' := by
  obtain ⟨hk, hl, hc⟩ := h
  have ho : v'.ownBlock = some g := by rw [hv]; rfl
  have hl' : ListIs w2 B v' (List.replicate (N + 1) (pm m)) := by
    unfold ListIs
    rw [List.length_replicate, show pgs (List.replicate (N + 1) (pm m)) = pgs (List.replicate N (pm m)) ++ [.int .i64 (-(m : Int)), .int .i64 0, .int .i64 0] from by rw [List.replicate_succ', pgs_append]; rfl]
    exact own
  have hcur : curOf v' (N + 1) m = some (g, N + 1, m) := by unfold curOf; rw [ho]; rfl
  have ch : Chg col (fun c => c = 8) w w2 := (Chg.of_out o1 _ _).trans (Chg.grew gr fun x hx => hc x hx)
  rcases gr with ⟨g1, g2⟩ | ⟨g1, g2⟩
  · obtain ⟨col0, e0, k0⟩ := hk.shut hl hc
    have k1 := k0.recol (upd col0 g 8) fun x hx _ => upd_other (by have := o1.size; omega)
    have o2 : Out 0 0 w w2 := o1.trans ⟨g1.os, g1.tape, g1.output, g1.size, fun k hk' _ => g1.block k hk' (by simp)⟩
    refine ⟨upd col0 g 8, Fix.of ch (by decide) (fun k hk' h7 => ?_), ?_, hl', fun x hx => ?_⟩
    · rw [upd_other (by have := o1.size; omega), e0 k hk' (by rw [h7]; decide)]; exact h7
    · rw [hcur]; exact (k1.quiet o2).opened _
    · rw [ho] at hx; cases hx; exact upd_self _ _ _
  · have k1 := hk.chg ch (fun _ h => .inr (.inl h))
    refine ⟨col, Fix.of ch (by decide) (fun _ _ h => h), ?_, hl', fun x hx => ?_⟩
    · rw [hcur]
      rw [show curOf vf N m = some (g, N, m) from by unfold curOf; rw [g1]; rfl] at k1
      exact k1.longer
    · rw [ho] at hx; cases hx; exact hc _ g1
end Go.Proofs.YtfkmaanfgkkjcaaDoor
