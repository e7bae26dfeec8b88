/- package show: chains of pairs and of boxes: labels -/
import Derived.Test.YtmfnkhonghemeaaDoorIio
namespace Go.Proofs.YtmfnkhonghemeaaDoor
open Go.RowKit
set_option linter.unusedVariables false
set_option linter.unusedSimpArgs false

theorem container_yes {W : World} {a : Addr} {k : Int} (hk : k = 1 ∨ k = 2) (hc : W.cell? a = some (.int .i64 k)) :
    Calls Tryd.prog 18 #[.pointer (some a)] W fun e w' => e = .returned (.bool true) ∧ w' = W := by
  obtain ⟨b, o, e⟩ := a
  rcases hk with rfl | rfl
  all_goals
    go_enter Tryd.func18, Tryd.ntmps18
    go_wp2
    go_ret
    exact ⟨rfl, rfl⟩
/-- the things with their labels, and which were told -/
def ThB (cur : Array Value) (k : Int) (m : Nat) (gvs : List Nat) (tm lb : Nat → Int) (td : Nat → Bool) : Prop := ∀ (j gv c : Nat), gvs[j]? = some gv → c < 7 → cur[j * 7 + c]? = (thC' k gv m (tm j) (lb j) (td j))[c]?
section
variable {cur : Array Value} {k : Int} {m j gv : Nat} {gvs : List Nat} {tm lb : Nat → Int} {td : Nat → Bool}
theorem ThB.at (h : ThB cur k m gvs tm lb td) (hj : gvs[j]? = some gv) : cur[j * 7]? = some (.int .i64 k) ∧ cur[j * 7 + 1]? = some (.slice (some ⟨gv, 0, none⟩) m m) ∧ cur[j * 7 + 2]? = some (.string ⟨#[]⟩) ∧ cur[j * 7 + 3]? = some (.int .i64 0) ∧ cur[j * 7 + 4]? = some (.int .i64 (tm j)) ∧ cur[j * 7 + 5]? = some (.int .i64 (lb j)) ∧ cur[j * 7 + 6]? = some (.bool (td j)) :=
  ⟨h j gv 0 hj (by decide), h j gv 1 hj (by decide), h j gv 2 hj (by decide), h j gv 3 hj (by decide), h j gv 4 hj (by decide), h j gv 5 hj (by decide), h j gv 6 hj (by decide)⟩
theorem ThB.lab (h : ThB cur k m gvs tm lb td) (hj : gvs[j]? = some gv) (v : Int) : ThB (cur.setIfInBounds (j * 7 + 5) (.int .i64 v)) k m gvs tm (fun i => if i = j then v else lb i) td := by
  intro i gv' c hi hc
  have h0 := h i gv' c hi hc
  have hl : j * 7 + 5 < cur.size := (Array.getElem?_eq_some_iff.1 (h.at hj).2.2.2.2.2.1).1
  rw [Array.getElem?_setIfInBounds]
  by_cases e : i = j
  · subst e
    simp only [↓reduceIte]
    have hh : c = 0 ∨ c = 1 ∨ c = 2 ∨ c = 3 ∨ c = 4 ∨ c = 5 ∨ c = 6 := by omega
    rcases hh with rfl | rfl | rfl | rfl | rfl | rfl | rfl
    · rw [if_neg (by omega), h0]; rfl
    · rw [if_neg (by omega), h0]; rfl
    · rw [if_neg (by omega), h0]; rfl
    · rw [if_neg (by omega), h0]; rfl
    · rw [if_neg (by omega), h0]; rfl
    · rw [if_pos rfl, if_pos hl]; rfl
    · rw [if_neg (by omega), h0]; rfl
  · simp only [e, ↓reduceIte]
    rw [if_neg (by omega), h0]
theorem ThB.tell (h : ThB cur k m gvs tm lb td) (hj : gvs[j]? = some gv) (v : Bool) : ThB (cur.setIfInBounds (j * 7 + 6) (.bool v)) k m gvs tm lb (fun i => if i = j then v else td i) := by
  intro i gv' c hi hc
  have h0 := h i gv' c hi hc
  have hl : j * 7 + 6 < cur.size := (Array.getElem?_eq_some_iff.1 (h.at hj).2.2.2.2.2.2).1
  rw [Array.getElem?_setIfInBounds]
  by_cases e : i = j
  · subst e
    simp only [↓reduceIte]
    have hh : c = 0 ∨ c = 1 ∨ c = 2 ∨ c = 3 ∨ c = 4 ∨ c = 5 ∨ c = 6 := by omega
    rcases hh with rfl | rfl | rfl | rfl | rfl | rfl | rfl
    · rw [if_neg (by omega), h0]; rfl
    · rw [if_neg (by omega), h0]; rfl
    · rw [if_neg (by omega), h0]; rfl
    · rw [if_neg (by omega), h0]; rfl
    · rw [if_neg (by omega), h0]; rfl
    · rw [if_neg (by omega), h0]; rfl
    · rw [if_pos rfl, if_pos hl]; rfl
  · simp only [e, ↓reduceIte]
    rw [if_neg (by omega), h0]
theorem ThB.congr {lb' : Nat → Int} (h : ThB cur k m gvs tm lb td) (e : ∀ i, i < gvs.length → lb i = lb' i) : ThB cur k m gvs tm lb' td := by
  intro i gv c hi hc
  rw [h i gv c hi hc, e i (List.getElem?_eq_some_iff.1 hi).1]
end
def nvR (rg : Bool) (j : Nat) : Int := if rg = true ∧ 0 < j then 1 else 0
def lbR (rg : Bool) (j : Nat) : Int := if rg = true ∧ j = 0 then 0 else -1
set_option maxRecDepth 100000 in
set_option maxHeartbeats 4000000 in
theorem label_chain {W : World} {p g cap n : Nat} {hv mv : Value} {cnt k : Int} {rg : Bool} {gvs : List Nat} {cur : Array Value} {m : Nat} (hk : k = 1 ∨ k = 2) (hn : n ≤ 600) (hgl : gvs.length = n) (h : WK W p hv mv (.slice (some ⟨g, 0, none⟩) n cap) cnt) (hg : Bl W g cur 68) (hT : ThA cur k m gvs (tmR rg)) (hpg : p ≠ g) :
    Calls Tryd.prog 14 #[.pointer (some ⟨p, 0, none⟩)] W fun e w' => (∃ v, e = .returned v) ∧ ∃ cur', Bl w' g cur' 68 ∧ ThB cur' k m gvs (tmR rg) (lbR rg) (fun _ => false) ∧ Out g (g + 1) W w' := by
  have p2 := h.cell (i := 2) rfl
  have b1 : (n : Int) ≤ 600 := by omega
  have HW := hid_mk h
  have HG := hid_mk hg
  have HT := hid_mk hT
  have HL := hid_mk hgl
  have HK := hid_mk hk
  clear h hg hT hgl hk
  go_enter Tryd.func14, Tryd.ntmps14
  go_wp2_with fail
  go_loopw [2, 10] (fun nv iv wr => ∃ j : Nat, iv = .int .i64 (j : Int) ∧ j ≤ n ∧ nv = .int .i64 (nvR rg j) ∧ ∃ cur', Bl wr g cur' 68 ∧ ThB cur' k m gvs (tmR rg) (fun i => if i < j then lbR rg i else 0) (fun _ => false) ∧ Out g (g + 1) W wr) (fun _ iv _ => n - (intOf iv).toNat)
  case atStart =>
    refine ⟨0, rfl, Nat.zero_le _, by simp [nvR], cur, HG.out, fun i gv c hi hc => ?_, Out.refl _ _ _⟩
    rw [HT.out i gv c hi hc]; simp
  case round =>
    obtain ⟨j, rfl, hj, rfl, cur', hB, hT, o⟩ := hrel
    have HE := hid_mk (And.intro hB (And.intro hT o))
    by_cases hjn : j < n
    · have e1 : (j : Int) < (n : Int) := by omega
      have e0 : (0 : Int) ≤ (j : Int) := by omega
      obtain ⟨gv, hgv⟩ : ∃ v, gvs[j]? = some v := ⟨_, List.getElem?_eq_getElem (by have := HL.out; omega)⟩
      obtain ⟨c0, c1, c2, c3, c4, c5, c6⟩ := hT.at hgv
      have q2 := (HW.out.kept o (by omega)).cell (i := 2) rfl
      have e5 := hB.cell c5
      have f5 := hB.frozen (j * 7 + 5)
      have hs := hB.set (j * 7 + 5) (.int .i64 (-1))
      have hTs := hT.lab hgv (-1)
      have os : Out g (g + 1) W (wr.setCell ⟨g, j * 7 + 5, none⟩ (.int .i64 (-1))) := o.setCell (.inl ⟨Nat.le_refl _, Nat.lt_succ_self _⟩) _
      obtain ⟨d0, d1, d2, d3, d4, d5, d6⟩ := hTs.at hgv
      have x0 := hs.cell d0
      have x4 := hs.cell d4
      have x5 := hs.cell d5
      have y5 := hs.frozen (j * 7 + 5)
      have q2' := (HW.out.kept os (by omega)).cell (i := 2) rfl
      have HC := hid_mk (container_yes HK.out x0)
      have HS := hid_mk (And.intro hs (And.intro hTs os))
      by_cases hr : rg = true ∧ j = 0
      · obtain ⟨rfl, rfl⟩ := hr
        have hs2 := hs.set (0 * 7 + 5) (.int .i64 0)
        have hTs2 := hTs.lab hgv 0
        have os2 : Out g (g + 1) W ((wr.setCell ⟨g, 0 * 7 + 5, none⟩ (.int .i64 (-1))).setCell ⟨g, 0 * 7 + 5, none⟩ (.int .i64 0)) := os.setCell (.inl ⟨Nat.le_refl _, Nat.lt_succ_self _⟩) _
        have HS2 := hid_mk (And.intro hs2 (And.intro hTs2 os2))
        have ht : tmR true 0 = 2 := rfl
        rw [ht] at x4
        have hjj := hid_mk hj
        have hnv : nvR true 0 = 0 := rfl
        rw [hnv]
        simp only [Nat.zero_mul, Nat.zero_add] at *
        clear hB hT o c0 c1 c2 c3 c4 c5 c6 hs hTs os d0 d1 d2 d3 d4 d5 d6 ht hj hs2 hTs2 os2
        go_wp2_with (go_at_call 18; refine calls_same HC.out ?_)
        obtain ⟨hs, hTs, os⟩ := HS2.out
        refine ⟨⟨1, rfl, by omega, by simp [nvR], _, hs, hTs.congr (fun i hi => ?_), os⟩, ?_⟩
        · by_cases h1 : i = 0
          · subst h1; rfl
          · rw [if_neg h1, if_neg h1, if_neg (by omega), if_neg (by omega)]
        · simp [intOf]; omega
      · have ht : tmR rg j = 1 := by unfold tmR; rw [if_neg hr]
        rw [ht] at x4
        have HR := hid_mk hr
        have hjj := hid_mk hj
        clear hB hT o c0 c1 c2 c3 c4 c5 c6 hs hTs os d0 d1 d2 d3 d4 d5 d6 hr ht hj
        go_wp2_with (go_at_call 18; refine calls_same HC.out ?_)
        obtain ⟨hs, hTs, os⟩ := HS.out
        refine ⟨⟨j + 1, rfl, by have := hjj.out; omega, ?_, _, hs, hTs.congr (fun i hi => ?_), os⟩, ?_⟩
        · have := HR.out
          unfold nvR
          by_cases h : rg = true
          · have : 0 < j := Nat.pos_of_ne_zero (fun e => this ⟨h, e⟩)
            simp [h, this]
          · simp [h]
        · by_cases h1 : i = j
          · subst h1; rw [if_pos rfl, if_pos (by omega)]; unfold lbR; rw [if_neg HR.out]
          · rw [if_neg h1]
            by_cases h2 : i < j
            · rw [if_pos h2, if_pos (by omega)]
            · rw [if_neg h2, if_neg (by omega)]
        · simp [intOf]; omega
    · have hje : j = n := by omega
      subst hje
      have q2 := (HW.out.kept o (by omega)).cell (i := 2) rfl
      clear hB hT o hjn hj
      go_wp2
      obtain ⟨hB, hT, o⟩ := HE.out
      exact bodyPost_end (results_none Tryd.results14 _ _ _) rfl ⟨⟨_, rfl⟩, cur', hB, hT.congr (fun i hi => if_pos (by have := HL.out; omega)), o⟩
end Go.Proofs.YtmfnkhonghemeaaDoor
