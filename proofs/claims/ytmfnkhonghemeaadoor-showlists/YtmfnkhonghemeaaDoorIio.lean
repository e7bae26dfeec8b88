/- package show: chains of pairs and of boxes: the walk -/
import Derived.Test.YtmfnkhonghemeaaDoorIik
namespace Go.Proofs.YtmfnkhonghemeaaDoor
open Go.RowKit
set_option linter.unusedVariables false
set_option linter.unusedSimpArgs false

theorem valid_ref {x : Int} (h0 : 0 ≤ x) (h1 : x ≤ 1000) : validB_v 2 x = true := by unfold validB_v; simp; omega
theorem valid_fix {x : Int} (h0 : 0 ≤ x) (h1 : x ≤ 1000) : validB_v 1 x = true := by unfold validB_v; simp; omega
theorem valid_nil : validB_v 3 0 = true := by decide
set_option maxHeartbeats 1000000 in
/-- the value behind the last one that is shown -/
theorem meet_end {W : World} {p : Nat} {hv mv tv : Value} {n : Int} (h : WK W p hv mv tv n) (hn : 500 ≤ n) (h1 : n ≤ 1000) (k x : Int) :
    Calls Tryd.prog 16 #[.pointer (some ⟨p, 0, none⟩), .agg #[.int .i64 k, .int .i64 x]] W fun e w' => e = .returned (.tuple #[.slice none 0 0, .agg #[.int .i64 0, .int .i64 0]]) ∧ WK w' p hv mv tv (n + 1) ∧ Out p (p + 1) W w' := by
  have hl := h.lt
  have hwr := wrap_small (n := n + 1) (by omega) (by omega)
  have hd : decide (500 < n + 1) = true := by simp; omega
  have b1 : WK ((W.alloc (.cells #[.int .i64 k, .int .i64 x] 28)).alloc (.cells #[.int .i64 0, .int .i64 0] 38)) p hv mv tv n := Bl.alloc (Bl.alloc h _) _
  have c3 := b1.cell (i := 3) rfl
  have z3 := b1.frozen 3
  have b0 : WK (W.setCell ⟨p, 3, none⟩ (.int .i64 (n + 1))) p hv mv tv (n + 1) := Bl.set h 3 _
  have b2 : WK (((W.setCell ⟨p, 3, none⟩ (.int .i64 (n + 1))).alloc (.cells #[.int .i64 k, .int .i64 x] 28)).alloc (.cells #[.int .i64 0, .int .i64 0] 38)) p hv mv tv (n + 1) := Bl.alloc (Bl.alloc b0 _) _
  have f2 : Bl (((W.setCell ⟨p, 3, none⟩ (.int .i64 (n + 1))).alloc (.cells #[.int .i64 k, .int .i64 x] 28)).alloc (.cells #[.int .i64 0, .int .i64 0] 38)) (W.heap.size + 1) #[.int .i64 0, .int .i64 0] 38 := size_set W ⟨p, 3, none⟩ (.int .i64 (n + 1)) ▸ size_alloc (W.setCell ⟨p, 3, none⟩ (.int .i64 (n + 1))) _ ▸ Bl.new _ _ _
  have o2 : Out p (p + 1) W (((W.setCell ⟨p, 3, none⟩ (.int .i64 (n + 1))).alloc (.cells #[.int .i64 k, .int .i64 x] 28)).alloc (.cells #[.int .i64 0, .int .i64 0] 38)) := (((Out.refl _ _ _).setCell (.inl ⟨Nat.le_refl _, Nat.lt_succ_self _⟩) _).alloc _).alloc _
  go_enter Tryd.func16, Tryd.ntmps16
  go_wp2_with (go_at_call 13; refine calls_same (tooLarge_at b2 hd) ?_)
  exact retTF Tryd.results16 rfl rfl rfl f2 ⟨rfl, b2, o2⟩

/-- what the j-th node of a chain leads to -/
def nx (n : Nat) (rg : Bool) (j : Nat) : Int × Int := if j < n then (2, (j : Int) + 1) else if rg then (2, 1) else (3, 0)
/-- what it holds -/
def hdV (k : Int) (n : Nat) (rg : Bool) (j : Nat) : List (Int × Int) := if k = 1 then [(1, ((j % 10 : Nat) : Int)), nx n rg j] else [nx n rg j]
def arV (k : Int) : Nat := if k = 1 then 2 else 1
theorem hdV_len (k : Int) (n : Nat) (rg : Bool) (j : Nat) : (hdV k n rg j).length = arV k := by unfold hdV arV; split <;> rfl
/-- the cells of a thing -/
def thC' (k : Int) (gv m : Nat) (tm lb : Int) (td : Bool) : List Value := [.int .i64 k, .slice (some ⟨gv, 0, none⟩) m m, .string ⟨#[]⟩, .int .i64 0, .int .i64 tm, .int .i64 lb, .bool td]
def thL (k : Int) (m : Nat) (gvs : List Nat) : List Value := gvs.flatMap fun gv => thC' k gv m 1 0 false
theorem thL_snoc (k : Int) (m : Nat) (gvs : List Nat) (gv : Nat) : thL k m (gvs ++ [gv]) = thL k m gvs ++ thC' k gv m 1 0 false := by simp [thL]
theorem thL_len (k : Int) (m : Nat) (gvs : List Nat) : (thL k m gvs).length = gvs.length * 7 := by
  induction gvs with
  | nil => rfl
  | cons a l ih => simp only [thL, List.flatMap_cons, List.length_append, List.length_cons] at ih ⊢; rw [ih]; simp [thC']; omega
theorem thL_get (k : Int) (m : Nat) : ∀ (gvs : List Nat) (j gv c : Nat), gvs[j]? = some gv → c < 7 → (thL k m gvs)[j * 7 + c]? = (thC' k gv m 1 0 false)[c]? := by
  intro gvs
  induction gvs with
  | nil => intro j gv c h; simp at h
  | cons a l ih =>
    intro j gv c h hc
    have e : thL k m (a :: l) = thC' k a m 1 0 false ++ thL k m l := rfl
    have hl : (thC' k a m 1 0 false).length = 7 := rfl
    cases j with
    | zero =>
      simp at h; subst h
      rw [e, List.getElem?_append_left (by rw [hl]; omega)]; simp
    | succ j =>
      rw [e, List.getElem?_append_right (by rw [hl]; omega), hl, show (j + 1) * 7 + c - 7 = j * 7 + c from by omega]
      exact ih j gv c (by simpa using h) hc
/-- where the things are -/
def fK (K : Nat) (y : Int) : Option Value := if 1 ≤ y ∧ y ≤ K then some (.int .i64 (y - 1)) else none
theorem fK_succ (K : Nat) : (fun y => if y = ((K : Nat) : Int) + 1 then some (Value.int .i64 (K : Int)) else fK K y) = fK (K + 1) := by
  funext y
  unfold fK
  by_cases h : y = (K : Int) + 1
  · rw [if_pos h, if_pos (by omega), h]; congr 2; omega
  · rw [if_neg h]
    by_cases h2 : 1 ≤ y ∧ y ≤ (K : Int)
    · rw [if_pos h2, if_pos (by omega)]
    · rw [if_neg h2, if_neg (by omega)]
theorem Vals.of_bl {w : World} {g : Nat} {l : List (Int × Int)} {T : TypeId} (h : Bl w g (flat l).toArray T) : Vals w g l := fun i k x hi => ⟨h.cell (by simpa using (flat_get hi).1), h.cell (by simpa using (flat_get hi).2)⟩
end Go.Proofs.YtmfnkhonghemeaaDoor
namespace Go.Proofs.YtmfnkhonghemeaaDoor
open Go.RowKit
set_option linter.unusedVariables false

/-- the things as they stand when the walk is over -/
def ThA (cur : Array Value) (k : Int) (m : Nat) (gvs : List Nat) (tm : Nat → Int) : Prop := ∀ (j gv c : Nat), gvs[j]? = some gv → c < 7 → cur[j * 7 + c]? = (thC' k gv m (tm j) 0 false)[c]?
def tmR (rg : Bool) (j : Nat) : Int := if rg = true ∧ j = 0 then 2 else 1
def ChC (W : World) (p mb : Nat) (k : Int) (n : Nat) (rg : Bool) (T : TypeId) (d : Value) (D : Nat → Prop) (w : World) (gvs : List Nat) (tv : Value) (cnt : Nat) : Prop :=
  Fx (fun b => b = p ∨ b = mb) W w ∧ (∀ b, b < W.heap.size → D b) ∧ (∀ b, D b → b < w.heap.size) ∧ WK w p (.iface T d) (.map (some mb)) tv (cnt : Int) ∧ MpAt w mb (fK gvs.length) ∧
    (∀ (j gv : Nat), gvs[j]? = some gv → D gv ∧ W.heap.size ≤ gv ∧ Bl w gv (flat (hdV k n rg (j + 1))).toArray 28) ∧ cnt ≤ 500 ∧ gvs.length ≤ n
def ChG (W : World) (k : Int) (D : Nat → Prop) (w : World) (gvs : List Nat) (ta : Option Addr) (cap : Nat) : Prop :=
  w.ownsRow W.heap.size 68 7 (.slice ta gvs.length cap) gvs.length (thL k (arV k) gvs) ∧ ∀ b, (Value.slice ta gvs.length cap).ownBlock = some b → D b
/-- the states of the walk over a chain -/
def ChI (W : World) (p mb : Nat) (k : Int) (n : Nat) (rg : Bool) (T : TypeId) (d : Value) (D : Nat → Prop) (r : Nat) (st : List (Int × Int)) (w : World) : Prop := ∃ gvs ta cap cnt, ChC W p mb k n rg T d D w gvs (.slice ta gvs.length cap) cnt ∧
  ((ChG W k D w gvs ta cap ∧ ((cnt = arV k * gvs.length ∧ st = [nx n rg gvs.length] ∧ r = 2 * (n - gvs.length) + 1) ∨ (k = 1 ∧ cnt + 1 = 2 * gvs.length ∧ st = [nx n rg gvs.length, (1, ((gvs.length % 10 : Nat) : Int))] ∧ r = 2 * (n - gvs.length) + 2))) ∨
   (∃ g cur, ta = some ⟨g, 0, none⟩ ∧ D g ∧ W.heap.size ≤ g ∧ Bl w g cur 68 ∧ ThA cur k (arV k) gvs (tmR rg) ∧ gvs.length = n ∧ cnt = arV k * n + 1 ∧ st = [] ∧ r = 0))
def ChJ (W : World) (p mb : Nat) (k : Int) (n : Nat) (D : Nat → Prop) (w : World) : Prop := Fx (fun b => b = p ∨ b = mb) W w ∧ (∀ b, b < W.heap.size → D b) ∧ (∃ hv mv tv, WK w p hv mv tv 501) ∧ 500 < arV k * n + 1
section
variable {W w w' : World} {p mb n r : Nat} {k : Int} {rg : Bool} {T : TypeId} {d tv : Value} {D : Nat → Prop} {gvs : List Nat} {cnt cap : Nat} {ta : Option Addr} {st : List (Int × Int)}
theorem ChC.step {c' : Nat} (h : ChC W p mb k n rg T d D w gvs tv cnt) (hp : p = mb + 1 ∧ p < W.heap.size) (hW : WK w' p (.iface T d) (.map (some mb)) tv (c' : Int)) (o : Out p (p + 1) w w') (hc : c' ≤ 500) : ChC W p mb k n rg T d D w' gvs tv c' := by
  obtain ⟨hfx, hD0, hDw, _, hM, hgv, hc5, hKn⟩ := h
  have x : Fx (fun b => b = p) w w' := Fx.of_out o (fun b h1 h2 _ => by omega)
  refine ⟨hfx.trans (x.wide (fun b _ e => .inl e)), hD0, fun b h => Nat.lt_of_lt_of_le (hDw b h) x.size, hW, hM.fx x (by omega), fun j gv e => ?_, hc, hKn⟩
  obtain ⟨h1, h2, h3⟩ := hgv j gv e
  exact ⟨h1, h2, h3.fx x (by omega)⟩
theorem own_ge {v : Value} {base k sz g : Nat} {xs : List Value} {T : TypeId} (h : w.ownsRow base T sz v k xs) (e : v.ownBlock = some g) : base ≤ g ∧ g < w.heap.size := h.lt g e
theorem ChG.step (h : ChG W k D w gvs ta cap) (hp : p < W.heap.size) (o : Out p (p + 1) w w') : ChG W k D w' gvs ta cap :=
  ⟨own_fx h.1 (Fx.of_out (S := fun b => b = p) o (fun b h1 h2 _ => by omega)) (fun g e e2 => by have := (own_ge h.1 e).1; omega), h.2⟩
theorem ChC.fx (h : ChC W p mb k n rg T d D w gvs tv cnt) (hp : p = mb + 1 ∧ p < W.heap.size) (x : Fx (fun b => ¬ D b) w w') : ChC W p mb k n rg T d D w' gvs tv cnt := by
  obtain ⟨hfx, hD0, hDw, hW, hM, hgv, hc5, hKn⟩ := h
  have n1 : ¬ ¬ D p := fun h => h (hD0 _ hp.2)
  have n2 : ¬ ¬ D mb := fun h => h (hD0 _ (by omega))
  refine ⟨hfx.past x (fun b h1 h2 => (h2 (hD0 b h1)).elim), hD0, fun b h => Nat.lt_of_lt_of_le (hDw b h) x.size, hW.fx x n1, hM.fx x n2, fun j gv e => ?_, hc5, hKn⟩
  obtain ⟨h1, h2, h3⟩ := hgv j gv e
  exact ⟨h1, h2, h3.fx x (fun h => h h1)⟩
theorem ChI.fx (h : ChI W p mb k n rg T d D r st w) (hp : p = mb + 1 ∧ p < W.heap.size) (x : Fx (fun b => ¬ D b) w w') : ChI W p mb k n rg T d D r st w' := by
  obtain ⟨gvs, ta, cap, cnt, hC, h⟩ := h
  refine ⟨gvs, ta, cap, cnt, hC.fx hp x, ?_⟩
  rcases h with ⟨⟨h1, h2⟩, h3⟩ | ⟨g, cur, h1, h2, h3, h4, h5⟩
  · exact .inl ⟨⟨own_fx h1 x (fun g e h => h (h2 g e)), h2⟩, h3⟩
  · exact .inr ⟨g, cur, h1, h2, h3, h4.fx x (fun h => h h2), h5⟩
theorem ChJ.fx (h : ChJ W p mb k n D w) (hp : p < W.heap.size) (x : Fx (fun b => ¬ D b) w w') : ChJ W p mb k n D w' := by
  obtain ⟨h1, h2, ⟨hv, mv, tv, h3⟩, h4⟩ := h
  exact ⟨h1.past x (fun b a b2 => (b2 (h2 b a)).elim), h2, ⟨hv, mv, tv, h3.fx x (fun h => h (h2 _ hp))⟩, h4⟩
theorem ChI.dom (h : ChI W p mb k n rg T d D r st w) : (∀ b, D b → b < w.heap.size) ∧ st.length ≤ 900 := by
  obtain ⟨gvs, ta, cap, cnt, hC, h⟩ := h
  refine ⟨hC.2.2.1, ?_⟩
  rcases h with ⟨_, ⟨_, rfl, _⟩ | ⟨_, _, rfl, _⟩⟩ | ⟨_, _, _, _, _, _, _, _, _, rfl, _⟩ <;> simp
end
/-- what is asked of the heap -/
def ChN (W : World) (p mb : Nat) (k : Int) (n : Nat) (rg : Bool) (T : TypeId) (d : Value) : Prop := ∀ j : Nat, 1 ≤ j → j ≤ n → ∃ (a1 a2 a3 : Option Addr) (l1 l2 l3 c1 c2 c3 : Nat), ∀ w, Fx (fun b => b = p ∨ b = mb) W w →
  Calls Tryd.prog 36 #[.iface T d, .agg #[.int .i64 2, .int .i64 (j : Int)]] w (fun e' w' => e' = .returned (.tuple #[.agg #[.int .i64 (j : Int), .int .i64 k, .slice a1 l1 c1, .slice a2 l2 c2, .slice a3 l3 c3], .agg #[.int .i64 0, .int .i64 0]]) ∧ Out 0 0 w w') ∧
  Calls Tryd.prog 37 #[.agg #[.int .i64 (j : Int), .int .i64 k, .slice a1 l1 c1, .slice a2 l2 c2, .slice a3 l3 c3]] w (fun e w' => (∃ g, e = .returned (.slice (some ⟨g, 0, none⟩) (arV k) (arV k)) ∧ w.heap.size ≤ g ∧ Bl w' g (flat (hdV k n rg j)).toArray 28) ∧ Out 0 0 w w')
/-- what over_any asks of meet -/
def MeetQ (p : Nat) (I : (Nat → Prop) → Nat → List (Int × Int) → World → Prop) (J : (Nat → Prop) → World → Prop) (D : Nat → Prop) (r : Nat) (st : List (Int × Int)) (w : World) (e : Ending) (w' : World) : Prop :=
  ∃ (a : Option Addr) (m c : Nat) (held : List (Int × Int)) (D' : Nat → Prop), e = .returned (.tuple #[.slice a m c, .agg #[.int .i64 0, .int .i64 0]]) ∧ held.length = m ∧ m ≤ 1000 ∧ (∀ b, D' b → D b ∨ w.heap.size ≤ b) ∧ Fx D w w' ∧
        ∃ hv mv tv n b, WK w' p hv mv tv n ∧ decide (500 < n) = b ∧ (b = true → J D' w') ∧ (b = false → (∃ r', r' < r ∧ I D' r' (st ++ held.reverse) w') ∧ (0 < m → ∃ gv, a = some ⟨gv, 0, none⟩ ∧ D' gv ∧ Vals w' gv held))
section
variable {W w : World} {p mb n r : Nat} {k : Int} {rg : Bool} {T : TypeId} {d : Value} {D : Nat → Prop} {gvs : List Nat} {cnt cap : Nat} {ta : Option Addr} {st st' : List (Int × Int)} {x y : Int}
/-- the value behind the last one that is shown -/
theorem ch_end (hp : p = mb + 1 ∧ p < W.heap.size) (hC : ChC W p mb k n rg T d D w gvs (.slice ta gvs.length cap) 500) (hl : 500 < arV k * n + 1) :
    Calls Tryd.prog 16 #[.pointer (some ⟨p, 0, none⟩), .agg #[.int .i64 x, .int .i64 y]] w (MeetQ p (ChI W p mb k n rg T d) (ChJ W p mb k n) D r st w) := by
  obtain ⟨hfx, hD0, hDw, hW, hM, hgv, hc5, hKn⟩ := hC
  refine (meet_end hW (by decide) (by decide) x y).mono ?_
  rintro e w' ⟨rfl, hW', o⟩
  have x1 : Fx (fun b => b = p) w w' := Fx.of_out o (fun b h1 h2 _ => by omega)
  exact ⟨none, 0, 0, [], D, rfl, rfl, by decide, fun b h => .inl h, x1.wide (fun b _ e => e ▸ hD0 _ hp.2), _, _, _, _, true, hW', rfl, fun _ => ⟨hfx.trans (x1.wide (fun b _ e => .inl e)), hD0, ⟨_, _, _, hW'⟩, hl⟩, fun h => by simp at h⟩
/-- a value that refers to nothing -/
theorem ch_leaf {r' : Nat} (hp : p = mb + 1 ∧ p < W.heap.size) (hC : ChC W p mb k n rg T d D w gvs (.slice ta gvs.length cap) cnt) (h5 : cnt < 500) (hv : validB_v x y = true) (hx : x ≠ 2) (hr : r' < r)
    (hI : ∀ w', Out p (p + 1) w w' → ChC W p mb k n rg T d D w' gvs (.slice ta gvs.length cap) (cnt + 1) → ChI W p mb k n rg T d D r' st w') :
    Calls Tryd.prog 16 #[.pointer (some ⟨p, 0, none⟩), .agg #[.int .i64 x, .int .i64 y]] w (MeetQ p (ChI W p mb k n rg T d) (ChJ W p mb k n) D r st w) := by
  refine (meet_leaf hC.2.2.2.1 (by omega) (by omega) x y hv hx).mono ?_
  rintro e w' ⟨rfl, hW', o⟩
  have x1 : Fx (fun b => b = p) w w' := Fx.of_out o (fun b h1 h2 _ => by omega)
  have hC' := hC.step (c' := cnt + 1) hp hW' o (by omega)
  exact ⟨none, 0, 0, [], D, rfl, rfl, by decide, fun b h => .inl h, x1.wide (fun b _ e => e ▸ hC.2.1 _ hp.2), _, _, _, _, false, hW', by simp; omega, fun h => by simp at h, fun _ => ⟨⟨r', hr, by simpa using hI w' o hC'⟩, fun h => by omega⟩⟩
end
end Go.Proofs.YtmfnkhonghemeaaDoor
namespace Go.Proofs.YtmfnkhonghemeaaDoor
open Go.RowKit
set_option linter.unusedVariables false
section
variable {W w : World} {p mb n r : Nat} {k : Int} {rg : Bool} {T : TypeId} {d : Value} {D : Nat → Prop} {gvs : List Nat} {cnt cap : Nat} {ta : Option Addr} {st st' : List (Int × Int)} {x y : Int}
theorem arV_cases (hk : k = 1 ∨ k = 2) : (k = 1 ∧ arV k = 2) ∨ (k = 2 ∧ arV k = 1) := by rcases hk with rfl | rfl <;> simp [arV]
theorem own_row {T' : TypeId} {sz K cap base : Nat} {ta : Option Addr} {xs : List Value} {w : World} (h : w.ownsRow base T' sz (.slice ta K cap) K xs) (hK : 0 < K) (hs : 0 < sz) : ∃ g cur, ta = some ⟨g, 0, none⟩ ∧ base ≤ g ∧ Bl w g cur T' ∧ K ≤ cap ∧ cur.size = cap * sz ∧ cur.toList.take (K * sz) = xs := by
  obtain ⟨hl, h | ⟨g, cap', cur, e, h1, h2, h3, h4, h5, h6⟩⟩ := h
  · simp at h; omega
  · simp at e
    obtain ⟨rfl, rfl⟩ := e
    exact ⟨g, cur, rfl, h1, h2, h3, h5, h6⟩
theorem th_of_own {cur : Array Value} (h : cur.toList.take (gvs.length * 7) = thL k (arV k) gvs) : ThA cur k (arV k) gvs (fun _ => 1) := by
  intro j gv c hj hc
  have hl : j < gvs.length := (List.getElem?_eq_some_iff.1 hj).1
  have := thL_get k (arV k) gvs j gv c hj hc
  rw [← h, List.getElem?_take, if_pos (by omega)] at this
  simpa using this
set_option maxHeartbeats 1000000 in
/-- the first pair once more -/
theorem ch_again (hk : k = 1 ∨ k = 2) (hn : 1 ≤ n ∧ n ≤ 600) (hp : p = mb + 1 ∧ p < W.heap.size) (hC : ChC W p mb k n true T d D w gvs (.slice ta gvs.length cap) cnt) (hG : ChG W k D w gvs ta cap) (hK : gvs.length = n) (hc : cnt = arV k * n) (h5 : cnt < 500) (hr : 0 < r) :
    Calls Tryd.prog 16 #[.pointer (some ⟨p, 0, none⟩), .agg #[.int .i64 2, .int .i64 1]] w (MeetQ p (ChI W p mb k n true T d) (ChJ W p mb k n) D r [] w) := by
  obtain ⟨g, cur, rfl, hg, hB, hcap, hcs, htk⟩ := own_row hG.1 (by omega) (by decide)
  obtain ⟨hfx, hD0, hDw, hW, hM, hgv, hc5, hKn⟩ := hC
  have hDg := hG.2 g rfl
  have ht := th_of_own htk
  obtain ⟨gv0, hgv0⟩ : ∃ v, gvs[0]? = some v := ⟨_, List.getElem?_eq_getElem (by omega)⟩
  have c3 := ht 0 gv0 3 hgv0 (by decide)
  have c4 := ht 0 gv0 4 hgv0 (by decide)
  refine (meet_again (j := 0) (tm := 1) (by omega) (by omega) (by decide) (by decide) (by omega) (by omega) (valid_ref (by decide) (by decide)) hW hM (by unfold fK; rw [if_pos (by omega)]; rfl) hp.1 hB (by omega) (by omega) (by simpa [thC'] using c3) (by simpa [thC'] using c4)).mono ?_
  rintro e w' ⟨rfl, hW', hB', hM', x1⟩
  have n1 : ∀ b, W.heap.size ≤ b → b ≠ g → ¬ (b = p ∨ b = g) := fun b h1 h2 => by omega
  refine ⟨none, 0, 0, [], D, rfl, rfl, by decide, fun b h => .inl h, x1.wide (fun b _ e => e.elim (fun e => e ▸ hD0 _ hp.2) (fun e => e ▸ hDg)), _, _, _, _, false, hW', by simp; omega, fun h => by simp at h, fun _ => ⟨⟨0, hr, gvs, _, cap, cnt + 1, ⟨hfx.past x1 (fun b h1 h2 => by omega), hD0, fun b h => Nat.lt_of_lt_of_le (hDw b h) x1.size, hW', hM', fun j gv e => ?_, by omega, hKn⟩, .inr ⟨g, _, rfl, hDg, hg, hB', ?_, hK, by rw [hc], rfl, rfl⟩⟩, fun h => by omega⟩⟩
  · obtain ⟨h1, h2, h3⟩ := hgv j gv e
    refine ⟨h1, h2, h3.fx x1 (n1 gv h2 (fun e2 => ?_))⟩
    subst e2
    have := h3.symm.trans hB
    simp at this
  · intro j gv c hj hc7
    have h0 := ht j gv c hj hc7
    have hl : j < gvs.length := (List.getElem?_eq_some_iff.1 hj).1
    rw [Array.getElem?_setIfInBounds]
    by_cases hjc : j = 0 ∧ c = 4
    · obtain ⟨rfl, rfl⟩ := hjc
      rw [if_pos rfl, if_pos (by omega)]
      simp [thC', tmR]
    · rw [if_neg (by omega), h0]
      by_cases hj0 : j = 0
      · subst hj0
        have : c ≠ 4 := fun e => hjc ⟨rfl, e⟩
        have hh : c = 0 ∨ c = 1 ∨ c = 2 ∨ c = 3 ∨ c = 5 ∨ c = 6 := by omega
        rcases hh with rfl | rfl | rfl | rfl | rfl | rfl <;> rfl
      · simp [tmR, hj0]
set_option maxHeartbeats 1000000 in
/-- one more thing -/
theorem ch_first (hk : k = 1 ∨ k = 2) (hn : 1 ≤ n ∧ n ≤ 600) (hp : p = mb + 1 ∧ p < W.heap.size) (HN : ChN W p mb k n rg T d) (hC : ChC W p mb k n rg T d D w gvs (.slice ta gvs.length cap) cnt) (hG : ChG W k D w gvs ta cap) (hK : gvs.length < n) (hc : cnt = arV k * gvs.length) (h5 : cnt < 500) (hr : r = 2 * (n - gvs.length) + 1) :
    Calls Tryd.prog 16 #[.pointer (some ⟨p, 0, none⟩), .agg #[.int .i64 2, .int .i64 ((gvs.length : Int) + 1)]] w (MeetQ p (ChI W p mb k n rg T d) (ChJ W p mb k n) D r [] w) := by
  obtain ⟨hfx, hD0, hDw, hW, hM, hgv, hc5, hKn⟩ := hC
  obtain ⟨a1, a2, a3, l1, l2, l3, c1, c2, c3, hN⟩ := HN (gvs.length + 1) (by omega) (by omega)
  have hx : ((gvs.length + 1 : Nat) : Int) = (gvs.length : Int) + 1 := by omega
  have hs := hfx.size
  have fo : ∀ W1, Out p (p + 1) w W1 → Fx (fun b => b = p ∨ b = mb) W W1 := fun W1 o => hfx.trans (Fx.of_out o (fun b h1 h2 _ => .inl (by omega)))
  have hm := meet_cont (W := w) (x := (gvs.length : Int) + 1) (i := (gvs.length : Int) + 1) (base := W.heap.size) hk (K := gvs.length) (by omega) (n := (cnt : Int)) (by omega) (by omega) (valid_ref (by omega) (by omega)) hW hM (by unfold fK; rw [if_neg (by omega)]) hp.1 ⟨by omega, hs⟩ hG.1 (fun W1 o => hx ▸ (hN W1 (fo W1 o)).2) (fun W1 o => hx ▸ (hN W1 (fo W1 o)).1)
  refine hm.mono ?_
  rintro e w' ⟨gv, rfl, hgvs, hBv, g, cap', hW', hO', hg, hne, hM', x1⟩
  have hgD : ∀ b, (Value.slice ta gvs.length cap).ownBlock = some b → D b := hG.2
  have xD : Fx D w w' := x1.wide (fun b _ h => by
    rcases h with rfl | rfl | h
    · exact hD0 _ (by omega)
    · exact hD0 _ hp.2
    · exact hgD _ h)
  have hWW : Fx (fun b => b = p ∨ b = mb) W w' := hfx.past x1 (fun b h1 h2 => by
    rcases h2 with rfl | rfl | h
    · exact .inr rfl
    · exact .inl rfl
    · have := (own_ge hG.1 h).1; omega)
  have hgw : g < w'.heap.size := (own_ge hO' rfl).2
  have hgb : W.heap.size ≤ g := (own_ge hO' rfl).1
  refine ⟨_, _, _, hdV k n rg (gvs.length + 1), fun b => D b ∨ b = gv ∨ b = g, rfl, hdV_len _ _ _ _, by rcases arV_cases hk with ⟨_, h⟩ | ⟨_, h⟩ <;> omega, fun b h => ?_, xD, _, _, _, _, false, hW', by simp; omega, fun h => by simp at h, fun _ => ⟨?_, fun _ => ⟨gv, rfl, .inr (.inl rfl), Vals.of_bl hBv⟩⟩⟩
  · rcases h with h | rfl | rfl
    · exact .inl h
    · exact .inr hgvs
    · exact hg.elim .inr (fun h => .inl (hgD _ h))
  have hC' : ChC W p mb k n rg T d (fun b => D b ∨ b = gv ∨ b = g) w' (gvs ++ [gv]) (.slice (some ⟨g, 0, none⟩) (gvs ++ [gv]).length cap') (cnt + 1) := by
    refine ⟨hWW, fun b h => .inl (hD0 b h), fun b h => ?_, by rw [List.length_append]; exact hW', ?_, fun j gv' e => ?_, by omega, by simp; omega⟩
    · rcases h with h | rfl | rfl
      · exact Nat.lt_of_lt_of_le (hDw b h) x1.size
      · exact hBv.lt
      · exact hgw
    · rw [List.length_append]; exact (fK_succ gvs.length) ▸ hM'
    · by_cases hj : j < gvs.length
      · rw [List.getElem?_append_left hj] at e
        obtain ⟨h1, h2, h3⟩ := hgv j gv' e
        refine ⟨.inl h1, h2, h3.fx x1 (fun h => ?_)⟩
        rcases h with rfl | rfl | h
        · omega
        · omega
        · obtain ⟨g0, cur0, e0, _, hB0, _⟩ := own_row hG.1 (by omega) (by decide)
          subst e0
          have e1 : g0 = gv' := by simpa [Value.ownBlock] using h
          subst e1
          have := h3.symm.trans hB0
          simp at this
      · have hj2 : j = gvs.length := by have := (List.getElem?_eq_some_iff.1 e).1; simp at this; omega
        subst hj2
        simp at e; subst e
        exact ⟨.inr (.inl rfl), Nat.le_trans hs hgvs, hBv⟩
  have hG' : ChG W k (fun b => D b ∨ b = gv ∨ b = g) w' (gvs ++ [gv]) (some ⟨g, 0, none⟩) cap' := by
    refine ⟨?_, fun b h => .inr (.inr (by simpa [Value.ownBlock] using h.symm))⟩
    rw [List.length_append, thL_snoc]
    exact hO'
  rcases hk with rfl | rfl
  · refine ⟨2 * (n - (gvs.length + 1)) + 2, by omega, gvs ++ [gv], _, cap', cnt + 1, hC', .inl ⟨hG', .inr ⟨rfl, ?_, ?_, ?_⟩⟩⟩
    · rw [hc]; simp [arV]; omega
    · simp [hdV]
    · simp
  · refine ⟨2 * (n - (gvs.length + 1)) + 1, by omega, gvs ++ [gv], _, cap', cnt + 1, hC', .inl ⟨hG', .inl ⟨?_, ?_, ?_⟩⟩⟩
    · rw [hc]; simp [arV]
    · simp [hdV]
    · simp
end
end Go.Proofs.YtmfnkhonghemeaaDoor
namespace Go.Proofs.YtmfnkhonghemeaaDoor
open Go.RowKit
set_option linter.unusedVariables false
section
variable {W w : World} {p mb n r : Nat} {k : Int} {rg : Bool} {T : TypeId} {d : Value} {D : Nat → Prop} {st : List (Int × Int)} {x y : Int}
theorem snoc_one {α : Type} {st : List α} {a b : α} (h : st ++ [a] = [b]) : st = [] ∧ a = b := by
  cases st with
  | nil => simp at h; exact ⟨rfl, h⟩
  | cons c l => have := congrArg List.length h; simp at this
theorem snoc_two {α : Type} {st : List α} {a b c : α} (h : st ++ [a] = [b, c]) : st = [b] ∧ a = c := by
  cases st with
  | nil => have := congrArg List.length h; simp at this
  | cons e l =>
    cases l with
    | nil => simp at h; obtain ⟨rfl, rfl⟩ := h; exact ⟨rfl, rfl⟩
    | cons f l => have := congrArg List.length h; simp at this
theorem chain_meet (hk : k = 1 ∨ k = 2) (hn : 1 ≤ n ∧ n ≤ 600) (hp : p = mb + 1 ∧ p < W.heap.size) (HN : ChN W p mb k n rg T d) (h : ChI W p mb k n rg T d D r (st ++ [(x, y)]) w) :
    Calls Tryd.prog 16 #[.pointer (some ⟨p, 0, none⟩), .agg #[.int .i64 x, .int .i64 y]] w (MeetQ p (ChI W p mb k n rg T d) (ChJ W p mb k n) D r st w) := by
  obtain ⟨gvs, ta, cap, cnt, hC, h⟩ := h
  have h5 := hC.2.2.2.2.2.2.1
  have hKn := hC.2.2.2.2.2.2.2
  rcases h with ⟨hG, ⟨hc, hst, hr⟩ | ⟨rfl, hc, hst, hr⟩⟩ | ⟨_, _, _, _, _, _, _, _, _, hst, _⟩
  · obtain ⟨rfl, hv⟩ := snoc_one hst
    have hle : arV k * gvs.length ≤ arV k * n := Nat.mul_le_mul_left _ hKn
    by_cases h500 : cnt = 500
    · subst h500
      exact ch_end hp hC (by omega)
    by_cases hK : gvs.length < n
    · have hv2 : (x, y) = (2, (gvs.length : Int) + 1) := by rw [hv]; unfold nx; rw [if_pos hK]
      obtain ⟨rfl, rfl⟩ := Prod.mk.inj hv2
      exact ch_first hk hn hp HN hC hG hK hc (by omega) hr
    · have hKe : gvs.length = n := by omega
      cases rg with
      | true =>
        have hv2 : (x, y) = (2, 1) := by rw [hv]; unfold nx; rw [if_neg hK, if_pos rfl]
        obtain ⟨rfl, rfl⟩ := Prod.mk.inj hv2
        exact ch_again hk hn hp hC hG hKe (by rw [hc, hKe]) (by omega) (by omega)
      | false =>
        have hv2 : (x, y) = (3, 0) := by rw [hv]; unfold nx; rw [if_neg hK]; rfl
        obtain ⟨rfl, rfl⟩ := Prod.mk.inj hv2
        obtain ⟨g, cur, rfl, hg, hB, hcap, hcs, htk⟩ := own_row hG.1 (by omega) (by decide)
        have hDg := hG.2 g rfl
        refine ch_leaf (r' := 0) hp hC (by omega) valid_nil (by decide) (by omega) (fun w' o hC' => ⟨gvs, _, cap, cnt + 1, hC', .inr ⟨g, cur, rfl, hDg, hg, hB.kept o (.inr (by omega)), ?_, hKe, by rw [hc, hKe], rfl, rfl⟩⟩)
        have := th_of_own htk
        intro j gv c hj hc7
        rw [this j gv c hj hc7]; simp [tmR]
  · obtain ⟨rfl, hv⟩ := snoc_two hst
    obtain ⟨rfl, rfl⟩ := Prod.mk.inj hv
    by_cases h500 : cnt = 500
    · subst h500
      exact ch_end hp hC (by simp [arV]; omega)
    exact ch_leaf (r' := 2 * (n - gvs.length) + 1) hp hC (by omega) (valid_fix (by omega) (by omega)) (by decide) (by omega) (fun w' o hC' => ⟨gvs, ta, cap, cnt + 1, hC', .inl ⟨hG.step hp.2 o, .inl ⟨by simp [arV]; omega, rfl, rfl⟩⟩⟩)
  · simp at hst
/-- what the walk leaves -/
def ChE (W : World) (p mb : Nat) (k : Int) (n : Nat) (rg : Bool) (T : TypeId) (d : Value) (w : World) : Prop := ∃ (gvs : List Nat) (g cap : Nat) (cur : Array Value), WK w p (.iface T d) (.map (some mb)) (.slice (some ⟨g, 0, none⟩) n cap) ((arV k * n + 1 : Nat) : Int) ∧ MpAt w mb (fK n) ∧ gvs.length = n ∧
  (∀ (j gv : Nat), gvs[j]? = some gv → W.heap.size ≤ gv ∧ Bl w gv (flat (hdV k n rg (j + 1))).toArray 28) ∧ W.heap.size ≤ g ∧ Bl w g cur 68 ∧ ThA cur k (arV k) gvs (tmR rg)
theorem chain_over (hk : k = 1 ∨ k = 2) (hn : 1 ≤ n ∧ n ≤ 600) (hp : p = mb + 1 ∧ p < W.heap.size) (HN : ChN W p mb k n rg T d) (hW : WK W p (.iface T d) (.map (some mb)) (.slice none 0 0) 0) (hM : MpAt W mb (fun _ => none)) :
    Calls Tryd.prog 12 #[.pointer (some ⟨p, 0, none⟩), .agg #[.int .i64 2, .int .i64 1]] W fun e w' => e = .returned (.agg #[.int .i64 0, .int .i64 0]) ∧ Fx (fun b => b = p ∨ b = mb) W w' ∧
      ((arV k * n + 1 ≤ 500 ∧ ChE W p mb k n rg T d w') ∨ (500 < arV k * n + 1 ∧ ∃ hv mv tv, WK w' p hv mv tv 501)) := by
  have hI : ChI W p mb k n rg T d (fun b => b < W.heap.size) (2 * n + 1) [(2, 1)] W := by
    refine ⟨[], none, 0, 0, ⟨⟨rfl, rfl, rfl, Nat.le_refl _, fun _ _ _ => rfl⟩, fun b h => h, fun b h => h, hW, ?_, fun j gv e => by simp at e, by decide, by simp⟩, .inl ⟨⟨⟨rfl, .inl ⟨rfl, rfl⟩⟩, fun b h => by simp [Value.ownBlock] at h⟩, .inl ⟨by simp, ?_, by simp⟩⟩⟩
    · have : fK 0 = fun _ => none := by funext y; unfold fK; rw [if_neg (by omega)]
      simpa [this] using hM
    · unfold nx; rw [if_pos (by simp; omega)]; rfl
  refine (over_any (ChI W p mb k n rg T d) (ChJ W p mb k n) (fun D r st w w' h x => h.fx hp x) (fun D w w' h x => h.fx hp.2 x) (fun D r st w h => h.dom) (fun D r st k' x w h => chain_meet hk hn hp HN h) hI).mono ?_
  rintro e w' ⟨rfl, D, hD, hf, ⟨r, gvs, ta, cap, cnt, hC, h⟩ | hJ⟩
  · obtain ⟨hfx, hD0, hDw, hW, hM, hgv, hc5, hKn⟩ := hC
    rcases h with ⟨hG, ⟨hc, hst, hr⟩ | ⟨rfl, hc, hst, hr⟩⟩ | ⟨g, cur, rfl, _, hg, hB, hT, hK, hc, hst, _⟩
    · simp at hst
    · simp at hst
    · rw [hK, hc] at hW
      rw [hK] at hM
      exact ⟨rfl, hfx, .inl ⟨by omega, gvs, g, cap, cur, hW, hM, hK, fun j gv e => ⟨(hgv j gv e).2.1, (hgv j gv e).2.2⟩, hg, hB, hT⟩⟩
  · exact ⟨rfl, hJ.1, .inr ⟨hJ.2.2.2, hJ.2.2.1⟩⟩
end
end Go.Proofs.YtmfnkhonghemeaaDoor
