import Derived.Test.YtjbbkeoolodeaaaGreatDoorG04
import Derived.Test.YtjbbkeoolodeaaaGreatDoorG24
import Derived.Test.YtjbbkeoolodeaaaGreatDoorG00
import Derived.Deep.DeepAppendRoom
namespace Go.Proofs.YtjbbkeoolodeaaaGreatDoor
open Go.RowKit
set_option linter.unusedVariables false
set_option linter.unusedSimpArgs false

theorem OwnF.el {B : Nat} {w : World} {t n : Nat} {v : Value} {f : Nat → Nat → Int} (h : OwnF B w t v n f) : ElAt w v n (szK t) f := by
  obtain ⟨a, cap, rfl⟩ := h.shape
  refine ⟨a, cap, rfl, fun h0 => ?_⟩
  obtain ⟨g, cap', e, _, _, _, hc⟩ := h.open h0
  cases e
  exact ⟨g, rfl, hc⟩
theorem WereC.el {w : World} {col : Nat → Nat} {v : Value} {n sz : Nat} {f : Nat → Nat → Int} (h : WereC w col v n sz f) : ElAt w v n sz f := by
  obtain ⟨a, cap, rfl, hr⟩ := h
  refine ⟨a, cap, rfl, fun h0 => ?_⟩
  obtain ⟨g, g0, _, _, g3⟩ := hr h0
  exact ⟨g, g0, g3⟩
/-- how many lists there are: left ones and full ones -/
def Lens (X : Nat → List Value) (N0 N2 F0 F1 F2 : Nat) : Prop := ((X 2).length = N0 ∧ (X 3).length = N0 ∧ (X 4).length = N0 ∧ (X 5).length = N0 ∧ (X 6).length = N2 ∧ (X 7).length = N2) ∧ ((X 8).length = F0 ∧ (X 11).length = F0) ∧ ((X 9).length = F1 ∧ (X 12).length = F1) ∧ ((X 10).length = F2 ∧ (X 13).length = F2)
end Go.Proofs.YtjbbkeoolodeaaaGreatDoor
namespace Go.Proofs.YtjbbkeoolodeaaaGreatDoor
open Go.RowKit
set_option linter.unusedVariables false
set_option linter.unusedSimpArgs false

section
variable {P : Program} {ops : Array Oper} {Q : Exit → Act → World → Prop} {md : Region.Mode} {S : World → Prop} {z : Nat}
/-- whatever order is picked: S holds behind every operation but z -/
def wpAnyT (P : Program) (md : Region.Mode) (ops : Array Oper) (Q : Exit → Act → World → Prop) (S : World → Prop) (z : Nat) : Nat → Array Bool → Act → World → Prop
  | 0, listed, a, w => Region.ready md ops listed = [] ∧ Q .normal a w
  | fuel + 1, listed, a, w =>
    (Region.ready md ops listed = [] → Q .normal a w) ∧
    ∀ i ∈ Region.ready md ops listed, wpOp P ops Q i (fun a' w' => (i ≠ z → S w') ∧ wpAnyT P md ops Q S z fuel (listed.setIfInBounds i true) a' w') a w
theorem wpAny_of_T : ∀ (fuel : Nat) (listed : Array Bool) (a : Act) (w : World), wpAnyT P md ops Q S z fuel listed a w → wpAny P md ops Q fuel listed a w
  | 0, _, _, _, h => h
  | fuel + 1, _, _, _, h => ⟨h.1, fun i hi => wpOp_mono (fun a' w' h' => wpAny_of_T fuel _ a' w' h'.2) (h.2 i hi)⟩
/-- does z wait for i? -/
def waitsFor (md : Region.Mode) (ops : Array Oper) (z i : Nat) : Bool := match ops[z]? with
  | some oz => oz.after.any fun e => Region.binds md e && e.on == i
  | none => false
theorem waits_spec {i : Nat} (h : waitsFor md ops z i = true) : ∃ oz, ops[z]? = some oz ∧ ∃ e ∈ oz.after, Region.binds md e = true ∧ e.on = i := by
  unfold waitsFor at h
  cases hz : ops[z]? with
  | none => rw [hz] at h; cases h
  | some oz =>
    rw [hz] at h
    refine ⟨oz, rfl, ?_⟩
    dsimp only at h
    rw [Array.any_eq_true'] at h
    obtain ⟨e, he, h2⟩ := h
    simp at h2
    exact ⟨e, he, h2.1, h2.2⟩
theorem wpAnyT_first {i : Nat} {oi : Oper} {v : Value} (hi : ops[i]? = some oi) (hsel : ∀ (j : Nat) (o : Oper) cs b, ops[j]? = some o → o.op ≠ .select cs b)
    (hQ : ∀ c a w, Q (.panic c) (a.put oi.dst v) w → Q (.panic c) a w) (hz : ∃ oz, ops[z]? = some oz ∧ ∃ e ∈ oz.after, Region.binds md e = true ∧ e.on = i) :
    ∀ (fuel : Nat) (listed : Array Bool) (a : Act) (w : World),
      (∀ j oj, ops[j]? = some oj → j ≠ i → listed.getD j true = false → (∀ e ∈ oj.after, Region.binds md e = true → e.on ≠ i) → oi.apart ops oj = true) →
      i ∈ Region.ready md ops listed → YieldsIf P ops S oi v a → S w →
      wpAnyT P md ops Q S z fuel (listed.setIfInBounds i true) (a.put oi.dst v) w → wpAnyT P md ops Q S z (fuel + 1) listed a w := by
  intro fuel
  induction fuel with
  | zero =>
    intro listed a w _ hr hy hS H
    refine ⟨fun h => (by rw [h] at hr; cases hr), fun j hj => ?_⟩
    by_cases hji : j = i
    · subst hji; exact hy.wpOp hi hS ⟨fun _ => hS, H⟩
    · have := ready_mono hj hji
      rw [H.1] at this
      cases this
  | succ fuel ih =>
    intro listed a w hfree hr hy hS H
    refine ⟨fun h => (by rw [h] at hr; cases hr), fun j hj => ?_⟩
    by_cases hji : j = i
    · subst hji; exact hy.wpOp hi hS ⟨fun _ => hS, H⟩
    · have h1 := H.2 j (ready_mono hj hji)
      obtain ⟨hjun, oj, hoj, hall⟩ := mem_ready.1 hj
      have hnot : ∀ e ∈ oj.after, Region.binds md e = true → e.on ≠ i := fun e he hb heq => by
        have h1 := hall e he hb
        have h0 := (mem_ready.1 hr).1
        rw [heq] at h1
        rcases Nat.lt_or_ge i listed.size with h' | h'
        · simp [h'] at h0 h1; rw [h0] at h1; cases h1
        · simp [Array.getElem?_eq_none h'] at h1
      have hjz : j ≠ z := by
        intro e
        subst e
        obtain ⟨oz, hoz, e, he, he2, he3⟩ := hz
        rw [hoj] at hoz
        cases hoz
        exact hnot e he he2 he3
      have h2 := wpOp_putIf hoj (hfree j oj hoj hji hjun hnot) (fun cs b => hsel i oi cs b hi) (fun cs b => hsel j oj cs b hoj) hQ hy h1
      have hfree' : ∀ k ok, ops[k]? = some ok → k ≠ i → (listed.setIfInBounds j true).getD k true = false →
          (∀ e ∈ ok.after, Region.binds md e = true → e.on ≠ i) → oi.apart ops ok = true := fun k ok hk hki hun hno => by
        refine hfree k ok hk hki ?_ hno
        by_cases hjk : j = k
        · subst hjk; exact hjun
        · rw [getD_set_ne true hjk] at hun; exact hun
      refine wpOp_mono (fun a' w' h3 => ⟨h3.2.1, ih (listed.setIfInBounds j true) a' w' hfree' (ready_mono hr (Ne.symm hji)) h3.1 (h3.2.1 hjz) ?_⟩) h2
      rw [Array.setIfInBounds_comm _ _ hji]
      exact h3.2.2
theorem wpAnyT_take {i : Nat} {oi : Oper} {v : Value} {fuel : Nat} {listed : Array Bool} {a : Act} {w : World} (hi : ops[i]? = some oi)
    (hs : Region.noSelect ops = true) (hf : Region.free md ops listed i = true) (hr : (Region.ready md ops listed).contains i = true) (hz : waitsFor md ops z i = true)
    (hQ : ∀ c a w, Q (.panic c) (a.put oi.dst v) w → Q (.panic c) a w) (hy : YieldsIf P ops S oi v a) (hS : S w)
    (h : wpAnyT P md ops Q S z fuel (listed.setIfInBounds i true) (a.put oi.dst v) w) : wpAnyT P md ops Q S z (fuel + 1) listed a w :=
  wpAnyT_first hi (Region.noSelect_spec hs) hQ (waits_spec hz) fuel listed a w (Region.free_spec hi hf) (by simpa using hr) hy hS h
/-- one operation alone may come up, and it is not z -/
theorem wpAnyT_one {i : Nat} {o : Oper} {fuel : Nat} {listed : Array Bool} {a : Act} {w : World} (hr : Region.ready md ops listed = [i]) (ho : ops[i]? = some o)
    (h : ∀ K' : Act → World → Prop, Shut (∀ a w, S w → (S w → wpAnyT P md ops Q S z fuel (listed.setIfInBounds i true) a w) → K' a w) → if Region.wanted o (yielded ops a.tmps) = true then Oper.wp P o a w K' Q else K' (a.put o.dst undef) w) : wpAnyT P md ops Q S z (fuel + 1) listed a w := by
  refine ⟨fun h0 => (by rw [hr] at h0; cases h0), fun j hj => ?_⟩
  rw [hr] at hj
  simp at hj
  subst hj
  exact wpOp_step ho (fun K' hK => h K' (fun a w hS hW => hK a w ⟨fun _ => hS, hW hS⟩))
/-- z comes up -/
theorem wpAnyT_last {o : Oper} {fuel : Nat} {listed : Array Bool} {a : Act} {w : World} (hr : Region.ready md ops listed = [z]) (ho : ops[z]? = some o)
    (h : ∀ K' : Act → World → Prop, Shut (∀ a w, wpAnyT P md ops Q S z fuel (listed.setIfInBounds z true) a w → K' a w) → if Region.wanted o (yielded ops a.tmps) = true then Oper.wp P o a w K' Q else K' (a.put o.dst undef) w) : wpAnyT P md ops Q S z (fuel + 1) listed a w := by
  refine ⟨fun h0 => (by rw [hr] at h0; cases h0), fun j hj => ?_⟩
  rw [hr] at hj
  simp at hj
  subst hj
  exact wpOp_step ho (fun K' hK => h K' (fun a w hW => hK a w ⟨fun e => absurd rfl e, hW⟩))
theorem wpAnyT_done {listed : Array Bool} {a : Act} {w : World} (hr : Region.ready md ops listed = []) (h : Q .normal a w) :
    ∀ fuel, wpAnyT P md ops Q S z fuel listed a w
  | 0 => ⟨hr, h⟩
  | _ + 1 => ⟨fun _ => h, by rw [hr]; simp⟩
theorem wp_region_T {id : Nat} {a : Act} {w : World} (hm : P.follows .mixedOrders = true) (hS : S w.drew)
    (h : S w.drew → wpAnyT P .any ops Q S z ops.size (Array.replicate ops.size false) a w.drew) : (Code.region id ops true).wp P Q a w :=
  wp_region_any hm (wpAny_of_T _ _ _ _ (h hS))
end
end Go.Proofs.YtjbbkeoolodeaaaGreatDoor
namespace Go.Proofs.YtjbbkeoolodeaaaGreatDoor
open Go.RowKit
set_option linter.unusedVariables false
set_option linter.unusedSimpArgs false

section
variable {B : Nat} {w w' : World} {b : Nat} {V : Nat → Value} {X : Nat → List Value} {C : Nat → Nat → Nat × (Nat → Nat → Int)} {col col' : Nat → Nat} {cur : Option (Nat × Nat)} {p : Nat → Nat}
/-- other colours for blocks that are none of what is kept -/
theorem FullC.recol7 {t m : Nat} {v : Value} (h : FullC w col cur t v m) (e : ∀ x, x < w.heap.size → col x ≠ 9 → col x ≠ 7 → col' x = col x) : FullC w col' cur t v m := by
  obtain ⟨a, n, cap, e1, hn, hr⟩ := h
  refine ⟨a, n, cap, e1, hn, fun h0 => ?_⟩
  obtain ⟨g, g0, g1, g2, g3⟩ := hr h0
  refine ⟨g, g0, g1, ?_, g3⟩
  have : col' g = col g := e g g1 (by rcases g2 with g2 | g2 <;> omega) (by rcases g2 with g2 | g2 <;> omega)
  rw [this]; exact g2
theorem WereC.recol7 {n sz : Nat} {v : Value} {f : Nat → Nat → Int} (h : WereC w col v n sz f) (e : ∀ x, x < w.heap.size → col x ≠ 9 → col x ≠ 7 → col' x = col x) : WereC w col' v n sz f := by
  obtain ⟨a, cap, e1, hr⟩ := h
  refine ⟨a, cap, e1, fun h0 => ?_⟩
  obtain ⟨g, g0, g1, g2, g3⟩ := hr h0
  exact ⟨g, g0, g1, by rw [e g g1 (by omega) (by omega)]; exact g2, g3⟩
theorem LeftC.recol7 {t i n : Nat} {v : Value} {f : Nat → Nat → Int} (h : LeftC B w col t i v n f) (e : ∀ x, x < w.heap.size → col x ≠ 9 → col x ≠ 7 → col' x = col x) : LeftC B w col' t i v n f := by
  obtain ⟨⟨xs, h1, h2⟩, h3, h4⟩ := h
  exact ⟨⟨xs, h1, h2⟩, h3, fun x hx => by rw [e x (own_lt h1 hx) (by rw [h4 x hx]; omega) (by rw [h4 x hx]; omega)]; exact h4 x hx⟩
theorem Kp.recol7 (h : Kp B w b V X C col cur p) (e : ∀ x, x < w.heap.size → col x ≠ 9 → col x ≠ 7 → col' x = col x) : Kp B w b V X C col' cur p :=
  ⟨h.hB, h.hb, by rw [e b (heap_lt h.hb) (by rw [h.cb]; omega) (by rw [h.cb]; omega)]; exact h.cb, h.own, fun i h1 h2 x hx => by rw [e x (own_lt (h.own i h1 h2) hx) (by rw [h.co i h1 h2 x hx]; omega) (by rw [h.co i h1 h2 x hx]; omega)]; exact h.co i h1 h2 x hx,
    fun t i v ht hp hv => (h.lf t i v ht hp hv).recol7 e, fun t i v ht hv => (h.wr t i v ht hv).recol7 e, fun t i v z ht hv hz => by
      obtain ⟨m, e1, e2⟩ := h.fl t i v z ht hv hz
      exact ⟨m, e1, e2.recol7 e⟩⟩
theorem Fix.re2 {c0 c1 c2 : Nat → Nat} {a b : World} (h : Fix c0 c1 a b) (e : ∀ k, k < a.heap.size → c0 k = 7 → c1 k = 7 → c2 k = 7) : Fix c0 c2 a b :=
  ⟨h.1, fun k hk h7 => e k hk h7 (h.2 k hk h7)⟩
/-- what is told of lists that are not there yet may be chosen -/
theorem Kp.setC (h : Kp B w b V X C col cur p) {C' : Nat → Nat → Nat × (Nat → Nat → Int)} (e : ∀ t i, t < 3 → (i < (X (2 + 2 * t)).length ∨ i < (X (3 + 2 * t)).length) → C' t i = C t i) : Kp B w b V X C' col cur p :=
  { h with
    lf := fun t i v ht hp hv => by rw [e t i ht (.inl (List.getElem?_eq_some_iff.1 hv).1)]; exact h.lf t i v ht hp hv
    wr := fun t i v ht hv => by rw [e t i ht (.inr (List.getElem?_eq_some_iff.1 hv).1)]; exact h.wr t i v ht hv }
theorem WereC.pushed {n sz i : Nat} {v : Value} {f : Nat → Nat → Int} (h : WereC w col v n sz f) (e : ∀ y, y < w.heap.size → col' y = col y) (i2 : 2 ≤ i) (o : Chg col (fun c => c = 0 ∨ c = 10 + i) w w') : WereC w' col' v n sz f :=
  (h.recol (col' := col') fun y hy _ => e y hy).chg (o.recol fun k hk hp => by rw [← e k hk]; exact hp) (by omega)
theorem LeftC.pushed {t i0 n i : Nat} {v : Value} {f : Nat → Nat → Int} (h : LeftC B w col t i0 v n f) (e : ∀ y, y < w.heap.size → col' y = col y) (i2 : 2 ≤ i) (i14 : i < 14) (o : Chg col (fun c => c = 0 ∨ c = 10 + i) w w') : LeftC B w' col' t i0 v n f :=
  (h.recol (col' := col') fun y hy _ => e y hy).chg (o.recol fun k hk hp => by rw [← e k hk]; exact hp) (by omega)
end
/-- six lists that come; k of them are pushed -/
def DSt (B b : Nat) (V : Nat → Value) (X : Nat → List Value) (C : Nat → Nat → Nat × (Nat → Nat → Int)) (p : Nat → Nat) (M : Nat → Nat) (x : Nat → Value) (col : Nat → Nat) (w : World) (k : Nat) (W : World) (V' : Nat → Value) (X' : Nat → List Value) (col' : Nat → Nat) : Prop :=
  Kp B W b V' X' C col' none p ∧ (∀ t, t < 3 → LeftC B W col' t (M t) (x (2 + 2 * t)) (C t (M t)).1 (C t (M t)).2 ∧ WereC W col' (x (3 + 2 * t)) (C t (M t)).1 (szK t) (C t (M t)).2) ∧ (∀ j, 2 ≤ j → j < 2 + k → (X' j).length = (X j).length + 1) ∧ (∀ j, (j < 2 ∨ 2 + k ≤ j) → V' j = V j ∧ X' j = X j) ∧ Fix col col' w W
section
variable {B b : Nat} {V : Nat → Value} {X : Nat → List Value} {C : Nat → Nat → Nat × (Nat → Nat → Int)} {p : Nat → Nat} {M : Nat → Nat} {x : Nat → Value} {col : Nat → Nat} {w : World} {k : Nat} {W : World} {V' : Nat → Value} {X' : Nat → List Value} {col' : Nat → Nat}
theorem DSt.quiet (h : DSt B b V X C p M x col w k W V' X' col') {W' : World} (o : Out 0 0 W W') : DSt B b V X C p M x col w k W' V' X' col' :=
  ⟨h.1.quiet o, fun t ht => ⟨(h.2.1 t ht).1.chg (P := fun c => c = 9) (Chg.of_out o _ _) (by omega), (h.2.1 t ht).2.chg (P := fun c => c = 9) (Chg.of_out o _ _) (by omega)⟩, h.2.2.1, h.2.2.2.1, h.2.2.2.2.out o⟩
theorem DSt.push (h : DSt B b V X C p M x col w k W V' X' col') (hk : k < 6) (hM : ∀ t, t < 3 → (X (2 + 2 * t)).length = M t ∧ (X (3 + 2 * t)).length = M t) {W1 W2 : World} {g cap n : Nat} (hn : (X (2 + k)).length = n) (o1 : Out 0 0 W W1) (own : W2.ownsRow B (tyS (2 + k)) 1 (.slice (some ⟨g, 0, none⟩) (n + 1) cap) (n + 1) (X (2 + k) ++ [x (2 + k)])) (gr : Grew W1 W2 (V (2 + k)) g) :
    W2.heap[b]? = some (.cells #[V' 0, V' 1, V' 2, V' 3, V' 4, V' 5, V' 6, V' 7, V' 8, V' 9, V' 10, V' 11, V' 12, V' 13] 48 (0, 0)) ∧
    ∃ V'' X'' col'', DSt B b V X C p M x col w (k + 1) (W2.setCell ⟨b, 2 + k, none⟩ (.slice (some ⟨g, 0, none⟩) (n + 1) cap)) V'' X'' col'' := by
  obtain ⟨hK, hL, hlen, hsame, hfix⟩ := h
  subst hn
  obtain ⟨s1, s2⟩ := hsame (2 + k) (.inr (Nat.le_refl _))
  rw [← s2] at own
  rw [← s1] at gr
  obtain ⟨hb2, V2, X2, col2, a1, a2, a3, a4, a5, a6⟩ := hK.push (i := 2 + k) (by omega) (by omega) o1 own gr (fun t ht e hp => by
      rw [show (X' (2 + k)).length = M t from by rw [s2, e]; exact (hM t ht).1, e]
      exact (hL t ht).1) (fun t ht e => by
      rw [show (X' (2 + k)).length = M t from by rw [s2, e]; exact (hM t ht).2, e]
      exact (hL t ht).2) (fun t ht e => by omega) (fun t ht e => by omega)
  rw [s2] at a4 a6
  refine ⟨hb2, V2, X2, col2, a4, fun t ht => ⟨(hL t ht).1.pushed a5 (by omega) (by omega) a6, (hL t ht).2.pushed a5 (by omega) a6⟩, fun j j1 j2 => ?_, fun j hj => ?_, hfix.trans (Fix.of a6 (by omega) fun k hk h7 => by rw [a5 k hk]; exact h7)⟩
  · by_cases e : j = 2 + k
    · subst e
      rw [a2, s2]
      simp
    · rw [(a3 j e).2]
      exact hlen j j1 (by omega)
  · obtain ⟨q1, q2⟩ := a3 j (by omega)
    rw [q1, q2]
    exact hsame j (by omega)
end
/-- an append as one step of a region that draws its order -/
theorem app_run (w : World) (t ty : TypeId) (base : Nat) (e : TypeId) (i : TypeInfo) (z : Value) (bytes : Nat) (ht : Tryz.prog.underlying t = some (.slice e)) (hi : Tryz.prog.info? e = some i) (hz : i.zero = some z)
    (hsize : i.size = 1) (hby : i.bytes = bytes) (hzs : z.cells.size = 1) (v : Value) (n : Nat) (xs : List Value) (hown : w.ownsRow base e 1 v n xs)
    (ad : Addr) (m c : Nat) (news : List Value) (hl : news.length = m * 1) (hnews : ∀ j u, news[j]? = some u → w.cell? (ad.add j) = some u) (h1 : ∀ u ∈ news, u.oneCell' = true)
    (hm : 0 < m) (h63 : n + m ≤ maxLen) (hbytes : (n + m) * bytes ≤ 140737488355328) (hbase : base ≤ w.heap.size) :
    ∃ g cap w', (Builtin.append_ #[t, t] ty #[v, .slice (some ad) m c]).run Tryz.prog w = .ok (.slice (some ⟨g, 0, none⟩) (n + m) cap) w' ∧ w'.ownsRow base e 1 (.slice (some ⟨g, 0, none⟩) (n + m) cap) (n + m) (xs ++ news) ∧ Grew w w' v g := by
  have hown' := hown
  obtain ⟨hlen, hcase⟩ := hown
  rcases hcase with ⟨rfl, rfl⟩ | ⟨g, cap, cur, rfl, hg1, hg2, hg3, hg4, hg5, hg6⟩
  · obtain rfl : xs = [] := List.eq_nil_of_length_eq_zero (by simpa using hlen)
    obtain ⟨v', w', hrun, r1, r2, _⟩ := run_append_own (P := Tryz.prog) w w.heap.size t ty e i z 1 bytes ht hi hz hsize hby hzs (by decide) (.slice none 0 0) 0 [] (World.ownsRow_nil w _ e 1) ad m c news hl hnews h1 h63 hbytes (Nat.le_refl _)
    obtain ⟨g, cap, rfl, hg, _⟩ := r1.form (by omega)
    exact ⟨g, cap, w', hrun, own_mono r1 hbase, .inl ⟨r2, hg⟩⟩
  · by_cases hr : n + m ≤ cap
    · obtain ⟨w', hrun, r1, r2⟩ := run_append_own_spare (P := Tryz.prog) w base t ty e i 1 ht hi hsize g n cap xs hown' ad m c news hl hnews h1 hr
      exact ⟨g, cap, w', hrun, r1, .inr ⟨rfl, r2⟩⟩
    · obtain ⟨v', w', hrun, r1, r2⟩ := run_append_arg_grows (P := Tryz.prog) w t ty e i z 1 bytes ht hi hz hsize hby hzs (by decide) ⟨g, 0, none⟩ n cap xs hlen (own_cells hown') ad m c news hl hnews (by omega) h63 hbytes
      obtain ⟨g', cap', rfl, hg, _⟩ := r1.form (by omega)
      exact ⟨g', cap', w', hrun, own_mono r1 hbase, .inl ⟨r2, hg⟩⟩
theorem app_stepR {ops : Array Oper} {o : Oper} {a : Go.Act} {w : World} {K : Go.Act → World → Prop} {Q : Exit → Go.Act → World → Prop} {E : Prop} (hgd : o.guard = none) (s x : Operand) (t : TypeId)
    (ho : o.op = .call { callee := .builtin .append, args := #[s, x], argTypes := #[t, t] })
    (base : Nat) (e : TypeId) (i : TypeInfo) (z : Value) (bytes : Nat) (ht : Tryz.prog.underlying t = some (.slice e)) (hi : Tryz.prog.info? e = some i) (hz : i.zero = some z)
    (hsize : i.size = 1) (hby : i.bytes = bytes) (hzs : z.cells.size = 1)
    (v : Value) (n : Nat) (xs : List Value) (hs : a.eval s = v) (hown : w.ownsRow base e 1 v n xs)
    (ad : Addr) (m c : Nat) (news : List Value) (hx : a.eval x = .slice (some ad) m c) (hl : news.length = m * 1) (hnews : ∀ j u, news[j]? = some u → w.cell? (ad.add j) = some u) (h1 : ∀ u ∈ news, u.oneCell' = true)
    (hm : 0 < m) (h63 : n + m ≤ maxLen) (hbytes : (n + m) * bytes ≤ 140737488355328) (hbase : base ≤ w.heap.size)
    (h : ∀ g cap w', w'.ownsRow base e 1 (.slice (some ⟨g, 0, none⟩) (n + m) cap) (n + m) (xs ++ news) → Grew w w' v g → K (a.put o.dst (.slice (some ⟨g, 0, none⟩) (n + m) cap)) w') :
    if Region.wanted o (yielded ops a.tmps) = true then Oper.wp Tryz.prog o a w K Q else E := by
  have hw : Region.wanted o (yielded ops a.tmps) = true := by simp [Region.wanted, hgd]
  rw [if_pos hw]
  obtain ⟨g, cap, w', hrun, r1, r2⟩ := app_run w t o.type base e i z bytes ht hi hz hsize hby hzs v n xs hown ad m c news hl hnews h1 hm h63 hbytes hbase
  unfold Oper.wp
  simp [execOp, ho, resolve, invoke, builtin, hs, hx, hrun, Result.andThen]
  exact h g cap w' r1 r2
end Go.Proofs.YtjbbkeoolodeaaaGreatDoor
