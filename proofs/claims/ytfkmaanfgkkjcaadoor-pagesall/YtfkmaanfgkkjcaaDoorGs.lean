/- appends in regions that draw their order; lists that arrive -/
import Derived.Test.YtfkmaanfgkkjcaaDoorGq
import Derived.Deep.RegionLaw
import Derived.Deep.RegionLawGrows
import Derived.ArgAppend
import Derived.Deep.DeepAppendRoom
namespace Go.Proofs.YtfkmaanfgkkjcaaDoor
open Go.RowKit
set_option linter.unusedVariables false
set_option linter.unusedSimpArgs false

theorem Keep.setC {B : Nat} {w : World} {b : Nat} {vT vR vL vW vS vM : Value} {L Wr Ls : List Value} {Mk : List Nat} {C : Nat → List (Int × Int × Int)} {col : Nat → Nat} {cur : Option (Nat × Nat × Nat)} {p : Nat} {u : Bool}
    (h : Keep B w b vT vR vL vW vS vM L Wr Ls Mk C col cur p u) {C' : Nat → List (Int × Int × Int)} (e : ∀ i, i < L.length → C' i = C i) (hw : Wr.length ≤ L.length) : Keep B w b vT vR vL vW vS vM L Wr Ls Mk C' col cur p u := by
  refine { h with q := ?_, wr := ?_ }
  · intro i v hp hv
    have hi := (List.getElem?_eq_some_iff.1 hv).1
    rw [e i hi]
    exact h.q i v hp hv
  · intro hu i v hv
    have hi := (List.getElem?_eq_some_iff.1 hv).1
    rw [e i (by omega)]
    exact h.wr hu i v hv
/-- an append as one step of a region that draws its order -/
theorem app_run (w : World) (t ty : TypeId) (base : Nat) (e : TypeId) (i : TypeInfo) (z : Value) (bytes : Nat) (ht : Tryd.prog.underlying t = some (.slice e)) (hi : Tryd.prog.info? e = some i) (hz : i.zero = some z)
    (hsize : i.size = 1) (hby : i.bytes = bytes) (hzs : z.cells.size = 1) (v : Value) (n : Nat) (xs : List Value) (hown : w.ownsRow base e 1 v n xs)
    (ad : Addr) (m c : Nat) (news : List Value) (hl : news.length = m * 1) (hnews : ∀ j u, news[j]? = some u → w.cell? (ad.add j) = some u) (h1 : ∀ u ∈ news, u.oneCell' = true)
    (hm : 0 < m) (h63 : n + m ≤ maxLen) (hbytes : (n + m) * bytes ≤ 140737488355328) (hbase : base ≤ w.heap.size) :
    ∃ g cap w', (Builtin.append_ #[t, t] ty #[v, .slice (some ad) m c]).run Tryd.prog w = .ok (.slice (some ⟨g, 0, none⟩) (n + m) cap) w' ∧ w'.ownsRow base e 1 (.slice (some ⟨g, 0, none⟩) (n + m) cap) (n + m) (xs ++ news) ∧ Grew w w' v g := by
  have hown' := hown
  obtain ⟨hlen, hcase⟩ := hown
  rcases hcase with ⟨rfl, rfl⟩ | ⟨g, cap, cur, rfl, hg1, hg2, hg3, hg4, hg5, hg6⟩
  · obtain rfl : xs = [] := List.eq_nil_of_length_eq_zero (by simpa using hlen)
    obtain ⟨v', w', hrun, r1, r2, _⟩ := run_append_own (P := Tryd.prog) w w.heap.size t ty e i z 1 bytes ht hi hz hsize hby hzs (by decide) (.slice none 0 0) 0 [] (World.ownsRow_nil w _ e 1) ad m c news hl hnews h1 h63 hbytes (Nat.le_refl _)
    obtain ⟨g, cap, rfl, hg, _⟩ := r1.form (by omega)
    exact ⟨g, cap, w', hrun, own_mono r1 hbase, .inl ⟨r2, hg⟩⟩
  · by_cases hr : n + m ≤ cap
    · obtain ⟨w', hrun, r1, r2⟩ := run_append_own_spare (P := Tryd.prog) w base t ty e i 1 ht hi hsize g n cap xs hown' ad m c news hl hnews h1 hr
      exact ⟨g, cap, w', hrun, r1, .inr ⟨rfl, r2⟩⟩
    · obtain ⟨v', w', hrun, r1, r2⟩ := run_append_arg_grows (P := Tryd.prog) w t ty e i z 1 bytes ht hi hz hsize hby hzs (by decide) ⟨g, 0, none⟩ n cap xs hlen (own_cells hown') ad m c news hl hnews (by omega) h63 hbytes
      obtain ⟨g', cap', rfl, hg, _⟩ := r1.form (by omega)
      exact ⟨g', cap', w', hrun, own_mono r1 hbase, .inl ⟨r2, hg⟩⟩
theorem app_step {ops : Array Oper} {o : Oper} {a : Go.Act} {w : World} {K : Go.Act → World → Prop} {Q : Exit → Go.Act → World → Prop} {E : Prop} (hgd : o.guard = none) (s x : Operand) (t : TypeId)
    (ho : o.op = .call { callee := .builtin .append, args := #[s, x], argTypes := #[t, t] })
    (base : Nat) (e : TypeId) (i : TypeInfo) (z : Value) (bytes : Nat) (ht : Tryd.prog.underlying t = some (.slice e)) (hi : Tryd.prog.info? e = some i) (hz : i.zero = some z)
    (hsize : i.size = 1) (hby : i.bytes = bytes) (hzs : z.cells.size = 1)
    (v : Value) (n : Nat) (xs : List Value) (hs : a.eval s = v) (hown : w.ownsRow base e 1 v n xs)
    (ad : Addr) (m c : Nat) (news : List Value) (hx : a.eval x = .slice (some ad) m c) (hl : news.length = m * 1) (hnews : ∀ j u, news[j]? = some u → w.cell? (ad.add j) = some u) (h1 : ∀ u ∈ news, u.oneCell' = true)
    (hm : 0 < m) (h63 : n + m ≤ maxLen) (hbytes : (n + m) * bytes ≤ 140737488355328) (hbase : base ≤ w.heap.size)
    (h : ∀ g cap w', w'.ownsRow base e 1 (.slice (some ⟨g, 0, none⟩) (n + m) cap) (n + m) (xs ++ news) → Grew w w' v g → K (a.put o.dst (.slice (some ⟨g, 0, none⟩) (n + m) cap)) w') :
    if Region.wanted o (yielded ops a.tmps) = true then Oper.wp Tryd.prog o a w K Q else E := by
  have hw : Region.wanted o (yielded ops a.tmps) = true := by simp [Region.wanted, hgd]
  rw [if_pos hw]
  obtain ⟨g, cap, w', hrun, r1, r2⟩ := app_run w t o.type base e i z bytes ht hi hz hsize hby hzs v n xs hown ad m c news hl hnews h1 hm h63 hbytes hbase
  unfold Oper.wp
  simp [execOp, ho, resolve, invoke, builtin, hs, hx, hrun, Result.andThen]
  exact h g cap w' r1 r2
/-- a copy of a table's pages -/
theorem pcopy_run (w : World) (ty : TypeId) {bw n cap : Nat} {S : Nat → Int × Int × Int} (hr : PRow w bw n S) (h1 : 1 ≤ n) (h2 : n ≤ 4096) :
    ∃ g cap' w', (Builtin.append_ #[37, 37] ty #[.slice none 0 0, .slice (some ⟨bw, 0, none⟩) n cap]).run Tryd.prog w = .ok (.slice (some ⟨g, 0, none⟩) n cap') w' ∧ Out 0 0 w w' ∧ ListIs w' w.heap.size (.slice (some ⟨g, 0, none⟩) n cap') (pgl S n) := by
  obtain ⟨i0, hi0, hz0, hz1, hz2⟩ := info_parts info_page
  have hnews : ∀ j u, (pgs (pgl S n))[j]? = some u → w.cell? ((⟨bw, 0, none⟩ : Addr).add j) = some u := by
    intro j u hj
    have hjk : j < n * 3 := by
      have := (List.getElem?_eq_some_iff.1 hj).1
      rw [pgs_len, pgl_len] at this
      exact this
    rw [pgs_cell S n hjk] at hj
    cases hj
    rw [Addr.add_lit, Nat.zero_add]
    exact Row.cell hr hjk
  obtain ⟨v', w', hrun, r1, r2, r3⟩ := run_append_own (P := Tryd.prog) w w.heap.size 37 ty 45 i0 (.agg #[.int .i64 0, .int .i64 0, .int .i64 0]) 3 24 Tryd.underlying37 hi0 hz0 hz1 hz2 rfl (by decide) (.slice none 0 0) 0 [] (World.ownsRow_nil w _ _ 3) ⟨bw, 0, none⟩ n cap (pgs (pgl S n)) (by rw [pgs_len, pgl_len]) hnews (pgs_one _) (by unfold maxLen; omega) (by omega) (Nat.le_refl _)
  rw [Nat.zero_add, List.nil_append] at r1
  obtain ⟨g, cap', rfl, hg, _⟩ := r1.form (by omega)
  refine ⟨g, cap', w', hrun, ⟨r2.os, r2.tape, r2.output, r2.size, fun k hk _ => r2.block k hk (by simp [Value.ownBlock])⟩, ?_⟩
  show World.ownsRow _ _ _ _ _ _ _
  rw [pgl_len]; exact r1
theorem pcopy_step {ops : Array Oper} {o : Oper} {a : Go.Act} {w : World} {K : Go.Act → World → Prop} {Q : Exit → Go.Act → World → Prop} {E : Prop} (hgd : o.guard = none) (x : Operand)
    (ho : o.op = .call { callee := .builtin .append, args := #[.const (.slice none 0 0), x], argTypes := #[37, 37] })
    {bw n cap : Nat} {S : Nat → Int × Int × Int} (hx : a.eval x = .slice (some ⟨bw, 0, none⟩) n cap) (hr : PRow w bw n S) (h1 : 1 ≤ n) (h2 : n ≤ 4096)
    (h : ∀ g cap' w', Out 0 0 w w' → ListIs w' w.heap.size (.slice (some ⟨g, 0, none⟩) n cap') (pgl S n) → K (a.put o.dst (.slice (some ⟨g, 0, none⟩) n cap')) w') :
    if Region.wanted o (yielded ops a.tmps) = true then Oper.wp Tryd.prog o a w K Q else E := by
  have hw : Region.wanted o (yielded ops a.tmps) = true := by simp [Region.wanted, hgd]
  rw [if_pos hw]
  obtain ⟨g, cap', w', hrun, r1, r2⟩ := pcopy_run w o.type (cap := cap) hr h1 h2
  have hs : a.eval (.const (.slice none 0 0)) = .slice none 0 0 := rfl
  unfold Oper.wp
  simp [execOp, ho, resolve, invoke, builtin, hs, hx, hrun, Result.andThen]
  exact h g cap' w' r1 r2
/-- a new list gets a colour -/
theorem Keep.arrive {B : Nat} {w w' : World} {b : Nat} {vT vR vL vW vS vM : Value} {L Wr Ls : List Value} {Mk : List Nat} {C : Nat → List (Int × Int × Int)} {col : Nat → Nat} {p : Nat} {u : Bool} {v : Value} {c : List (Int × Int × Int)}
    (h : Keep B w b vT vR vL vW vS vM L Wr Ls Mk C col none p u) (o : Out 0 0 w w') (hl : ListIs w' w.heap.size v c) (cc : Nat) :
    ∃ col', (∀ x, x < w.heap.size → col' x = col x) ∧ Keep B w' b vT vR vL vW vS vM L Wr Ls Mk C col' none p u ∧ ListIs w' B v c ∧ ∀ x, v.ownBlock = some x → col' x = cc := by
  have hl2 : ListIs w' B v c := own_mono hl h.hB
  cases hb : v.ownBlock with
  | none => exact ⟨col, fun _ _ => rfl, h.quiet o, hl2, fun x hx => by cases hx⟩
  | some g =>
    have hg := (hl.lt g hb).1
    refine ⟨upd col g cc, fun x hx => upd_other (by omega), (h.recol (upd col g cc) fun x hx _ => upd_other (by omega)).quiet o, hl2, fun x hx => ?_⟩
    cases hx
    exact upd_self _ _ _
theorem Fix.arrive {c0 c1 c2 : Nat → Nat} {a b c : World} (h : Fix c0 c1 a b) (o : Out 0 0 b c) (e : ∀ x, x < b.heap.size → c2 x = c1 x) : Fix c0 c2 a c :=
  h.trans (Fix.of (P := fun c => c = 8) (Chg.of_out o _ _) (by decide) (fun k hk h7 => by rw [e k hk]; exact h7))
theorem two_cells (w : World) (x y : Value) (T : TypeId) : ∀ j u, [x, y][j]? = some u → (w.alloc (.cells #[x, y] T)).cell? ((⟨w.heap.size, 0, none⟩ : Addr).add j) = some u := by
  intro j u h
  have hb := heap_alloc_new w (.cells #[x, y] T)
  have hj : j < 2 := by have := (List.getElem?_eq_some_iff.1 h).1; simpa using this
  have hj' : j = 0 ∨ j = 1 := by omega
  rw [Addr.add_lit, Nat.zero_add]
  simp only [World.cell?, hb]
  rcases hj' with rfl | rfl <;> simpa using h
theorem two_one {x y : Value} (hx : x.oneCell' = true) (hy : y.oneCell' = true) : ∀ u ∈ [x, y], u.oneCell' = true := by
  intro u hu; simp at hu; rcases hu with rfl | rfl <;> assumption
/-- two lists are left -/
theorem left_two {B : Nat} {w w2 w3 w4 w5 w6 : World} {b : Nat} {vT vR vL vW vS vM : Value} {L Wr Ls : List Value} {Mk : List Nat} {C : Nat → List (Int × Int × Int)} {col : Nat → Nat} {c : List (Int × Int × Int)} {l v1 v2 : Value} {g cap : Nat}
    (h : Keep B w b vT vR vL vW vS vM L Wr Ls Mk C col none 0 true) (hlen : Wr.length = L.length) (hc : c.length ≤ 64)
    (o2 : Out 0 0 w w2) (hl : ListIs w2 w.heap.size l c) (o3 : Out 0 0 w2 w3) (h1 : ListIs w3 w2.heap.size v1 c) (o4 : Out 0 0 w3 w4) (h2 : ListIs w4 w3.heap.size v2 c) (o5 : Out 0 0 w4 w5)
    (own : w6.ownsRow B 37 1 (.slice (some ⟨g, 0, none⟩) (L.length + 2) cap) (L.length + 2) (L ++ [v1, v2])) (gr : Grew w5 w6 vL g) :
    w6.heap[b]? = some (.cells #[vT, vR, vL, vW, vS, vM] 59 (0, 0)) ∧ ∃ col', Fix col col' w (w6.setCell ⟨b, 2, none⟩ (.slice (some ⟨g, 0, none⟩) (L.length + 2) cap)) ∧
      Keep B (w6.setCell ⟨b, 2, none⟩ (.slice (some ⟨g, 0, none⟩) (L.length + 2) cap)) b vT vR (.slice (some ⟨g, 0, none⟩) (L.length + 2) cap) vW vS vM (L ++ [v1, v2]) Wr Ls Mk (fun k => if k < L.length then C k else c) col' none 0 true ∧
      ListIs (w6.setCell ⟨b, 2, none⟩ (.slice (some ⟨g, 0, none⟩) (L.length + 2) cap)) B l c ∧ (∀ x, l.ownBlock = some x → col' x = 8) := by
  have k0 := h.setC (C' := fun k => if k < L.length then C k else c) (fun i hi => if_pos hi) (by omega)
  obtain ⟨cA, eA, kA, lA, bA⟩ := k0.arrive o2 hl 8
  obtain ⟨cB, eB, kB, lB, bB⟩ := kA.arrive o3 h1 (20 + (L.length + 0))
  obtain ⟨cC, eC, kC, lC, bC⟩ := kB.arrive o4 h2 (20 + (L.length + 1))
  have fA : Fix col cA w w2 := (Fix.refl col w).arrive o2 eA
  have fB : Fix col cB w w3 := fA.arrive o3 eB
  have fC : Fix col cC w w4 := fB.arrive o4 eC
  have lA4 : ListIs w4 B l c := (lA.kept o3 (Nat.zero_le _)).kept o4 (Nat.zero_le _)
  have lB4 : ListIs w4 B v1 c := lB.kept o4 (Nat.zero_le _)
  have bA4 : ∀ x, l.ownBlock = some x → cC x = 8 := fun x hx => by
    have x2 := (lA.lt x hx).2
    rw [eC x (Nat.lt_of_lt_of_le x2 o3.size), eB x x2, bA x hx]
  have bB4 : ∀ x, v1.ownBlock = some x → cC x = 20 + (L.length + 0) := fun x hx => by
    have x2 := (lB.lt x hx).2
    rw [eC x x2, bB x hx]
  have hq : ∀ (i : Nat) (x : Value), [v1, v2][i]? = some x → ListIs w4 B x ((fun k => if k < L.length then C k else c) (L.length + i)) ∧ ((fun k => if k < L.length then C k else c) (L.length + i)).length ≤ 64 ∧ ∀ y, x.ownBlock = some y → cC y = 20 + (L.length + i) := by
    intro i x hx
    have e0 : (fun k => if k < L.length then C k else c) (L.length + i) = c := if_neg (by omega)
    rw [e0]
    have hi : i < 2 := by have := (List.getElem?_eq_some_iff.1 hx).1; simpa using this
    have hi' : i = 0 ∨ i = 1 := by omega
    rcases hi' with rfl | rfl
    · simp at hx; subst hx; exact ⟨lB4, hc, bB4⟩
    · simp at hx; subst hx; exact ⟨lC, hc, bC⟩
  obtain ⟨r1, r2, r3, r4⟩ := kC.pushL (xs := [v1, v2]) o5 own gr rfl hq
  refine ⟨r1, upd cC g 1, fC.trans (Fix.of r3 (by decide) (fun k hk h7 => by rw [r2 k hk]; exact h7)), r4, r3.list lA4 (fun x hx => by rw [bA4 x hx]; decide), fun x hx => ?_⟩
  rw [r2 x (lA4.lt x hx).2, bA4 x hx]
/-- and what they were -/
theorem were_two {B : Nat} {w w3 w4 w5 w6 : World} {b : Nat} {vT vR vL vW vS vM : Value} {L Wr Ls : List Value} {Mk : List Nat} {C : Nat → List (Int × Int × Int)} {col : Nat → Nat} {c : List (Int × Int × Int)} {l v1 v2 : Value} {g cap : Nat}
    (h : Keep B w b vT vR vL vW vS vM L Wr Ls Mk C col none 0 true) (hC : C (Wr.length + 0) = c ∧ C (Wr.length + 1) = c) (hl : ListIs w B l c) (hb : ∀ x, l.ownBlock = some x → col x = 8)
    (o3 : Out 0 0 w w3) (h1 : ListIs w3 w.heap.size v1 c) (o4 : Out 0 0 w3 w4) (h2 : ListIs w4 w3.heap.size v2 c) (o5 : Out 0 0 w4 w5)
    (own : w6.ownsRow B 37 1 (.slice (some ⟨g, 0, none⟩) (Wr.length + 2) cap) (Wr.length + 2) (Wr ++ [v1, v2])) (gr : Grew w5 w6 vW g) :
    w6.heap[b]? = some (.cells #[vT, vR, vL, vW, vS, vM] 59 (0, 0)) ∧ ∃ col', Fix col col' w (w6.setCell ⟨b, 3, none⟩ (.slice (some ⟨g, 0, none⟩) (Wr.length + 2) cap)) ∧
      Keep B (w6.setCell ⟨b, 3, none⟩ (.slice (some ⟨g, 0, none⟩) (Wr.length + 2) cap)) b vT vR vL (.slice (some ⟨g, 0, none⟩) (Wr.length + 2) cap) vS vM L (Wr ++ [v1, v2]) Ls Mk C col' none 0 true ∧
      ListIs (w6.setCell ⟨b, 3, none⟩ (.slice (some ⟨g, 0, none⟩) (Wr.length + 2) cap)) B l c ∧ (∀ x, l.ownBlock = some x → col' x = 8) := by
  obtain ⟨cB, eB, kB, lB, bB⟩ := h.arrive o3 h1 6
  obtain ⟨cC, eC, kC, lC, bC⟩ := kB.arrive o4 h2 6
  have fB : Fix col cB w w3 := (Fix.refl col w).arrive o3 eB
  have fC : Fix col cC w w4 := fB.arrive o4 eC
  have l4 : ListIs w4 B l c := (hl.kept o3 (Nat.zero_le _)).kept o4 (Nat.zero_le _)
  have lB4 : ListIs w4 B v1 c := lB.kept o4 (Nat.zero_le _)
  have b4 : ∀ x, l.ownBlock = some x → cC x = 8 := fun x hx => by
    have x2 := (hl.lt x hx).2
    rw [eC x (Nat.lt_of_lt_of_le x2 o3.size), eB x x2, hb x hx]
  have bB4 : ∀ x, v1.ownBlock = some x → cC x = 6 := fun x hx => by
    have x2 := (lB.lt x hx).2
    rw [eC x x2, bB x hx]
  have were : ∀ v, ListIs w4 B v c → (∀ x, v.ownBlock = some x → cC x = 6) → Were w4 cC v c := fun v hv hc => by
    obtain ⟨a, cap, e, hr⟩ := list_shape hv
    exact ⟨a, cap, e, fun h0 => by obtain ⟨g, g0, g1, g2, g3⟩ := hr h0; exact ⟨g, g0, g2, hc g g1, g3⟩⟩
  have hq : ∀ (i : Nat) (x : Value), [v1, v2][i]? = some x → Were w4 cC x (C (Wr.length + i)) := by
    intro i x hx
    have hi : i < 2 := by have := (List.getElem?_eq_some_iff.1 hx).1; simpa using this
    have hi' : i = 0 ∨ i = 1 := by omega
    rcases hi' with rfl | rfl
    · simp at hx; subst hx; rw [hC.1]; exact were _ lB4 bB4
    · simp at hx; subst hx; rw [hC.2]; exact were _ lC bC
  obtain ⟨r1, r2, r3, r4⟩ := kC.pushW (xs := [v1, v2]) o5 own gr rfl hq
  refine ⟨r1, upd cC g 2, fC.trans (Fix.of r3 (by decide) (fun k hk h7 => by rw [r2 k hk]; exact h7)), r4, r3.list l4 (fun x hx => by rw [b4 x hx]; decide), fun x hx => ?_⟩
  rw [r2 x (l4.lt x hx).2, b4 x hx]
end Go.Proofs.YtfkmaanfgkkjcaaDoor
