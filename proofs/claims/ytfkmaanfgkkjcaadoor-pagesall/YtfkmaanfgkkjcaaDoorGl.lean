/- a pair: blocks by colours -/
import Derived.Test.YtfkmaanfgkkjcaaDoorGk
namespace Go.Proofs.YtfkmaanfgkkjcaaDoor
open Go.RowKit
set_option linter.unusedVariables false
set_option linter.unusedSimpArgs false

/-! an append: in its own row, or in a block that is new (then all blocks are as they were) -/
def Grew (w w' : World) (v : Value) (g : Nat) : Prop := (w.grownBy w' none ∧ w.heap.size ≤ g) ∨ (v.ownBlock = some g ∧ w.grownBy w' (some g))
theorem app_law {ops : Array Oper} {rest : List Oper} {o : Oper} {a : Act} {Q : Exit → Act → World → Prop} (w : World) (hgd : o.guard = none) (s x : Operand) (t : TypeId)
    (ho : o.op = .call { callee := .builtin .append, args := #[s, x], argTypes := #[t, t] })
    (base : Nat) (e : TypeId) (i : TypeInfo) (z : Value) (sz bytes : Nat) (ht : Tryd.prog.underlying t = some (.slice e)) (hi : Tryd.prog.info? e = some i) (hz : i.zero = some z)
    (hsize : i.size = sz) (hby : i.bytes = bytes) (hzs : z.cells.size = sz) (hsz : 0 < sz)
    (v : Value) (n : Nat) (xs : List Value) (hs : a.eval s = v) (hown : w.ownsRow base e sz v n xs)
    (ad : Addr) (m c : Nat) (news : List Value) (hx : a.eval x = .slice (some ad) m c) (hl : news.length = m * sz) (hnews : ∀ j u, news[j]? = some u → w.cell? (ad.add j) = some u) (h1 : ∀ u ∈ news, u.oneCell' = true)
    (hm : 0 < m) (h63 : n + m ≤ maxLen) (hbytes : (n + m) * bytes ≤ 140737488355328) (hbase : base ≤ w.heap.size)
    (h : ∀ g cap w', w'.ownsRow base e sz (.slice (some ⟨g, 0, none⟩) (n + m) cap) (n + m) (xs ++ news) → Grew w w' v g → wpList Tryd.prog ops Q rest (a.put o.dst (.slice (some ⟨g, 0, none⟩) (n + m) cap)) w') : wpList Tryd.prog ops Q (o :: rest) a w := by
  have fin : ∀ v' w', w'.ownsRow w.heap.size e sz v' (n + m) (xs ++ news) → w.grownBy w' none → wpList Tryd.prog ops Q rest (a.put o.dst v') w' := by
    intro v' w' r1 r2
    obtain ⟨g, cap, rfl, hg, _⟩ := r1.form (by omega)
    exact h g cap w' (own_mono r1 hbase) (.inl ⟨r2, hg⟩)
  have hown' := hown
  obtain ⟨hlen, hcase⟩ := hown
  rcases hcase with ⟨rfl, rfl⟩ | ⟨g, cap, cur, rfl, hg1, hg2, hg3, hg4, hg5, hg6⟩
  · exact wpList_append_grows w hgd s x t ho e i z sz bytes ht hi hz hsize hby hzs hsz none 0 0 xs hs (fun _ => ⟨rfl, rfl⟩) hlen (fun b hb => by cases hb) ad m c news hx hl hnews h1 (by omega) h63 hbytes fin
  · by_cases hr : n + m ≤ cap
    · exact wpList_append_own_spare w hgd s x t ho base e i sz ht hi hsize g n cap xs hs hown' ad m c news hx hl hnews h1 hr fun w' r1 r2 => h g cap w' r1 (.inr ⟨rfl, r2⟩)
    · exact wpList_append_grows w hgd s x t ho e i z sz bytes ht hi hz hsize hby hzs hsz (some ⟨g, 0, none⟩) n cap xs hs (fun e => by cases e) hlen (fun b hb => by cases hb; exact hown'.cells (g := g) rfl) ad m c news hx hl hnews h1 (by omega) h63 hbytes fin

/-! the world but for blocks of some colours, and new ones -/
def Chg (col : Nat → Nat) (P : Nat → Prop) (w w' : World) : Prop :=
  w'.os = w.os ∧ w'.tape = w.tape ∧ w'.output = w.output ∧ w.heap.size ≤ w'.heap.size ∧ ∀ k, k < w.heap.size → ¬ P (col k) → w'.heap[k]? = w.heap[k]?
theorem Chg.size {col : Nat → Nat} {P : Nat → Prop} {w w' : World} (h : Chg col P w w') : w.heap.size ≤ w'.heap.size := h.2.2.2.1
theorem Chg.of_out {w w' : World} (h : Out 0 0 w w') (col : Nat → Nat) (P : Nat → Prop) : Chg col P w w' := ⟨h.1, h.2.1, h.2.2.1, h.size, fun k hk _ => h.block hk (.inr (Nat.zero_le _))⟩
theorem Chg.trans {col : Nat → Nat} {P : Nat → Prop} {a b c : World} (h : Chg col P a b) (g : Chg col P b c) : Chg col P a c :=
  ⟨g.1.trans h.1, g.2.1.trans h.2.1, g.2.2.1.trans h.2.2.1, Nat.le_trans h.size g.size, fun k hk hp => (g.2.2.2.2 k (Nat.lt_of_lt_of_le hk h.size) hp).trans (h.2.2.2.2 k hk hp)⟩
theorem Chg.mono {col : Nat → Nat} {P R : Nat → Prop} {a b : World} (h : Chg col P a b) (hr : ∀ c, P c → R c) : Chg col R a b :=
  ⟨h.1, h.2.1, h.2.2.1, h.size, fun k hk hp => h.2.2.2.2 k hk (fun q => hp (hr _ q))⟩
theorem Chg.heap {col : Nat → Nat} {P : Nat → Prop} {w w' : World} (h : Chg col P w w') {k : Nat} {o : Obj} (hb : w.heap[k]? = some o) (hp : ¬ P (col k)) : w'.heap[k]? = some o :=
  (h.2.2.2.2 k (heap_lt hb) hp).trans hb
theorem cell_lt {w : World} {b o : Nat} {v : Value} (h : w.cell? ⟨b, o, none⟩ = some v) : b < w.heap.size := by
  by_cases hb : b < w.heap.size
  · exact hb
  · have : w.heap[b]? = none := by simp; omega
    simp [World.cell?, this] at h
theorem Chg.cell {col : Nat → Nat} {P : Nat → Prop} {w w' : World} (h : Chg col P w w') {k i : Nat} {v : Value} (hb : w.cell? ⟨k, i, none⟩ = some v) (hp : ¬ P (col k)) : w'.cell? ⟨k, i, none⟩ = some v := by
  rw [World.cell?_of_block (w := w) (a := ⟨k, i, none⟩) (h.2.2.2.2 k (cell_lt hb) hp)]
  exact hb
theorem Chg.setCell {col : Nat → Nat} {P : Nat → Prop} {w w' : World} (h : Chg col P w w') {p : Addr} (hp : P (col p.block)) (u : Value) : Chg col P w (w'.setCell p u) := by
  refine ⟨h.1, h.2.1, h.2.2.1, by have := h.size; simpa [World.setCell] using this, fun k hk hq => ?_⟩
  rw [Below.heap_setCell _ _ _ _ (by intro e; subst e; exact hq hp)]
  exact h.2.2.2.2 k hk hq
theorem Chg.grew {col : Nat → Nat} {P : Nat → Prop} {w w' : World} {v : Value} {g : Nat} (h : Grew w w' v g) (hp : ∀ x, v.ownBlock = some x → P (col x)) : Chg col P w w' := by
  rcases h with ⟨h, _⟩ | ⟨e, h⟩
  · exact ⟨h.os, h.tape, h.output, h.size, fun k hk _ => h.block k hk (by simp)⟩
  · exact ⟨h.os, h.tape, h.output, h.size, fun k hk hq => h.block k hk (fun e' => by cases e'; exact hq (hp _ e))⟩
theorem Chg.below {col : Nat → Nat} {P : Nat → Prop} {w w' : World} {B : Nat} (h : Chg col P w w') (hB : ∀ k, k < B → ¬ P (col k)) (hs : B ≤ w.heap.size) : Below B w w' := ⟨h.1, h.2.1, h.2.2.1, h.size, fun k hk => h.2.2.2.2 k (by omega) (hB k hk)⟩
theorem Chg.own {col : Nat → Nat} {P : Nat → Prop} {w w' : World} {B n sz : Nat} {T : TypeId} {v : Value} {xs : List Value} (h : Chg col P w w') (hw : w.ownsRow B T sz v n xs) (hp : ∀ x, v.ownBlock = some x → ¬ P (col x)) : w'.ownsRow B T sz v n xs := by
  obtain ⟨h1, h2⟩ := hw
  refine ⟨h1, ?_⟩
  rcases h2 with h2 | ⟨g, cap, cur, rfl, hg, hh, r⟩
  · exact .inl h2
  · exact .inr ⟨g, cap, cur, rfl, hg, h.heap hh (hp g rfl), r⟩
def ints (l : List Nat) : List Value := l.map (fun (x : Nat) => Value.int .i64 (x : Int))
theorem Chg.page {col : Nat → Nat} {P : Nat → Prop} {w w' : World} (h : Chg col P w w') {g i : Nat} {p : Int × Int × Int} (hb : PgAt w g i p) (hp : ¬ P (col g)) : PgAt w' g i p := ⟨h.cell hb.1 hp, h.cell hb.2.1 hp, h.cell hb.2.2 hp⟩
/-- the other list of a quiet one -/
def Were (w : World) (col : Nat → Nat) (v : Value) (l : List (Int × Int × Int)) : Prop := ∃ a cap, v = .slice a l.length cap ∧ (0 < l.length → ∃ g, a = some ⟨g, 0, none⟩ ∧ g < w.heap.size ∧ col g = 6 ∧ ∀ i p, l[i]? = some p → PgAt w g i p)
theorem Were.slice {w : World} {col : Nat → Nat} {v : Value} {l : List (Int × Int × Int)} (h : Were w col v l) : SliceIs w v l := by
  obtain ⟨a, cap, e, hr⟩ := h
  exact ⟨a, cap, e, fun h0 => by obtain ⟨g, g0, g1, g2, g3⟩ := hr h0; exact ⟨g, g0, g1, g3⟩⟩
/-- a marked page -/
def pm (m : Nat) : Int × Int × Int := (-(m : Int), 0, 0)
/-- a list that is full of a mark: in a block of its colour, or in the one that grows -/
def FullC (w : World) (col : Nat → Nat) (cur : Option (Nat × Nat × Nat)) (v : Value) (m : Nat) : Prop :=
  ∃ a n cap, v = .slice a n cap ∧ (n ≤ 200 ∧ m ≤ 3000) ∧ (0 < n → ∃ g, a = some ⟨g, 0, none⟩ ∧ ((g < w.heap.size ∧ col g = 5 ∧ ∀ j, j < n → PgAt w g j (pm m)) ∨ ∃ N, cur = some (g, N, m) ∧ n ≤ N))
structure Keep (B : Nat) (w : World) (b : Nat) (vT vR vL vW vS vM : Value) (L Wr Ls : List Value) (Mk : List Nat) (C : Nat → List (Int × Int × Int)) (col : Nat → Nat) (cur : Option (Nat × Nat × Nat)) (p : Nat) (u : Bool) : Prop where
  lo : ∀ k, k < B → col k = 7
  hB : B ≤ w.heap.size
  hb : w.heap[b]? = some (.cells #[vT, vR, vL, vW, vS, vM] 59 (0, 0))
  cb : col b = 0
  oL : w.ownsRow B 37 1 vL L.length L
  oW : w.ownsRow B 37 1 vW Wr.length Wr
  oS : w.ownsRow B 37 1 vS Ls.length Ls
  oM : w.ownsRow B 3 1 vM Mk.length (ints Mk)
  cL : ∀ x, vL.ownBlock = some x → col x = 1
  cW : ∀ x, vW.ownBlock = some x → col x = 2
  cS : ∀ x, vS.ownBlock = some x → col x = 3
  cM : ∀ x, vM.ownBlock = some x → col x = 4
  q : ∀ (i : Nat) (v : Value), p ≤ i → L[i]? = some v → ListIs w B v (C i) ∧ (C i).length ≤ 64 ∧ ∀ x, v.ownBlock = some x → col x = 20 + i
  wr : u = true → ∀ (i : Nat) (v : Value), Wr[i]? = some v → Were w col v (C i)
  f : ∀ (i : Nat) (v : Value) (m : Nat), Ls[i]? = some v → Mk[i]? = some m → FullC w col cur v m
theorem Chg.list {col : Nat → Nat} {P : Nat → Prop} {w w' : World} {B : Nat} {v : Value} {l : List (Int × Int × Int)} (h : Chg col P w w') (hw : ListIs w B v l) (hp : ∀ x, v.ownBlock = some x → ¬ P (col x)) : ListIs w' B v l := h.own hw hp
theorem Chg.were {col : Nat → Nat} {P : Nat → Prop} {w w' : World} {v : Value} {l : List (Int × Int × Int)} (h : Chg col P w w') (hw : Were w col v l) (hp : ¬ P 6) : Were w' col v l := by
  obtain ⟨a, cap, e, hr⟩ := hw
  refine ⟨a, cap, e, fun h0 => ?_⟩
  obtain ⟨g, g0, g1, g2, g3⟩ := hr h0
  exact ⟨g, g0, Nat.lt_of_lt_of_le g1 h.size, g2, fun i p hi => h.page (g3 i p hi) (by rw [g2]; exact hp)⟩
theorem Chg.full {col : Nat → Nat} {P : Nat → Prop} {w w' : World} {cur : Option (Nat × Nat × Nat)} {v : Value} {m : Nat} (h : Chg col P w w') (hw : FullC w col cur v m) (hp : ¬ P 5) : FullC w' col cur v m := by
  obtain ⟨a, n, cap, e, hn, hr⟩ := hw
  refine ⟨a, n, cap, e, hn, fun h0 => ?_⟩
  obtain ⟨g, g0, hg⟩ := hr h0
  refine ⟨g, g0, ?_⟩
  rcases hg with ⟨g1, g2, g3⟩ | hg
  · exact .inl ⟨Nat.lt_of_lt_of_le g1 h.size, g2, fun i hi => h.page (g3 i hi) (by rw [g2]; exact hp)⟩
  · exact .inr hg
end Go.Proofs.YtfkmaanfgkkjcaaDoor
