import Derived.Test.YtjbbkeoolodeaabDoorRows
import Derived.Test.YtjbbkeoolodeaabDoorChecked
import Derived.WalkKit
import Derived.Carry
import Derived.OwnWalk
import Derived.Deep.RegionHeld3
import Derived.Deep.OwnRows
import Derived.Lib.TrailingZeros
import Derived.Lib.SliceRun
import Derived.Deep.AppendLies
import Derived.ArgAppend
import Derived.Deep.DeepAppendRoom
namespace Go.Proofs.YtjbbkeoolodeaabDoor
open Go.RowKit
set_option linter.unusedVariables false
set_option linter.unusedSimpArgs false

theorem hid_mk {p : Prop} (h : p) : Hid p := h
theorem ret_int {k : IntKind} {a b : Int} (h : a = b) : Ending.returned (.int k a) = .returned (.int k b) := by rw [h]
theorem ret_bool {a b : Bool} (h : a = b) : Ending.returned (.bool a) = .returned (.bool b) := by rw [h]
theorem ret_ib {k : IntKind} {a b : Int} {p q : Bool} (h : a = b) (g : p = q) : Ending.returned (.tuple #[.int k a, .bool p]) = .returned (.tuple #[.int k b, .bool q]) := by rw [h, g]
theorem calls_same {f : FuncId} {args : Array Value} {v : Value} {w : World} {Q : Ending → World → Prop} (h : Calls Tryd.prog f args w (fun e w' => e = .returned v ∧ w' = w)) (hq : Q (.returned v) w) : Calls Tryd.prog f args w Q :=
  h.mono fun _ _ ⟨he, hw⟩ => by rw [he, hw]; exact hq
theorem i64_bounds {n : Int} (h : (Lit.int .i64 n).wf = true) : -9223372036854775808 ≤ n ∧ n ≤ 9223372036854775807 := by
  simpa [Lit.wf, IntKind.min, IntKind.max, IntKind.signed, IntKind.bits] using h

/-- all blocks that were there are as they were, those from lo on below hi aside -/
def Out (lo hi : Nat) (w w' : World) : Prop :=
  w'.os = w.os ∧ w'.tape = w.tape ∧ w'.output = w.output ∧ w.heap.size ≤ w'.heap.size ∧ ∀ k, k < w.heap.size → (k < lo ∨ hi ≤ k) → w'.heap[k]? = w.heap[k]?
theorem Out.refl (lo hi : Nat) (w : World) : Out lo hi w w := ⟨rfl, rfl, rfl, Nat.le_refl _, fun _ _ _ => rfl⟩
theorem Out.size {lo hi : Nat} {w w' : World} (h : Out lo hi w w') : w.heap.size ≤ w'.heap.size := h.2.2.2.1
theorem Out.block {lo hi : Nat} {w w' : World} (h : Out lo hi w w') {k : Nat} (h1 : k < w.heap.size) (h2 : k < lo ∨ hi ≤ k) : w'.heap[k]? = w.heap[k]? := h.2.2.2.2 k h1 h2
theorem Out.trans {lo hi : Nat} {a b c : World} (h : Out lo hi a b) (g : Out lo hi b c) : Out lo hi a c :=
  ⟨g.1.trans h.1, g.2.1.trans h.2.1, g.2.2.1.trans h.2.2.1, Nat.le_trans h.size g.size, fun k h1 h2 => (g.block (Nat.lt_of_lt_of_le h1 h.size) h2).trans (h.block h1 h2)⟩
theorem Out.wide {lo hi lo' hi' : Nat} {w w' : World} (h : Out lo hi w w') (h1 : lo' ≤ lo) (h2 : hi ≤ hi') : Out lo' hi' w w' :=
  ⟨h.1, h.2.1, h.2.2.1, h.size, fun k a b => h.block a (by omega)⟩
/-- what lies beyond the first world's end counts for nothing -/
theorem Out.cut {lo hi : Nat} {w w' : World} (h : Out lo hi w w') (hl : w.heap.size ≤ lo) (a b : Nat) : Out a b w w' :=
  ⟨h.1, h.2.1, h.2.2.1, h.size, fun k h1 _ => h.block h1 (by omega)⟩
theorem Out.past {x y lo hi : Nat} {a b c : World} (h : Out x y a b) (g : Out lo hi b c) (hl : a.heap.size ≤ lo) : Out x y a c :=
  ⟨g.1.trans h.1, g.2.1.trans h.2.1, g.2.2.1.trans h.2.2.1, Nat.le_trans h.size g.size, fun k h1 h2 => (g.block (Nat.lt_of_lt_of_le h1 h.size) (.inl (by omega))).trans (h.block h1 h2)⟩
theorem Out.any {w w' : World} (h : Out 0 0 w w') (lo hi : Nat) : Out lo hi w w' :=
  ⟨h.1, h.2.1, h.2.2.1, h.size, fun k h1 _ => h.block h1 (by omega)⟩
theorem Out.of_below {w w' : World} (h : Below w.heap.size w w') (lo hi : Nat) : Out lo hi w w' := ⟨h.os, h.tape, h.output, h.size, fun k h1 _ => h.block k h1⟩
theorem Out.below {lo hi B : Nat} {w w' : World} (h : Out lo hi w w') (h1 : B ≤ lo) (h2 : B ≤ w.heap.size) : Below B w w' := ⟨h.1, h.2.1, h.2.2.1, h.size, fun k hk => h.block (by omega) (by omega)⟩
theorem Out.all {w w' : World} (h : Out 0 0 w w') : Below w.heap.size w w' := ⟨h.1, h.2.1, h.2.2.1, h.size, fun k hk => h.block hk (by omega)⟩
theorem Out.drew {lo hi : Nat} {a w : World} (h : Out lo hi a w) : Out lo hi a w.drew := ⟨h.1, h.2.1, h.2.2.1, h.size, h.2.2.2.2⟩
theorem Out.alloc {lo hi : Nat} {a w : World} (h : Out lo hi a w) (o : Obj) : Out lo hi a (w.alloc o) :=
  h.trans ⟨rfl, rfl, rfl, by simp, fun k h1 _ => Below.heap_alloc _ _ _ h1⟩
theorem Out.setCell {lo hi : Nat} {a w : World} (h : Out lo hi a w) {p : Addr} (hp : (lo ≤ p.block ∧ p.block < hi) ∨ a.heap.size ≤ p.block) (u : Value) : Out lo hi a (w.setCell p u) := by
  refine ⟨h.1, h.2.1, h.2.2.1, by have := h.size; simpa [World.setCell] using this, fun k h1 h2 => ?_⟩
  rw [Below.heap_setCell _ _ _ _ (by omega)]
  exact h.block h1 h2
theorem Out.cell {lo hi : Nat} {w w' : World} (h : Out lo hi w w') {b o : Nat} {v : Value} (hc : w.cell? ⟨b, o, none⟩ = some v) (h2 : b < lo ∨ hi ≤ b) : w'.cell? ⟨b, o, none⟩ = some v := by
  have hb : b < w.heap.size := by
    by_cases hb : b < w.heap.size
    · exact hb
    · have : w.heap[b]? = none := by simp; omega
      simp [World.cell?, this] at hc
  rw [World.cell?_of_block (w := w) (a := ⟨b, o, none⟩) (h.block hb h2)]
  exact hc
theorem heap_lt {w : World} {b : Nat} {o : Obj} (h : w.heap[b]? = some o) : b < w.heap.size := (Array.getElem?_eq_some_iff.1 h).1
theorem Out.heap {lo hi : Nat} {w w' : World} (h : Out lo hi w w') {b : Nat} {o : Obj} (hc : w.heap[b]? = some o) (h2 : b < lo ∨ hi ≤ b) : w'.heap[b]? = some o :=
  (h.block (heap_lt hc) h2).trans hc

/-- block b begins with k cells of type T, cell i holding 'f i', none frozen -/
def Row (w : World) (b : Nat) (T : TypeId) (k : Nat) (f : Nat → Value) : Prop :=
  ∃ c : Array Value, w.heap[b]? = some (.cells c T (0, 0)) ∧ k ≤ c.size ∧ ∀ i, i < k → c[i]? = some (f i)
theorem Row.cell {w : World} {b k : Nat} {T : TypeId} {f : Nat → Value} (h : Row w b T k f) {i : Nat} (hi : i < k) : w.cell? ⟨b, i, none⟩ = some (f i) := by
  obtain ⟨c, hb, _, hc⟩ := h
  simp [World.cell?, hb, hc i hi]
theorem Row.frozen {w : World} {b k : Nat} {T : TypeId} {f : Nat → Value} (h : Row w b T k f) (i : Nat) : w.frozen? ⟨b, i, none⟩ = false := by
  obtain ⟨c, hb, _, _⟩ := h
  simp [World.frozen?, hb]
theorem Row.lt {w : World} {b k : Nat} {T : TypeId} {f : Nat → Value} (h : Row w b T k f) : b < w.heap.size := by
  obtain ⟨c, hb, _, _⟩ := h
  exact heap_lt hb
theorem Row.of_block {w w' : World} {b k : Nat} {T : TypeId} {f : Nat → Value} (h : Row w b T k f) (e : w'.heap[b]? = w.heap[b]?) : Row w' b T k f := by
  obtain ⟨c, hb, hn, hc⟩ := h
  exact ⟨c, e.trans hb, hn, hc⟩
theorem Row.kept {w w' : World} {b k lo hi : Nat} {T : TypeId} {f : Nat → Value} (h : Row w b T k f) (g : Out lo hi w w') (h2 : b < lo ∨ hi ≤ b) : Row w' b T k f := h.of_block (g.block h.lt h2)
theorem Row.congr {w : World} {b k : Nat} {T : TypeId} {f g : Nat → Value} (h : Row w b T k f) (e : ∀ i, i < k → f i = g i) : Row w b T k g := by
  obtain ⟨c, hb, hn, hc⟩ := h
  exact ⟨c, hb, hn, fun i hi => by rw [hc i hi, e i hi]⟩
theorem Row.set {w : World} {b k : Nat} {T : TypeId} {f : Nat → Value} (h : Row w b T k f) (i : Nat) (v : Value) : Row (w.setCell ⟨b, i, none⟩ v) b T k (fun j => if j = i then v else f j) := by
  obtain ⟨c, hb, hn, hc⟩ := h
  refine ⟨c.setIfInBounds i v, ?_, by simpa using hn, fun j hj => ?_⟩
  · simp [World.setCell, Array.getElem?_modify, hb]
  · rw [Array.getElem?_setIfInBounds]
    by_cases e : j = i
    · subst e
      have : j < c.size := by omega
      simp [this]
    · rw [if_neg (fun h => e h.symm)]
      show c[j]? = some (if j = i then v else f j)
      rw [if_neg e]
      exact hc j hj

theorem below_seq {a b c : World} (h : Below a.heap.size a b) (g : Below b.heap.size b c) : Below a.heap.size a c := h.trans (g.mono h.size)
theorem calls_rel {P : Program} {f : FuncId} {args : Array Value} {w w0 : World} {post : Ending → Prop} (h : Calls P f args w (fun e w' => post e ∧ Below w.heap.size w w')) (h0 : Below w0.heap.size w0 w) :
    Calls P f args w (fun e w' => post e ∧ Below w0.heap.size w0 w') := h.mono fun _ _ ⟨he, hb⟩ => ⟨he, below_seq h0 hb⟩
/-- the words of an object of a kind that has no parts, and the most parts -/
def wd (k : Int) : Int := [0, 3, 2, 1, 2, 2, 1, 2, 3, 3, 3, 5, 1, 4].getD k.toNat 0
def mo (k : Int) : Int := [0, 0, 0, 1023, 4096, 0, 64, 0, 0, 0, 0, 128, 512, 0].getD k.toNat 0
/-! the variables of the packages: the table of shapes, the two states of pages, the library's table of bits -/
def Tab (w : World) : Prop := (∀ j : Nat, j < 3 → w.cell? ⟨3, j, none⟩ = some (.int .i64 0) ∧ w.cell? ⟨2, j, none⟩ = some (.int .i64 (if j = 0 then 3 else 0))) ∧
  (∀ j : Nat, j < 14 → w.cell? ⟨0, j * 2, none⟩ = some (.int .i64 (wd j)) ∧ w.cell? ⟨0, j * 2 + 1, none⟩ = some (.int .i64 (mo j))) ∧
  (∀ j, j < 64 → w.cell? ⟨1, j, none⟩ = some (.int .u8 (Lib.deBruijn64tab.getD j 0)))
theorem cell_lt {w : World} {b o : Nat} {v : Value} (hc : w.cell? ⟨b, o, none⟩ = some v) : b < w.heap.size := by
  by_cases hb : b < w.heap.size
  · exact hb
  · have : w.heap[b]? = none := by simp; omega
    simp [World.cell?, this] at hc
theorem Tab.lt {w : World} (h : Tab w) : 4 ≤ w.heap.size := by
  have h1 := cell_lt (h.1 0 (by omega)).1
  have h2 := cell_lt (h.1 0 (by omega)).2
  have h3 := cell_lt (h.2.1 0 (by omega)).1
  have h4 := cell_lt (h.2.2 0 (by omega))
  omega
theorem Tab.kept {w w' : World} {lo hi : Nat} (h : Tab w) (g : Out lo hi w w') (h2 : 4 ≤ lo ∨ hi = 0) : Tab w' :=
  ⟨fun j hj => ⟨g.cell (h.1 j hj).1 (by omega), g.cell (h.1 j hj).2 (by omega)⟩, fun j hj => ⟨g.cell (h.2.1 j hj).1 (by omega), g.cell (h.2.1 j hj).2 (by omega)⟩, fun j hj => g.cell (h.2.2 j hj) (by omega)⟩
theorem Tab.quiet {w w' : World} (h : Tab w) (g : Out 0 0 w w') : Tab w' := h.kept g (.inr rfl)
theorem Tab.f {w : World} (h : Tab w) : w.cell? ⟨3, 0, none⟩ = some (.int .i64 0) ∧ w.cell? ⟨3, 1, none⟩ = some (.int .i64 0) ∧ w.cell? ⟨3, 2, none⟩ = some (.int .i64 0) := ⟨(h.1 0 (by omega)).1, (h.1 1 (by omega)).1, (h.1 2 (by omega)).1⟩
theorem Tab.r {w : World} (h : Tab w) : w.cell? ⟨2, 0, none⟩ = some (.int .i64 3) ∧ w.cell? ⟨2, 1, none⟩ = some (.int .i64 0) ∧ w.cell? ⟨2, 2, none⟩ = some (.int .i64 0) := ⟨(h.1 0 (by omega)).2, (h.1 1 (by omega)).2, (h.1 2 (by omega)).2⟩
end Go.Proofs.YtjbbkeoolodeaabDoor
namespace Go.Proofs.YtjbbkeoolodeaabDoor
open Go.RowKit
set_option linter.unusedVariables false
set_option linter.unusedSimpArgs false

/-! the numbers: a page is its kind, its class, its run -/
def fld (p : Int × Int × Int) (j : Nat) : Int := if j = 0 then p.1 else if j = 1 then p.2.1 else p.2.2
def freeB (p : Int × Int × Int) : Bool := p.1 == 0
/-- what page i of n may be -/
def PgOk (n : Nat) (S : Nat → Int × Int × Int) (i : Nat) : Prop :=
  S i = (0, 0, 0) ∨ (∃ c : Int, 0 ≤ c ∧ c ≤ 7 ∧ S i = (1, c, 0)) ∨ (∃ k : Nat, 1 ≤ k ∧ k ≤ 16 ∧ i + k ≤ n ∧ S i = (2, 0, (k : Int)) ∧ ∀ j, i < j → j < i + k → S j = (3, 0, 0)) ∨
    (S i = (3, 0, 0) ∧ ∃ h k : Nat, h < i ∧ i < h + k ∧ S h = (2, 0, (k : Int)))
def Good (n : Nat) (S : Nat → Int × Int × Int) : Prop := ∀ i, i < n → PgOk n S i
theorem good_free (n : Nat) : Good n (fun _ => (0, 0, 0)) := fun _ _ => .inl rfl
theorem Good.free {n i : Nat} {S : Nat → Int × Int × Int} (h : Good n S) (hi : i < n) (hf : freeB (S i) = true) : S i = (0, 0, 0) := by
  unfold freeB at hf
  rcases h i hi with e | ⟨c, _, _, e⟩ | ⟨k, _, _, _, e, _⟩ | ⟨e, _⟩
  · exact e
  all_goals (rw [e] at hf; simp at hf)
/-- the shapes of a page, and no more -/
theorem Good.cases {n i : Nat} {S : Nat → Int × Int × Int} (h : Good n S) (hi : i < n) :
    S i = (0, 0, 0) ∨ (∃ c : Int, 0 ≤ c ∧ c ≤ 7 ∧ S i = (1, c, 0)) ∨ (∃ k : Nat, 1 ≤ k ∧ k ≤ 16 ∧ i + k ≤ n ∧ S i = (2, 0, (k : Int))) ∨ S i = (3, 0, 0) := by
  rcases h i hi with e | e | ⟨k, k1, k2, k3, e, _⟩ | ⟨e, _⟩
  · exact .inl e
  · exact .inr (.inl e)
  · exact .inr (.inr (.inl ⟨k, k1, k2, k3, e⟩))
  · exact .inr (.inr (.inr e))
/-- n pages from p on, all free -/
def allF (S : Nat → Int × Int × Int) (p n : Nat) : Bool := (List.range n).all fun i => freeB (S (p + i))
theorem allF_iff {S : Nat → Int × Int × Int} {p n : Nat} : allF S p n = true ↔ ∀ j, p ≤ j → j < p + n → freeB (S j) = true := by
  unfold allF
  rw [List.all_eq_true]
  constructor
  · intro h j h1 h2
    have := h (j - p) (by simp; omega)
    rwa [show p + (j - p) = j from by omega] at this
  · intro h x hx
    simp at hx
    exact h _ (by omega) (by omega)
/-- the lowest row of k free pages -/
def rowF (S : Nat → Int × Int × Int) (n k : Nat) : Option Nat := (List.range n).find? fun p => decide (p + k ≤ n) && allF S p k
theorem find_range_some {f : Nat → Bool} {n p : Nat} (hp : p < n) (hf : f p = true) (hl : ∀ q, q < p → f q = false) : (List.range n).find? f = some p := by
  rw [List.find?_range_eq_some]
  exact ⟨hf, by simpa using hp, fun j hj => by simp [hl j hj]⟩
theorem find_range_none {f : Nat → Bool} {n : Nat} (hl : ∀ q, q < n → f q = false) : (List.range n).find? f = none := by
  rw [List.find?_eq_none]
  intro x hx
  simp at hx
  simp [hl x hx]
theorem rowF_some {S : Nat → Int × Int × Int} {n k p : Nat} (h : rowF S n k = some p) : p < n ∧ p + k ≤ n ∧ allF S p k = true ∧ ∀ q, q < p → q + k ≤ n → allF S q k = false := by
  unfold rowF at h
  rw [List.find?_range_eq_some] at h
  obtain ⟨h1, h2, h3⟩ := h
  simp at h1 h2
  refine ⟨h2, h1.1, h1.2, fun q hq hk => ?_⟩
  have := h3 q hq
  simp [hk] at this
  exact this
theorem rowF_none {S : Nat → Int × Int × Int} {n k : Nat} (h : rowF S n k = none) (h1 : 1 ≤ k) : ∀ q, q + k ≤ n → allF S q k = false := by
  unfold rowF at h
  rw [List.find?_eq_none] at h
  intro q hq
  have := h q (by simp; omega)
  simp [hq] at this
  exact this
theorem rowF_of {S : Nat → Int × Int × Int} {n k p : Nat} (h1 : 1 ≤ k) (h2 : p + k ≤ n) (h3 : allF S p k = true) (h4 : ∀ q, q < p → allF S q k = false) : rowF S n k = some p :=
  find_range_some (by omega) (by simp [h2, h3]) (fun q hq => by simp [h4 q hq])
theorem rowF_no {S : Nat → Int × Int × Int} {n k : Nat} (h4 : ∀ q, q + k ≤ n → allF S q k = false) : rowF S n k = none :=
  find_range_none (fun q hq => by by_cases h : q + k ≤ n <;> simp [h]; exact h4 q h)
/-- going up: i pages seen, the last f of them free and no more, no row yet -/
def RowInv (S : Nat → Int × Int × Int) (k i f : Nat) : Prop :=
  f ≤ i ∧ f < k ∧ (∀ j, i - f ≤ j → j < i → freeB (S j) = true) ∧ (f = i ∨ freeB (S (i - f - 1)) = false) ∧ ∀ q, q + k ≤ i → allF S q k = false
theorem RowInv.start (S : Nat → Int × Int × Int) {k : Nat} (h : 1 ≤ k) : RowInv S k 0 0 := ⟨Nat.le_refl _, h, fun j _ h2 => by omega, .inl rfl, fun q hq => by omega⟩
theorem not_all {S : Nat → Int × Int × Int} {p n j : Nat} (h1 : p ≤ j) (h2 : j < p + n) (h : freeB (S j) = false) : allF S p n = false := by
  cases e : allF S p n with
  | false => rfl
  | true => rw [allF_iff.1 e j h1 h2] at h; cases h
theorem RowInv.taken {S : Nat → Int × Int × Int} {k i f : Nat} (h : RowInv S k i f) (hi : freeB (S i) = false) : RowInv S k (i + 1) 0 := by
  obtain ⟨h1, h2, h3, h4, h5⟩ := h
  refine ⟨by omega, by omega, fun j _ _ => by omega, .inr (by simpa using hi), fun q hq => ?_⟩
  by_cases e : q + k ≤ i
  · exact h5 q e
  · exact not_all (j := i) (by omega) (by omega) hi
theorem RowInv.more {S : Nat → Int × Int × Int} {k i f : Nat} (h : RowInv S k i f) (hi : freeB (S i) = true) (hf : f + 1 ≠ k) : RowInv S k (i + 1) (f + 1) := by
  obtain ⟨h1, h2, h3, h4, h5⟩ := h
  refine ⟨by omega, by omega, fun j j1 j2 => ?_, ?_, fun q hq => ?_⟩
  · by_cases e : j = i
    · rw [e]; exact hi
    · exact h3 j (by omega) (by omega)
  · rcases h4 with e | e
    · left; omega
    · right; rw [show i + 1 - (f + 1) - 1 = i - f - 1 from by omega]; exact e
  · by_cases e : q + k ≤ i
    · exact h5 q e
    · rcases h4 with e4 | e4
      · omega
      · by_cases e5 : f = i
        · omega
        · exact not_all (j := i - f - 1) (by omega) (by omega) e4
theorem RowInv.found {S : Nat → Int × Int × Int} {k i f n : Nat} (h : RowInv S k i f) (hi : freeB (S i) = true) (hf : f + 1 = k) (hn : i < n) : rowF S n k = some (i - f) := by
  obtain ⟨h1, h2, h3, h4, h5⟩ := h
  refine rowF_of (by omega) (by omega) (allF_iff.2 fun j j1 j2 => ?_) (fun q hq => h5 q (by omega))
  by_cases e : j = i
  · rw [e]; exact hi
  · exact h3 j j1 (by omega)
theorem RowInv.none {S : Nat → Int × Int × Int} {k i f : Nat} (h : RowInv S k i f) : rowF S i k = none := rowF_no h.2.2.2.2
/-! what the calls answer, and what the pages are behind them -/
def classB (c : Int) : Bool := decide (0 ≤ c) && decide (c ≤ 7)
def runB (k : Int) : Bool := decide (1 ≤ k) && decide (k ≤ 16)
def setC (S : Nat → Int × Int × Int) (p : Nat) (c : Int) : Nat → Int × Int × Int := fun j => if j = p then (1, c, 0) else S j
def setR (S : Nat → Int × Int × Int) (p k : Nat) : Nat → Int × Int × Int := fun j => if j = p then (2, 0, (k : Int)) else if p < j ∧ j < p + k then (3, 0, 0) else S j
def setF (S : Nat → Int × Int × Int) (p k : Nat) : Nat → Int × Int × Int := fun j => if p ≤ j ∧ j < p + k then (0, 0, 0) else S j
def tcP (S : Nat → Int × Int × Int) (n : Nat) (c : Int) : Nat := if classB c then (rowF S n 1).getD 0 else 0
def tcE (S : Nat → Int × Int × Int) (n : Nat) (c : Int) : Int := if classB c then (if (rowF S n 1).isSome then 0 else 20) else 1
def tcS (S : Nat → Int × Int × Int) (n : Nat) (c : Int) : Nat → Int × Int × Int := if classB c then (match rowF S n 1 with | some p => setC S p c | none => S) else S
def trP (S : Nat → Int × Int × Int) (n : Nat) (k : Int) : Nat := if runB k then (rowF S n k.toNat).getD 0 else 0
def trE (S : Nat → Int × Int × Int) (n : Nat) (k : Int) : Int := if runB k then (if (rowF S n k.toNat).isSome then 0 else 20) else 1
def trS (S : Nat → Int × Int × Int) (n : Nat) (k : Int) : Nat → Int × Int × Int := if runB k then (match rowF S n k.toNat with | some p => setR S p k.toNat | none => S) else S
def inB (n : Nat) (i : Int) : Bool := decide (0 ≤ i) && decide (i < n)
def lenP (p : Int × Int × Int) : Nat := if p.1 = 2 then p.2.2.toNat else 1
def giveB (S : Nat → Int × Int × Int) (n : Nat) (i : Int) : Bool := inB n i && ((S i.toNat).1 == 1 || (S i.toNat).1 == 2)
def gvE (S : Nat → Int × Int × Int) (n : Nat) (i : Int) : Int := if giveB S n i then 0 else 1
def gvS (S : Nat → Int × Int × Int) (n : Nat) (i : Int) : Nat → Int × Int × Int := if giveB S n i then setF S i.toNat (lenP (S i.toNat)) else S
def stP (S : Nat → Int × Int × Int) (n : Nat) (i : Int) : Int × Int × Int := if inB n i then S i.toNat else (0, 0, 0)
def cntF (S : Nat → Int × Int × Int) (n : Nat) : Nat := ((List.range n).filter fun i => freeB (S i)).length
theorem cntF_succ (S : Nat → Int × Int × Int) (n : Nat) : cntF S (n + 1) = cntF S n + (if freeB (S n) then 1 else 0) := by
  unfold cntF
  rw [List.range_succ, List.filter_append, List.length_append]
  cases h : freeB (S n) <;> simp [h]
theorem cntF_le (S : Nat → Int × Int × Int) (n : Nat) : cntF S n ≤ n := by
  unfold cntF
  have := List.length_filter_le (fun i => freeB (S i)) (List.range n)
  simpa using this
/-! they stay pages -/
theorem good_setC {n p : Nat} {S : Nat → Int × Int × Int} {c : Int} (h : Good n S) (hp : S p = (0, 0, 0)) (h0 : 0 ≤ c) (h7 : c ≤ 7) : Good n (setC S p c) := by
  intro i hi
  unfold setC
  by_cases e : i = p
  · exact .inr (.inl ⟨c, h0, h7, by simp [e]⟩)
  · rcases h i hi with e1 | ⟨c', a, b, e1⟩ | ⟨k, k1, k2, k3, e1, hr⟩ | ⟨e1, a, k, ha, hk, e2⟩
    · exact .inl (by simp [e, e1])
    · exact .inr (.inl ⟨c', a, b, by simp [e, e1]⟩)
    · refine .inr (.inr (.inl ⟨k, k1, k2, k3, by simp [e, e1], fun j j1 j2 => ?_⟩))
      have := hr j j1 j2
      by_cases ej : j = p
      · rw [ej, hp] at this; simp at this
      · simp [ej, this]
    · refine .inr (.inr (.inr ⟨by simp [e, e1], a, k, ha, hk, ?_⟩))
      by_cases ej : a = p
      · rw [ej, hp] at e2; simp at e2
      · simp [ej, e2]
theorem good_setR {n p k : Nat} {S : Nat → Int × Int × Int} (h : Good n S) (hp : ∀ j, p ≤ j → j < p + k → S j = (0, 0, 0)) (h1 : 1 ≤ k) (h2 : k ≤ 16) (h3 : p + k ≤ n) : Good n (setR S p k) := by
  have out : ∀ j, (j < p ∨ p + k ≤ j) → setR S p k j = S j := by
    intro j hj
    unfold setR
    rw [if_neg (by omega), if_neg (by omega)]
  have hd : setR S p k p = (2, 0, (k : Int)) := by unfold setR; rw [if_pos rfl]
  have hr : ∀ j, p < j → j < p + k → setR S p k j = (3, 0, 0) := by
    intro j a b
    unfold setR
    rw [if_neg (by omega), if_pos ⟨a, b⟩]
  have nz : ∀ j, S j ≠ (0, 0, 0) → j < p ∨ p + k ≤ j := by
    intro j hj
    by_cases e : j < p ∨ p + k ≤ j
    · exact e
    · exact absurd (hp j (by omega) (by omega)) hj
  intro i hi
  by_cases e : i = p
  · subst e
    exact .inr (.inr (.inl ⟨k, h1, h2, h3, hd, hr⟩))
  · by_cases e' : p < i ∧ i < p + k
    · exact .inr (.inr (.inr ⟨hr i e'.1 e'.2, p, k, e'.1, e'.2, hd⟩))
    · have eo := out i (by omega)
      rcases h i hi with e1 | ⟨c', a, b, e1⟩ | ⟨k', k1, k2, k3, e1, hr'⟩ | ⟨e1, a, k', ha, hk, e2⟩
      · exact .inl (by rw [eo, e1])
      · exact .inr (.inl ⟨c', a, b, by rw [eo, e1]⟩)
      · refine .inr (.inr (.inl ⟨k', k1, k2, k3, by rw [eo, e1], fun j j1 j2 => ?_⟩))
        have := hr' j j1 j2
        rw [out j (nz j (by rw [this]; simp)), this]
      · exact .inr (.inr (.inr ⟨by rw [eo, e1], a, k', ha, hk, by rw [out a (nz a (by rw [e2]; simp)), e2]⟩))
/-- what is given: a class's page, or a run -/
theorem give_cases {n p : Nat} {S : Nat → Int × Int × Int} (h : Good n S) (hp : p < n) (hk : (S p).1 = 1 ∨ (S p).1 = 2) :
    1 ≤ lenP (S p) ∧ lenP (S p) ≤ 16 ∧ p + lenP (S p) ≤ n ∧ (∀ j, p < j → j < p + lenP (S p) → S j = (3, 0, 0)) ∧ (((S p).1 = 1 ∧ lenP (S p) = 1 ∧ (S p).2.2 = 0) ∨ ((S p).1 = 2 ∧ (S p).2.2 = (lenP (S p) : Nat))) := by
  rcases h p hp with e | ⟨c, _, _, e⟩ | ⟨k, k1, k2, k3, e, hr⟩ | ⟨e, _⟩
  · rw [e] at hk; simp at hk
  · rw [e]
    have : lenP (1, c, 0) = 1 := by unfold lenP; simp
    rw [this]
    exact ⟨by omega, by omega, by omega, fun j j1 j2 => by omega, .inl ⟨rfl, rfl, rfl⟩⟩
  · rw [e]
    have : lenP (2, 0, (k : Int)) = k := by unfold lenP; simp
    rw [this]
    exact ⟨k1, k2, k3, hr, .inr ⟨rfl, rfl⟩⟩
  · rw [e] at hk; simp at hk
theorem good_give {n p : Nat} {S : Nat → Int × Int × Int} (h : Good n S) (hp : p < n) (hk : (S p).1 = 1 ∨ (S p).1 = 2) : Good n (setF S p (lenP (S p))) := by
  obtain ⟨l1, l2, l3, hrest, hkind⟩ := give_cases h hp hk
  generalize hL : lenP (S p) = L at *
  have out : ∀ j, (j < p ∨ p + L ≤ j) → setF S p L j = S j := by
    intro j hj
    unfold setF
    rw [if_neg (by omega)]
  intro i hi
  by_cases e : p ≤ i ∧ i < p + L
  · left; unfold setF; rw [if_pos e]
  · have eo := out i (by omega)
    rcases h i hi with e1 | ⟨c', a, b, e1⟩ | ⟨k', k1, k2, k3, e1, hr'⟩ | ⟨e1, a, k', ha, hk', e2⟩
    · exact .inl (by rw [eo, e1])
    · exact .inr (.inl ⟨c', a, b, by rw [eo, e1]⟩)
    · refine .inr (.inr (.inl ⟨k', k1, k2, k3, by rw [eo, e1], fun j j1 j2 => ?_⟩))
      have hj := hr' j j1 j2
      rw [out j ?_, hj]
      by_cases hp' : i < p
      · have : ¬ (p < i + k') := fun hlt => by
          have := hr' p hp' hlt
          rw [this] at hk; simp at hk
        omega
      · omega
    · refine .inr (.inr (.inr ⟨by rw [eo, e1], a, k', ha, hk', ?_⟩))
      rw [out a ?_, e2]
      by_cases ea : a < p ∨ p + L ≤ a
      · exact ea
      · exfalso
        by_cases ep : a = p
        · subst ep
          have hl2 : (S a).2.2 = (k' : Int) := by rw [e2]
          rcases hkind with ⟨q1, q2, q3⟩ | ⟨q1, q2⟩
          · rw [e2] at q1; simp at q1
          · rw [q2] at hl2
            have : L = k' := by omega
            omega
        · have := hrest a (by omega) (by omega)
          rw [e2] at this; simp at this
/-! the two variables of package pages -/
/-! pages in memory -/
def pcell (S : Nat → Int × Int × Int) (i : Nat) : Value := .int .i64 (fld (S (i / 3)) (i % 3))
def PRow (w : World) (b n : Nat) (S : Nat → Int × Int × Int) : Prop := Row w b 54 (n * 3) (pcell S)
theorem PRow.cells {w : World} {b n i : Nat} {S : Nat → Int × Int × Int} (h : PRow w b n S) (hi : i < n) :
    w.cell? ⟨b, i * 3, none⟩ = some (.int .i64 (S i).1) ∧ w.cell? ⟨b, i * 3 + 1, none⟩ = some (.int .i64 (S i).2.1) ∧ w.cell? ⟨b, i * 3 + 2, none⟩ = some (.int .i64 (S i).2.2) := by
  refine ⟨?_, ?_, ?_⟩
  · rw [Row.cell h (i := i * 3) (by omega)]
    unfold pcell
    rw [show i * 3 / 3 = i from by omega, show i * 3 % 3 = 0 from by omega]; rfl
  · rw [Row.cell h (i := i * 3 + 1) (by omega)]
    unfold pcell
    rw [show (i * 3 + 1) / 3 = i from by omega, show (i * 3 + 1) % 3 = 1 from by omega]; rfl
  · rw [Row.cell h (i := i * 3 + 2) (by omega)]
    unfold pcell
    rw [show (i * 3 + 2) / 3 = i from by omega, show (i * 3 + 2) % 3 = 2 from by omega]; rfl
def setP (S : Nat → Int × Int × Int) (p : Nat) (x : Int × Int × Int) : Nat → Int × Int × Int := fun j => if j = p then x else S j
theorem PRow.congr {w : World} {b n : Nat} {S S' : Nat → Int × Int × Int} (h : PRow w b n S) (e : ∀ i, i < n → S i = S' i) : PRow w b n S' :=
  Row.congr h fun i hi => by unfold pcell; rw [e (i / 3) (by omega)]
theorem PRow.set {w : World} {b n : Nat} {S : Nat → Int × Int × Int} (h : PRow w b n S) (i : Nat) (k c r : Int) :
    PRow (((w.setCell ⟨b, i * 3, none⟩ (.int .i64 k)).setCell ⟨b, i * 3 + 1, none⟩ (.int .i64 c)).setCell ⟨b, i * 3 + 2, none⟩ (.int .i64 r)) b n (setP S i (k, c, r)) := by
  refine Row.congr (((Row.set h (i * 3) (.int .i64 k)).set (i * 3 + 1) (.int .i64 c)).set (i * 3 + 2) (.int .i64 r)) fun j hj => ?_
  unfold pcell setP
  by_cases e : j / 3 = i
  · rw [if_pos e]
    have hm : j % 3 = 0 ∨ j % 3 = 1 ∨ j % 3 = 2 := by omega
    rcases hm with hm | hm | hm
    · rw [if_neg (by omega), if_neg (by omega), if_pos (by omega), hm]; rfl
    · rw [if_neg (by omega), if_pos (by omega), hm]; rfl
    · rw [if_pos (by omega), hm]; rfl
  · rw [if_neg e, if_neg (by omega), if_neg (by omega), if_neg (by omega)]
theorem PRow.kept {w w' : World} {b n lo hi : Nat} {S : Nat → Int × Int × Int} (h : PRow w b n S) (g : Out lo hi w w') (h2 : b < lo ∨ hi ≤ b) : PRow w' b n S := Row.kept h g h2
theorem Out.set3 {lo hi : Nat} {a w : World} (h : Out lo hi a w) {b o : Nat} (hp : (lo ≤ b ∧ b < hi) ∨ a.heap.size ≤ b) (x y z : Value) : Out lo hi a (((w.setCell ⟨b, o, none⟩ x).setCell ⟨b, o + 1, none⟩ y).setCell ⟨b, o + 2, none⟩ z) :=
  ((h.setCell (p := ⟨b, o, none⟩) hp x).setCell (p := ⟨b, o + 1, none⟩) hp y).setCell (p := ⟨b, o + 2, none⟩) hp z
/-- block b is a table (of type T) of n pages that lie in block bw -/
def TblAt (T : TypeId) (w : World) (b bw n : Nat) (S : Nat → Int × Int × Int) : Prop :=
  ∃ cap, w.heap[b]? = some (.cells #[.slice (some ⟨bw, 0, none⟩) n cap] T (0, 0)) ∧ n ≤ cap ∧ bw ≠ b ∧ 4 ≤ b ∧ 4 ≤ bw ∧ 1 ≤ n ∧ n ≤ 4096 ∧ Good n S ∧ PRow w bw n S
theorem TblAt.kept {T : TypeId} {w w' : World} {b bw n lo hi : Nat} {S : Nat → Int × Int × Int} (h : TblAt T w b bw n S) (g : Out lo hi w w') (h1 : b < lo ∨ hi ≤ b) (h2 : bw < lo ∨ hi ≤ bw) : TblAt T w' b bw n S := by
  obtain ⟨cap, hb, k1, k2, k3, k4, k5, k6, k7, hr⟩ := h
  exact ⟨cap, g.heap hb h1, k1, k2, k3, k4, k5, k6, k7, hr.kept g h2⟩
theorem TblAt.quiet {T : TypeId} {w w' : World} {b bw n : Nat} {S : Nat → Int × Int × Int} (h : TblAt T w b bw n S) (g : Out 0 0 w w') : TblAt T w' b bw n S := h.kept g (.inr (Nat.zero_le _)) (.inr (Nat.zero_le _))
theorem TblAt.cell {T : TypeId} {w : World} {b bw n : Nat} {S : Nat → Int × Int × Int} (h : TblAt T w b bw n S) : ∃ cap, w.cell? ⟨b, 0, none⟩ = some (.slice (some ⟨bw, 0, none⟩) n cap) ∧ n ≤ cap := by
  obtain ⟨cap, hb, k1, _⟩ := h
  exact ⟨cap, by simp [World.cell?, hb], k1⟩
theorem TblAt.row {T : TypeId} {w : World} {b bw n : Nat} {S : Nat → Int × Int × Int} (h : TblAt T w b bw n S) : PRow w bw n S := by obtain ⟨cap, hb, k1, k2, k3, k4, k5, k6, k7, hr⟩ := h; exact hr
theorem TblAt.good {T : TypeId} {w : World} {b bw n : Nat} {S : Nat → Int × Int × Int} (h : TblAt T w b bw n S) : Good n S := by obtain ⟨cap, hb, k1, k2, k3, k4, k5, k6, k7, hr⟩ := h; exact k7
theorem TblAt.nums {T : TypeId} {w : World} {b bw n : Nat} {S : Nat → Int × Int × Int} (h : TblAt T w b bw n S) : 1 ≤ n ∧ n ≤ 4096 ∧ 4 ≤ b ∧ 4 ≤ bw ∧ bw ≠ b ∧ b < w.heap.size ∧ bw < w.heap.size := by
  obtain ⟨cap, hb, k1, k2, k3, k4, k5, k6, k7, hr⟩ := h
  exact ⟨k5, k6, k3, k4, k2, heap_lt hb, Row.lt hr⟩
/-- other pages in the same block -/
theorem TblAt.turn {T : TypeId} {w w' : World} {b bw n : Nat} {S S' : Nat → Int × Int × Int} (h : TblAt T w b bw n S) (g : Out bw (bw + 1) w w') (hr : PRow w' bw n S') (hg : Good n S') : TblAt T w' b bw n S' := by
  obtain ⟨cap, hb, k1, k2, k3, k4, k5, k6, k7, _⟩ := h
  exact ⟨cap, g.heap hb (by omega), k1, k2, k3, k4, k5, k6, hg, hr⟩
end Go.Proofs.YtjbbkeoolodeaabDoor
namespace Go.Proofs.YtjbbkeoolodeaabDoor
open Go.RowKit
set_option linter.unusedVariables false
set_option linter.unusedSimpArgs false

theorem list_cell {w : World} {b n cap : Nat} {a : Option Addr} (c0 : w.cell? ⟨b, 0, none⟩ = some (.slice a n cap)) :
    Calls Tryd.prog 52 #[.pointer (some ⟨b, 0, none⟩)] w fun e w' => e = .returned (.slice a n cap) ∧ w' = w := by
  go_enter Tryd.func52, Tryd.ntmps52
  go_wp2
  go_ret
  exact ⟨rfl, rfl⟩
theorem len_cell {w : World} {b n cap : Nat} {a : Option Addr} (c0 : w.cell? ⟨b, 0, none⟩ = some (.slice a n cap)) :
    Calls Tryd.prog 99 #[.pointer (some ⟨b, 0, none⟩)] w fun e w' => e = .returned (.int .i64 n) ∧ w' = w := by
  have H := hid_mk (list_cell c0)
  clear c0
  go_enter Tryd.func99, Tryd.ntmps99
  go_wp2_with (go_at_call 52; refine calls_same H.out ?_)
  go_ret
  exact ⟨rfl, rfl⟩
theorem PRow.page {w : World} {b n i : Nat} {S : Nat → Int × Int × Int} {x y z : Int} (h : PRow w b n S) (hi : i < n) (e : S i = (x, y, z)) :
    w.cell? ⟨b, i * 3, none⟩ = some (.int .i64 x) ∧ w.cell? ⟨b, i * 3 + 1, none⟩ = some (.int .i64 y) ∧ w.cell? ⟨b, i * 3 + 2, none⟩ = some (.int .i64 z) := by
  have := h.cells hi
  rw [e] at this
  exact this
theorem page_of (p : Int × Int × Int) : ∃ x y z, p = (x, y, z) := ⟨p.1, p.2.1, p.2.2, rfl⟩
set_option maxRecDepth 100000 in
set_option maxHeartbeats 4000000 in
theorem row_any {w : World} {b bw n cap : Nat} {S : Nat → Int × Int × Int} (c0 : w.cell? ⟨b, 0, none⟩ = some (.slice (some ⟨bw, 0, none⟩) n cap)) (hT : Tab w) (hn : 1 ≤ n ∧ n ≤ 4096) (hr : PRow w bw n S) (hg : Good n S) (k : Nat) (hk : 1 ≤ k) (hk2 : k ≤ 16) :
    Calls Tryd.prog 92 #[.pointer (some ⟨b, 0, none⟩), .int .i64 k] w fun e w' => e = .returned (.tuple #[.int .i64 ((rowF S n k).getD 0 : Nat), .bool (rowF S n k).isSome]) ∧ Out 0 0 w w' := by
  have H := hid_mk (list_cell c0)
  have HT := hid_mk hT
  have HR := hid_mk hr
  have HG := hid_mk hg
  have HN := hid_mk hn
  have HK : Hid (1 ≤ k ∧ k ≤ 16) := ⟨hk, hk2⟩
  obtain ⟨a, ha⟩ : ∃ a, rowF S n k = a := ⟨_, rfl⟩
  have HA := hid_mk ha
  rw [ha]
  clear c0 hT hr hg hn hk hk2 ha
  go_enter Tryd.func92, Tryd.ntmps92
  go_wp2_with (go_at_call 52; refine calls_same H.out ?_)
  go_loopw [6, 12] (fun x y wr => ∃ i f : Nat, i ≤ n ∧ x = .int .i64 f ∧ y = .int .i64 i ∧ RowInv S k i f ∧ Out 0 0 w wr) (fun _ y _ => n - (intOf y).toNat)
  case atStart => exact ⟨0, 0, Nat.zero_le _, rfl, rfl, RowInv.start S HK.out.1, Out.refl _ _ _⟩
  case round =>
    obtain ⟨i, f, i1, rfl, rfl, hv, ho⟩ := hrel
    have HV := hid_mk hv
    have HO := hid_mk ho
    obtain ⟨f0, f1, f2⟩ := (HT.out.quiet ho).f
    have b0 : (0 : Int) ≤ (i : Int) := by omega
    have b5 : (i : Int) ≤ 4096 := by have := HN.out; omega
    have b6 : (0 : Int) ≤ (f : Int) ∧ (f : Int) < 16 := by have := hv.2.1; have := HK.out; omega
    obtain ⟨b7, b8⟩ := b6
    by_cases hi : i < n
    · have b1 : (i : Int) < (n : Int) := by omega
      have HO2 : Hid (∀ c, Out 0 0 w (wr.alloc c)) := fun c => ho.alloc c
      obtain ⟨x, y, z, hp⟩ := page_of (S i)
      obtain ⟨q0, q1, q2⟩ := (HR.out.kept ho (.inr (Nat.zero_le _))).page hi hp
      obtain ⟨g0, g1, g2⟩ := (HT.out.quiet (ho.alloc (.cells #[.int .i64 x, .int .i64 y, .int .i64 z] 54))).f
      by_cases hf : freeB (S i) = true
      · have e := HG.out.free hi hf
        rw [hp] at e
        cases e
        by_cases hk : f + 1 = k
        · have hres := hv.found hf hk hi
          rw [HA.out] at hres
          subst hres
          have HE : Hid (f ≤ i) := hv.1
          subst hk
          clear hv ho hp hf HV HO
          go_wp2
          go_ret2
          refine ⟨ret_ib ?_ rfl, HO2.out _⟩
          show ((i : Int) + 1 - ((f : Int) + 1)) = ((i - f : Nat) : Int)
          have := HE.out
          omega
        · have HV2 := hid_mk (hv.more hf hk)
          have ek : ((f : Int) + 1 == (k : Int)) = false := by simp; omega
          clear hv ho hp hf HV HO hk
          go_wp2
          go_roundw
          case rel => exact ⟨i + 1, f + 1, by omega, by go_num, by go_num, HV2.out, HO2.out _⟩
          case measure => simp [intOf]; omega
      · have hf' : freeB (S i) = false := by simpa using hf
        have HV2 := hid_mk (hv.taken hf')
        have hx : (x == 0) = false := by have := hf'; rw [hp] at this; exact this
        clear hv ho hp hf HV HO hf'
        go_wp2
        go_roundw
        case rel => exact ⟨i + 1, 0, by omega, by go_num, by go_num, HV2.out, HO2.out _⟩
        case measure => simp [intOf]; omega
    · have : i = n := by omega
      subst this
      have hres := hv.none
      rw [HA.out] at hres
      subst hres
      clear hv ho hi HV
      go_wp2
      go_ret2
      exact ⟨rfl, HO.out⟩
end Go.Proofs.YtjbbkeoolodeaabDoor
namespace Go.Proofs.YtjbbkeoolodeaabDoor
open Go.RowKit
set_option linter.unusedVariables false
set_option linter.unusedSimpArgs false

def putA (S : Nat → Int × Int × Int) (p k : Nat) (x : Int × Int × Int) : Nat → Int × Int × Int := fun j => if p ≤ j ∧ j < p + k then x else S j
theorem putA_zero (S : Nat → Int × Int × Int) (p : Nat) (x : Int × Int × Int) : putA S p 0 x = S := by funext j; unfold putA; rw [if_neg (by omega)]
theorem putA_step (S : Nat → Int × Int × Int) (p i : Nat) (x : Int × Int × Int) : setP (putA S p i x) (p + i) x = putA S p (i + 1) x := by
  funext j
  unfold setP putA
  by_cases e : j = p + i
  · rw [if_pos e, if_pos (by omega)]
  · rw [if_neg e]
    by_cases h : p ≤ j ∧ j < p + i
    · rw [if_pos h, if_pos (by omega)]
    · rw [if_neg h, if_neg (by omega)]
theorem box3 {w : World} {X : Nat} {x y z : Int} {T : TypeId} (h : w.heap[X]? = some (.cells #[.int .i64 x, .int .i64 y, .int .i64 z] T (0, 0))) :
    w.cell? ⟨X, 0, none⟩ = some (.int .i64 x) ∧ w.cell? ⟨X, 1, none⟩ = some (.int .i64 y) ∧ w.cell? ⟨X, 2, none⟩ = some (.int .i64 z) := by
  simp [World.cell?, h]
set_option maxRecDepth 100000 in
set_option maxHeartbeats 4000000 in
theorem fill_any {w : World} {bw n p k cap : Nat} {S : Nat → Int × Int × Int} (hr : PRow w bw n S) (hpk : p + k ≤ n) (hn : n ≤ 4096) (x y z : Int) :
    Calls Tryd.prog 93 #[.slice (some ⟨bw, p * 3, none⟩) k cap, .agg #[.int .i64 x, .int .i64 y, .int .i64 z]] w fun e w' => e = .returned (.tuple #[]) ∧ PRow w' bw n (putA S p k (x, y, z)) ∧ Out bw (bw + 1) w w' := by
  have HP : Hid (p + k ≤ n ∧ n ≤ 4096) := ⟨hpk, hn⟩
  have HL : Hid (bw < w.heap.size) := Row.lt hr
  have HR1 : Hid (PRow (w.alloc (.cells #[.int .i64 x, .int .i64 y, .int .i64 z] 54)) bw n (putA S p 0 (x, y, z))) := by
    rw [putA_zero]; exact hr.kept ((Out.refl 0 0 _).alloc _) (.inr (Nat.zero_le _))
  have HO1 : Hid (Out bw (bw + 1) w (w.alloc (.cells #[.int .i64 x, .int .i64 y, .int .i64 z] 54))) := (Out.refl _ _ _).alloc _
  have HX : Hid ((w.alloc (.cells #[.int .i64 x, .int .i64 y, .int .i64 z] 54)).heap[w.heap.size]? = some (.cells #[.int .i64 x, .int .i64 y, .int .i64 z] 54 (0, 0))) := heap_alloc_new _ _
  obtain ⟨X, hX⟩ : ∃ X, w.heap.size = X := ⟨_, rfl⟩
  obtain ⟨W, hW⟩ : ∃ W, w.alloc (.cells #[.int .i64 x, .int .i64 y, .int .i64 z] 54) = W := ⟨_, rfl⟩
  rw [hX] at HX HL
  rw [hW] at HX HR1 HO1
  clear hr hpk hn
  go_enter Tryd.func93, Tryd.ntmps93
  go_wp2_with fail
  clear hX hW
  go_loopw [7] (fun u wr => ∃ i : Nat, i ≤ k ∧ u = .int .i64 i ∧ PRow wr bw n (putA S p i (x, y, z)) ∧ Out bw (bw + 1) w wr ∧ wr.heap[X]? = some (.cells #[.int .i64 x, .int .i64 y, .int .i64 z] 54 (0, 0))) (fun u _ => k - (intOf u).toNat)
  case atStart => exact ⟨0, Nat.zero_le _, rfl, HR1.out, HO1.out, HX.out⟩
  case round =>
    clear HR1 HO1 HX
    obtain ⟨i, i1, rfl, hr, ho, hx⟩ := hrel
    have HR := hid_mk hr
    have HO := hid_mk ho
    have HX := hid_mk hx
    have b0 : (0 : Int) ≤ (i : Int) := by omega
    by_cases hi : i < k
    · have b1 : (i : Int) < (k : Int) := by omega
      have b2 : (k : Int) ≤ 4096 := by have := HP.out; omega
      obtain ⟨u0, v0, t0, hp⟩ := page_of (putA S p i (x, y, z) (p + i))
      obtain ⟨q0, q1, q2⟩ := hr.page (by have := HP.out; omega) hp
      have fz0 := Row.frozen hr ((p + i) * 3)
      have fz1 := Row.frozen hr ((p + i) * 3 + 1)
      have fz2 := Row.frozen hr ((p + i) * 3 + 2)
      obtain ⟨x0, x1, x2⟩ := box3 hx
      have hr2 := hr.set (p + i) x y z
      rw [putA_step] at hr2
      have ho2 := ho.set3 (b := bw) (o := (p + i) * 3) (.inl ⟨Nat.le_refl _, Nat.lt_succ_self _⟩) (.int .i64 x) (.int .i64 y) (.int .i64 z)
      have hx2 : (((wr.setCell ⟨bw, (p + i) * 3, none⟩ (.int .i64 x)).setCell ⟨bw, (p + i) * 3 + 1, none⟩ (.int .i64 y)).setCell ⟨bw, (p + i) * 3 + 2, none⟩ (.int .i64 z)).heap[X]? = some (.cells #[.int .i64 x, .int .i64 y, .int .i64 z] 54 (0, 0)) := by
        have hne : X ≠ bw := by have := HL.out; omega
        rw [Below.heap_setCell _ _ _ _ hne, Below.heap_setCell _ _ _ _ hne, Below.heap_setCell _ _ _ _ hne]
        exact hx
      rw [Nat.add_mul] at q0 q1 q2 fz0 fz1 fz2 hr2 ho2 hx2
      have HR2 := hid_mk hr2
      have HO2 := hid_mk ho2
      have HX2 := hid_mk hx2
      clear hr ho hx hr2 ho2 hx2 hp HR HO HX
      go_wp2
      go_roundw
      case rel => exact ⟨i + 1, by omega, by go_num, HR2.out, HO2.out, HX2.out⟩
      case measure => simp [intOf]; omega
    · have : i = k := by omega
      subst this
      clear hr ho hx hi HX
      go_wp2
      exact bodyPost_end (results_none Tryd.results93 _ _ _) rfl ⟨rfl, HR.out, HO.out⟩

/-! the words of a class's blocks -/
def row8 : Array Value := #[.int .i64 2, .int .i64 4, .int .i64 6, .int .i64 8, .int .i64 12, .int .i64 16, .int .i64 20, .int .i64 32]
theorem info8 : (Tryd.prog.info? 44).map (·.size) = some row8.size := by kernel_rfl
theorem ret8 {fn : Func} {p : Tmp} (hr : fn.results = #[.cell p 44]) {a : Act} {w : World} {g : Nat} {post : Ending → World → Prop} (hp : a.tmps.getD p undef = .pointer (some ⟨g, 0, none⟩))
    (hd : a.defers = []) (b : w.heap[g]? = some (.cells row8 44 (0, 0))) (h : post (.returned (.agg row8)) w) : bodyPost Tryd.prog fn post Exit.ret a w :=
  bodyPost_ret (v := .agg row8) (results_cell_row hr a.tmps w g 44 row8 (0, 0) _ hp b Tryd.underlying44 rfl info8) hd h
theorem sizes_any (w : World) : Calls Tryd.prog 82 #[] w fun e w' => e = .returned (.agg #[.int .i64 2, .int .i64 4, .int .i64 6, .int .i64 8, .int .i64 12, .int .i64 16, .int .i64 20, .int .i64 32]) ∧ Out 0 0 w w' := by
  go_enter Tryd.func82, Tryd.ntmps82
  go_wp2
  exact ret8 (g := w.heap.size) rfl rfl rfl (heap_alloc_new _ _) ⟨rfl, (Out.refl _ _ _).alloc _⟩
def wordsV (c : Int) : Int := if c = 0 then 2 else if c = 1 then 4 else if c = 2 then 6 else if c = 3 then 8 else if c = 4 then 12 else if c = 5 then 16 else if c = 6 then 20 else if c = 7 then 32 else 0
theorem index8 (cs : Array Value) (i : Int) (k : Nat) (v : Value) (hi : i = k) (h : k < 8) (hv : cs[k]? = some v) (w : World) : (Instr.index 44 (.agg cs) (.int .i64 i)).run Tryd.prog w = .ok v w := by
  subst hi
  simp [Instr.index, run_underlying Tryd.underlying44, asIntOf, h, hv, go_sem]
theorem index8n (i : Nat) (h : i < 8) (w : World) : (Instr.index 44 (.agg #[.int .i64 2, .int .i64 4, .int .i64 6, .int .i64 8, .int .i64 12, .int .i64 16, .int .i64 20, .int .i64 32]) (.int .i64 i)).run Tryd.prog w = .ok (.int .i64 (wordsV i)) w := by
  refine index8 _ _ i _ rfl h ?_ w
  have hi : i = 0 ∨ i = 1 ∨ i = 2 ∨ i = 3 ∨ i = 4 ∨ i = 5 ∨ i = 6 ∨ i = 7 := by omega
  rcases hi with rfl | rfl | rfl | rfl | rfl | rfl | rfl | rfl <;> rfl
theorem wordsV_in {k : Nat} (h : k < 8) : (wordsV (k : Int) == 0) = false := by
  have hi : k = 0 ∨ k = 1 ∨ k = 2 ∨ k = 3 ∨ k = 4 ∨ k = 5 ∨ k = 6 ∨ k = 7 := by omega
  rcases hi with rfl | rfl | rfl | rfl | rfl | rfl | rfl | rfl <;> rfl
theorem words_any (c : Int) (w : World) : Calls Tryd.prog 84 #[.int .i64 c] w fun e w' => ∃ v : Int, e = .returned (.int .i64 v) ∧ (v == 0) = !classB c ∧ Out 0 0 w w' := by
  by_cases hc : 0 ≤ c ∧ c < 8
  · obtain ⟨h1, h2⟩ := hc
    obtain ⟨k, rfl⟩ : ∃ k : Nat, c = k := ⟨c.toNat, by omega⟩
    have hi := index8n k (by omega)
    have HC : Hid ((wordsV (k : Int) == 0) = !classB (k : Int)) := by
      show _ = _
      rw [wordsV_in (by omega), show classB (k : Int) = true from by unfold classB; simp; omega]; rfl
    have HS := hid_mk (sizes_any w)
    generalize classB (k : Int) = q at *
    generalize wordsV (k : Int) = u at *
    go_enter Tryd.func84, Tryd.ntmps84
    go_wp2_with (go_at_call 82; refine HS.out.mono ?_; rintro e w1 ⟨rfl, hg⟩)
    go_ret
    exact ⟨u, rfl, HC.out, hg⟩
  · have hc : c < 0 ∨ 8 ≤ c := by omega
    have e : classB c = false := by unfold classB; simp; omega
    rw [e]
    rcases hc with h | h
    all_goals
      go_enter Tryd.func84, Tryd.ntmps84
      go_wp2
      go_ret
      exact ⟨0, rfl, rfl, Out.refl _ _ _⟩
/-! a page as an answer -/
def pgV (p : Int × Int × Int) : Value := .agg #[.int .i64 p.1, .int .i64 p.2.1, .int .i64 p.2.2]
theorem info3 (x y z : Int) : (Tryd.prog.info? 54).map (·.size) = some (#[Value.int .i64 x, .int .i64 y, .int .i64 z]).size := by
  rw [show (#[Value.int .i64 x, .int .i64 y, .int .i64 z]).size = 3 from rfl]; kernel_rfl
theorem retPage2 {fn : Func} {p u : Tmp} {a : Act} {w : World} {g : Nat} {x y z : Int} {v : Value} {post : Ending → World → Prop} (hr : fn.results = #[.cell p 54, .tmp u]) (hp : a.tmps.getD p undef = .pointer (some ⟨g, 0, none⟩)) (hu : a.tmps.getD u undef = v)
    (hd : a.defers = []) (hg : w.heap[g]? = some (.cells #[.int .i64 x, .int .i64 y, .int .i64 z] 54 (0, 0))) (h : post (.returned (.tuple #[.agg #[.int .i64 x, .int .i64 y, .int .i64 z], v])) w) : bodyPost Tryd.prog fn post Exit.ret a w := by
  refine bodyPost_ret (v := .tuple #[.agg #[.int .i64 x, .int .i64 y, .int .i64 z], v]) ?_ hd h
  rw [results_cell_tmp hr, hp]
  simp [asAddr, run_loadVar_row w g 54 54 _ (0, 0) _ hg Tryd.underlying54 rfl (info3 x y z), Result.andThen]
  simpa using hu
set_option maxRecDepth 100000 in
set_option maxHeartbeats 4000000 in
theorem state_any {w : World} {b bw n : Nat} {S : Nat → Int × Int × Int} (h : TblAt 114 w b bw n S) (i : Int) :
    Calls Tryd.prog 95 #[.pointer (some ⟨b, 0, none⟩), .int .i64 i] w fun e w' => e = .returned (.tuple #[pgV (stP S n i), .bool (inB n i)]) ∧ Out 0 0 w w' := by
  obtain ⟨cap, c0, hcap⟩ := h.cell
  have hn := h.nums
  have c1 := ((Out.refl 0 0 w).alloc (.cells #[.int .i64 0, .int .i64 0, .int .i64 0] 54)).cell c0 (.inr (Nat.zero_le _))
  have HL := hid_mk (len_cell c1)
  by_cases hi : inB n i = true
  · unfold inB at hi
    simp at hi
    obtain ⟨k, rfl⟩ : ∃ k : Nat, i = k := ⟨i.toNat, by omega⟩
    have e1 : inB n (k : Int) = true := by unfold inB; simp; omega
    have e2 : stP S n (k : Int) = S k := by unfold stP; rw [e1]; rfl
    rw [e1, e2]
    obtain ⟨x, y, z, hp⟩ := page_of (S k)
    have hr := h.row.kept ((Out.refl 0 0 w).alloc (.cells #[.int .i64 0, .int .i64 0, .int .i64 0] 54)) (.inr (Nat.zero_le _))
    obtain ⟨q0, q1, q2⟩ := hr.page (by omega) hp
    have b0 : (0 : Int) ≤ (k : Int) := by omega
    have b1 : (k : Int) < (n : Int) := by omega
    have b2 : (n : Int) ≤ 4096 := by omega
    rw [hp]
    clear h hn e1 e2 hi hr hp c0
    go_enter Tryd.func95, Tryd.ntmps95
    go_wp2_with (go_at_call 99; refine calls_same HL.out ?_)
    refine retPage2 (g := w.heap.size) Tryd.results95 rfl rfl rfl (heap_alloc_new _ _) ⟨rfl, (Out.refl _ _ _).alloc _⟩
  · have e1 : inB n i = false := by simpa using hi
    have e2 : stP S n i = (0, 0, 0) := by unfold stP; rw [e1]; rfl
    rw [e1, e2]
    unfold inB at hi
    simp at hi
    have b2 : (n : Int) ≤ 4096 := by omega
    by_cases h0 : 0 ≤ i
    · have b1 : (n : Int) ≤ i := by omega
      clear h hn e1 e2 hi c0
      go_enter Tryd.func95, Tryd.ntmps95
      go_wp2_with (go_at_call 99; refine calls_same HL.out ?_)
      refine retPage2 (g := w.heap.size) Tryd.results95 rfl rfl rfl (heap_alloc_new _ _) ⟨rfl, (Out.refl _ _ _).alloc _⟩
    · have b1 : i < 0 := by omega
      clear h hn e1 e2 hi c0 h0
      go_enter Tryd.func95, Tryd.ntmps95
      go_wp2_with (go_at_call 99; refine calls_same HL.out ?_)
      refine retPage2 (g := w.heap.size) Tryd.results95 rfl rfl rfl (heap_alloc_new _ _) ⟨rfl, (Out.refl _ _ _).alloc _⟩
end Go.Proofs.YtjbbkeoolodeaabDoor
namespace Go.Proofs.YtjbbkeoolodeaabDoor
open Go.RowKit
set_option linter.unusedVariables false
set_option linter.unusedSimpArgs false

theorem rowF_pages {S : Nat → Int × Int × Int} {n k p : Nat} (hg : Good n S) (h : rowF S n k = some p) : p < n ∧ p + k ≤ n ∧ ∀ j, p ≤ j → j < p + k → S j = (0, 0, 0) := by
  obtain ⟨h1, h2, h3, _⟩ := rowF_some h
  exact ⟨h1, h2, fun j j1 j2 => hg.free (by omega) (allF_iff.1 h3 j j1 j2)⟩
theorem setC_eq (S : Nat → Int × Int × Int) (p : Nat) (c : Int) : setC S p c = setP S p (1, c, 0) := rfl
theorem setR_eq (S : Nat → Int × Int × Int) (p k : Nat) (h : 1 ≤ k) : setR S p k = putA (setP S p (2, 0, (k : Int))) (p + 1) (k - 1) (3, 0, 0) := by
  funext j
  unfold setR putA setP
  by_cases e : j = p
  · rw [if_pos e, if_neg (by omega), if_pos e]
  · rw [if_neg e]
    by_cases h2 : p < j ∧ j < p + k
    · rw [if_pos h2, if_pos (by omega)]
    · rw [if_neg h2, if_neg (by omega), if_neg e]
theorem setF_eq (S : Nat → Int × Int × Int) (p k : Nat) : setF S p k = putA S p k (0, 0, 0) := rfl
set_option maxRecDepth 100000 in
set_option maxHeartbeats 4000000 in
theorem takeClass_any {w : World} {b bw n : Nat} {S : Nat → Int × Int × Int} (h : TblAt 114 w b bw n S) (hT : Tab w) (c : Int) :
    Calls Tryd.prog 94 #[.pointer (some ⟨b, 0, none⟩), .int .i64 c] w fun e w' => e = .returned (.tuple #[.int .i64 (tcP S n c : Nat), .int .i64 (tcE S n c)]) ∧ TblAt 114 w' b bw n (tcS S n c) ∧ Out bw (bw + 1) w w' := by
  have hn := h.nums
  have HW := hid_mk (words_any c w)
  have HH := hid_mk h
  have HT := hid_mk hT
  by_cases hc : classB c = true
  · rw [hc] at HW
    unfold tcP tcE tcS
    rw [if_pos hc, if_pos hc, if_pos hc]
    have HR : Hid (∀ w', Out 0 0 w w' → Calls Tryd.prog 92 #[.pointer (some ⟨b, 0, none⟩), .int .i64 1] w' fun e w' => e = .returned (.tuple #[.int .i64 ((rowF S n 1).getD 0 : Nat), .bool (rowF S n 1).isSome]) ∧ Out 0 0 w w') := fun w' ho => by
      obtain ⟨cap, c0, _⟩ := (HH.out.quiet ho).cell
      exact (row_any c0 (HT.out.quiet ho) ⟨hn.1, hn.2.1⟩ (HH.out.quiet ho).row HH.out.good 1 (by omega) (by omega)).mono fun e w' ⟨a, b⟩ => ⟨a, ho.trans b⟩
    cases hf : rowF S n 1 with
    | none =>
      rw [hf] at HR
      clear hn h hT hc hf
      go_enter Tryd.func94, Tryd.ntmps94
      go_wp2_with (first | (go_at_call 84; refine HW.out.mono ?_; rintro e w1 ⟨v, rfl, hv, ho⟩; have HO := hid_mk ho; have hv2 : (v == 0) = false := hv; clear hv ho) | (go_at_call 92; refine (HR.out _ HO.out).mono ?_; rintro e w2 ⟨rfl, ho⟩))
      go_ret2
      exact ⟨rfl, HH.out.quiet ho, ho.any _ _⟩
    | some p =>
      rw [hf] at HR
      obtain ⟨p1, p2, p3⟩ := rowF_pages HH.out.good hf
      have p4 := p3 p (Nat.le_refl _) (by omega)
      have HG := hid_mk (good_setC HH.out.good p4 (by unfold classB at hc; simp at hc; exact hc.1) (by unfold classB at hc; simp at hc; exact hc.2))
      have b0 : (0 : Int) ≤ (p : Int) := by omega
      have b1 : (p : Int) < (n : Int) := by omega
      have b2 : (n : Int) ≤ 4096 := by omega
      have HP := hid_mk p1
      have HP4 := hid_mk p4
      clear hn h hT hc hf p1 p2 p3 p4
      go_enter Tryd.func94, Tryd.ntmps94
      go_wp2_with (first | (go_at_call 84; refine HW.out.mono ?_; rintro e w1 ⟨v, rfl, hv, ho⟩; have HO := hid_mk ho; have hv2 : (v == 0) = false := hv; clear hv ho) | (go_at_call 92; refine (HR.out _ HO.out).mono ?_; rintro e w2 ⟨rfl, ho⟩; obtain ⟨cap, c0, hcap⟩ := (HH.out.quiet ho).cell; obtain ⟨q0, q1, q2⟩ := (HH.out.quiet ho).row.page HP.out HP4.out; have fz0 := Row.frozen (HH.out.quiet ho).row (p * 3); have fz1 := Row.frozen (HH.out.quiet ho).row (p * 3 + 1); have fz2 := Row.frozen (HH.out.quiet ho).row (p * 3 + 2); have HO2 := hid_mk ho; clear ho))
      go_ret2
      have hr := (HH.out.quiet HO2.out).row.set p 1 c 0
      have ho3 : Out bw (bw + 1) w (((w2.setCell ⟨bw, p * 3, none⟩ (.int .i64 1)).setCell ⟨bw, p * 3 + 1, none⟩ (.int .i64 c)).setCell ⟨bw, p * 3 + 2, none⟩ (.int .i64 0)) := (HO2.out.any _ _).set3 (.inl ⟨Nat.le_refl _, Nat.lt_succ_self _⟩) _ _ _
      exact ⟨rfl, HH.out.turn ho3 hr HG.out, ho3⟩
  · have hc' : classB c = false := by simpa using hc
    rw [hc'] at HW
    unfold tcP tcE tcS
    rw [if_neg hc, if_neg hc, if_neg hc]
    clear hn h hT hc hc'
    go_enter Tryd.func94, Tryd.ntmps94
    go_wp2_with (go_at_call 84; refine HW.out.mono ?_; rintro e w1 ⟨v, rfl, hv, ho⟩; have HO := hid_mk ho; have hv2 : (v == 0) = true := hv; clear hv ho)
    go_ret2
    exact ⟨rfl, HH.out.quiet HO.out, HO.out.any _ _⟩
end Go.Proofs.YtjbbkeoolodeaabDoor
namespace Go.Proofs.YtjbbkeoolodeaabDoor
open Go.RowKit
set_option linter.unusedVariables false
set_option linter.unusedSimpArgs false

theorem elem_pages : Tryd.prog.elem 43 = 54 := by kernel_rfl
theorem size_page (w : World) : (sizeOf 54).run Tryd.prog w = .ok 3 w := by kernel_rfl
/-- a piece of a list: where it begins counts for nothing if it is empty -/
theorem slice_at (bw n cap lo hi : Nat) (h1 : lo ≤ hi) (h2 : hi ≤ cap) : ∃ o cp : Nat, (∀ wx, (Instr.slice 43 (.slice (some ⟨bw, 0, none⟩) n cap) (some (.int .i64 (lo : Int))) (some (.int .i64 (hi : Int))) none).run Tryd.prog wx = .ok (.slice (some ⟨bw, o, none⟩) (hi - lo) cp) wx) ∧ (0 < hi - lo → o = lo * 3) := by
  by_cases e : cap = lo
  · refine ⟨0, cap - lo, fun wx => ?_, fun h => by omega⟩
    rw [run_slice_lh wx 43 _ n cap (by rw [elem_pages]; exact Tryd.underlying43) .i64 .i64 (lo : Int) (hi : Int) (by omega) (by omega) (by omega), elem_pages, size_page]
    simp [Result.andThen, sliced, e]
  · refine ⟨lo * 3, cap - lo, fun wx => ?_, fun h => rfl⟩
    rw [run_slice_lh wx 43 _ n cap (by rw [elem_pages]; exact Tryd.underlying43) .i64 .i64 (lo : Int) (hi : Int) (by omega) (by omega) (by omega), elem_pages, size_page]
    have e2 : (⟨bw, 0, none⟩ : Addr).add (lo * 3) = ⟨bw, lo * 3, none⟩ := by rw [Addr.add_lit, Nat.zero_add]
    simp [Result.andThen, sliced, e, e2]
theorem fill_zero {w : World} {a : Option Addr} {cap : Nat} (x y z : Int) :
    Calls Tryd.prog 93 #[.slice a 0 cap, .agg #[.int .i64 x, .int .i64 y, .int .i64 z]] w fun e w' => e = .returned (.tuple #[]) ∧ Out 0 0 w w' := by
  go_enter Tryd.func93, Tryd.ntmps93
  go_wp2_with fail
  go_loopw [7] (fun u wr => u = .int .i64 0 ∧ Out 0 0 w wr) (fun u _ => 0)
  case atStart => exact ⟨rfl, (Out.refl _ _ _).alloc _⟩
  case round =>
    obtain ⟨rfl, ho⟩ := hrel
    have HO := hid_mk ho
    clear ho
    go_wp2
    exact bodyPost_end (results_none Tryd.results93 _ _ _) rfl ⟨rfl, HO.out⟩
theorem fill_at {w : World} {bw n p k o cap : Nat} {S : Nat → Int × Int × Int} (hr : PRow w bw n S) (hpk : p + k ≤ n) (hn : n ≤ 4096) (ho : 0 < k → o = p * 3) (x y z : Int) :
    Calls Tryd.prog 93 #[.slice (some ⟨bw, o, none⟩) k cap, .agg #[.int .i64 x, .int .i64 y, .int .i64 z]] w fun e w' => e = .returned (.tuple #[]) ∧ PRow w' bw n (putA S p k (x, y, z)) ∧ Out bw (bw + 1) w w' := by
  by_cases h0 : 0 < k
  · rw [ho h0]; exact fill_any hr hpk hn x y z
  · have : k = 0 := by omega
    subst this
    rw [putA_zero]
    exact (fill_zero x y z).mono fun e w' ⟨h1, h2⟩ => ⟨h1, hr.kept h2 (.inr (Nat.zero_le _)), h2.any _ _⟩
set_option maxRecDepth 100000 in
set_option maxHeartbeats 4000000 in
theorem takeRun_some {w : World} {b bw n : Nat} {S : Nat → Int × Int × Int} (h : TblAt 114 w b bw n S) (hT : Tab w) (k : Nat) (h1 : 1 ≤ k) (h2 : k ≤ 16) (p : Nat) (hf : rowF S n k = some p) :
    Calls Tryd.prog 79 #[.pointer (some ⟨b, 0, none⟩), .int .i64 k] w fun e w' => e = .returned (.tuple #[.int .i64 p, .int .i64 0]) ∧ TblAt 114 w' b bw n (setR S p k) ∧ Out bw (bw + 1) w w' := by
  have hn := h.nums
  have HH := hid_mk h
  have HT := hid_mk hT
  have HR : Hid (Calls Tryd.prog 92 #[.pointer (some ⟨b, 0, none⟩), .int .i64 k] w fun e w' => e = .returned (.tuple #[.int .i64 p, .bool true]) ∧ Out 0 0 w w') := by
    obtain ⟨cap, c0, _⟩ := HH.out.cell
    have := row_any c0 HT.out ⟨hn.1, hn.2.1⟩ HH.out.row HH.out.good k h1 h2
    rw [hf] at this
    exact this
  obtain ⟨p1, p2, p3⟩ := rowF_pages HH.out.good hf
  have p4 := p3 p (Nat.le_refl _) (by omega)
  have HG := hid_mk (good_setR HH.out.good p3 h1 h2 p2)
  have b0 : (0 : Int) ≤ (p : Int) := by omega
  have b1 : (p : Int) < (n : Int) := by omega
  have b2 : (n : Int) ≤ 4096 := by omega
  have b3 : (1 : Int) ≤ (k : Int) := by omega
  have b4 : (k : Int) ≤ 16 := by omega
  have b5 : (p : Int) + (k : Int) ≤ (n : Int) := by omega
  have HP := hid_mk p1
  have HP4 := hid_mk p4
  have HB : Hid (4 ≤ b ∧ 4 ≤ bw ∧ bw ≠ b) := ⟨hn.2.2.1, hn.2.2.2.1, hn.2.2.2.2.1⟩
  clear hn h hT hf p1 p2 p3 p4
  go_enter Tryd.func79, Tryd.ntmps79
  go_wp2_with (go_at_call 92; refine HR.out.mono ?_; rintro e w2 ⟨rfl, ho⟩; obtain ⟨cap, c0, hcap⟩ := (HH.out.quiet ho).cell; obtain ⟨q0, q1, q2⟩ := (HH.out.quiet ho).row.page HP.out HP4.out; have fz0 := Row.frozen (HH.out.quiet ho).row (p * 3); have fz1 := Row.frozen (HH.out.quiet ho).row (p * 3 + 1); have fz2 := Row.frozen (HH.out.quiet ho).row (p * 3 + 2); have HO2 := hid_mk ho; clear ho)
  have hr3 := (HH.out.quiet HO2.out).row.set p 2 0 k
  have ho3 : Out bw (bw + 1) w (((w2.setCell ⟨bw, p * 3, none⟩ (.int .i64 2)).setCell ⟨bw, p * 3 + 1, none⟩ (.int .i64 0)).setCell ⟨bw, p * 3 + 2, none⟩ (.int .i64 k)) := (HO2.out.any _ _).set3 (.inl ⟨Nat.le_refl _, Nat.lt_succ_self _⟩) _ _ _
  have d0 := ((Out.refl bw (bw + 1) w2).set3 (b := bw) (o := p * 3) (.inl ⟨Nat.le_refl _, Nat.lt_succ_self _⟩) (.int .i64 2) (.int .i64 0) (.int .i64 k)).cell c0 (by have := HB.out; omega)
  obtain ⟨W3, hW3⟩ : ∃ W3, ((w2.setCell ⟨bw, p * 3, none⟩ (.int .i64 2)).setCell ⟨bw, p * 3 + 1, none⟩ (.int .i64 0)).setCell ⟨bw, p * 3 + 2, none⟩ (.int .i64 k) = W3 := ⟨_, rfl⟩
  rw [hW3] at hr3 ho3 d0 ⊢
  have hT3 := HT.out.kept ho3 (.inl HB.out.2.1)
  obtain ⟨r0, r1, r2⟩ := hT3.r
  have HR3 := hid_mk hr3
  have HO3 := hid_mk ho3
  obtain ⟨l, hl⟩ : ∃ l : Nat, p + 1 = l := ⟨_, rfl⟩
  obtain ⟨u, hu⟩ : ∃ u : Nat, p + k = u := ⟨_, rfl⟩
  obtain ⟨o, cp, hsl, hoo⟩ := slice_at bw n cap l u (by omega) (by omega)
  obtain ⟨ln, hln⟩ : ∃ ln : Nat, u - l = ln := ⟨_, rfl⟩
  rw [hln] at hsl hoo
  have x1 : IntKind.i64.wrap ((p : Int) + 1) = (l : Int) := by simp [IntKind.wrap, IntKind.signed, IntKind.bits]; omega
  have x2 : IntKind.i64.wrap ((p : Int) + (k : Int)) = (u : Int) := by simp [IntKind.wrap, IntKind.signed, IntKind.bits]; omega
  have HF : Hid (∀ w', PRow w' bw n (setP S p (2, 0, (k : Int))) → Calls Tryd.prog 93 #[.slice (some ⟨bw, o, none⟩) ln cp, .agg #[.int .i64 3, .int .i64 0, .int .i64 0]] w' fun e w'' => e = .returned (.tuple #[]) ∧ PRow w'' bw n (setR S p k) ∧ Out bw (bw + 1) w' w'') := fun w' hr => by
    rw [setR_eq S p k h1, show k - 1 = ln from by omega]
    exact fill_at hr (by omega) (by omega) (fun h => by rw [hoo h, hl]) 3 0 0
  clear hr3 ho3 hT3 q0 q1 q2 fz0 fz1 fz2 c0 hW3 hl hu hln hoo
  go_region_held3 (fun w' => w'.cell? ⟨b, 0, none⟩ = some (.slice (some ⟨bw, 0, none⟩) n cap) ∧ w'.cell? ⟨2, 0, none⟩ = some (.int .i64 3) ∧ w'.cell? ⟨2, 1, none⟩ = some (.int .i64 0) ∧ w'.cell? ⟨2, 2, none⟩ = some (.int .i64 0)) (first | go_keep | (refine ⟨?_, ?_, ?_, ?_⟩ <;> exact hOO.cell (by assumption) (by have := HB.out; omega)))
    (first | (go_at_call 93; refine (HF.out _ (by exact HR3.out)).mono ?_; rintro e w4 ⟨rfl, hp4, hOO⟩))
  all_goals (try go_wp2)
  all_goals go_ret2
  all_goals exact ⟨rfl, HH.out.turn (HO3.out.trans ((Out.refl _ _ _).drew.trans hOO)) hp4 HG.out, HO3.out.trans ((Out.refl _ _ _).drew.trans hOO)⟩
theorem takeRun_none {w : World} {b bw n : Nat} {S : Nat → Int × Int × Int} (h : TblAt 114 w b bw n S) (hT : Tab w) (k : Nat) (h1 : 1 ≤ k) (h2 : k ≤ 16) (hf : rowF S n k = none) :
    Calls Tryd.prog 79 #[.pointer (some ⟨b, 0, none⟩), .int .i64 k] w fun e w' => e = .returned (.tuple #[.int .i64 0, .int .i64 20]) ∧ Out 0 0 w w' := by
  have hn := h.nums
  have HR : Hid (Calls Tryd.prog 92 #[.pointer (some ⟨b, 0, none⟩), .int .i64 k] w fun e w' => e = .returned (.tuple #[.int .i64 0, .bool false]) ∧ Out 0 0 w w') := by
    obtain ⟨cap, c0, _⟩ := h.cell
    have := row_any c0 hT ⟨hn.1, hn.2.1⟩ h.row h.good k h1 h2
    rw [hf] at this
    exact this
  have b3 : (1 : Int) ≤ (k : Int) := by omega
  have b4 : (k : Int) ≤ 16 := by omega
  clear hn h hT hf h1 h2
  go_enter Tryd.func79, Tryd.ntmps79
  go_wp2_with (go_at_call 92; refine HR.out.mono ?_; rintro e w2 ⟨rfl, ho⟩)
  go_ret2
  exact ⟨rfl, ho⟩
theorem takeRun_any {w : World} {b bw n : Nat} {S : Nat → Int × Int × Int} (h : TblAt 114 w b bw n S) (hT : Tab w) (c : Int) :
    Calls Tryd.prog 79 #[.pointer (some ⟨b, 0, none⟩), .int .i64 c] w fun e w' => e = .returned (.tuple #[.int .i64 (trP S n c : Nat), .int .i64 (trE S n c)]) ∧ TblAt 114 w' b bw n (trS S n c) ∧ Out bw (bw + 1) w w' := by
  unfold trP trE trS
  by_cases hc : runB c = true
  · rw [if_pos hc, if_pos hc, if_pos hc]
    unfold runB at hc
    simp at hc
    obtain ⟨k, rfl⟩ : ∃ k : Nat, c = k := ⟨c.toNat, by omega⟩
    rw [show ((k : Nat) : Int).toNat = k from by omega]
    cases hf : rowF S n k with
    | none => exact (takeRun_none h hT k (by omega) (by omega) hf).mono fun e w' ⟨a, o⟩ => ⟨a, h.quiet o, o.any _ _⟩
    | some p => exact takeRun_some h hT k (by omega) (by omega) p hf
  · rw [if_neg hc, if_neg hc, if_neg hc]
    unfold runB at hc
    simp at hc
    have H := hid_mk h
    by_cases h1 : 1 ≤ c
    · have h2 : 16 < c := by omega
      clear h hT hc
      go_enter Tryd.func79, Tryd.ntmps79
      go_wp2
      go_ret2
      exact ⟨rfl, H.out, Out.refl _ _ _⟩
    · have h2 : c < 1 := by omega
      clear h hT hc h1
      go_enter Tryd.func79, Tryd.ntmps79
      go_wp2
      go_ret2
      exact ⟨rfl, H.out, Out.refl _ _ _⟩
set_option maxRecDepth 100000 in
set_option maxHeartbeats 4000000 in
theorem give_yes {w : World} {b bw n : Nat} {S : Nat → Int × Int × Int} (h : TblAt 114 w b bw n S) (hT : Tab w) (p : Nat) (hp : p < n) (hk : (S p).1 = 1 ∨ (S p).1 = 2) :
    Calls Tryd.prog 87 #[.pointer (some ⟨b, 0, none⟩), .int .i64 p] w fun e w' => e = .returned (.int .i64 0) ∧ TblAt 114 w' b bw n (setF S p (lenP (S p))) ∧ Out bw (bw + 1) w w' := by
  have hn := h.nums
  have HH := hid_mk h
  have HT := hid_mk hT
  obtain ⟨l1, l2, l3, _, hkind⟩ := give_cases h.good hp hk
  have HG := hid_mk (good_give h.good hp hk)
  have e1 : inB n (p : Int) = true := by unfold inB; simp; omega
  have e2 : stP S n (p : Int) = S p := by unfold stP; rw [e1]; rfl
  obtain ⟨x, y, z, hxyz⟩ := page_of (S p)
  have HS : Hid (∀ w', Out 0 0 w w' → Calls Tryd.prog 95 #[.pointer (some ⟨b, 0, none⟩), .int .i64 p] w' fun e w' => e = .returned (.tuple #[.agg #[.int .i64 x, .int .i64 y, .int .i64 z], .bool true]) ∧ Out 0 0 w w') := fun w' ho => by
    have := state_any (h.quiet ho) (p : Int)
    rw [e1, e2, hxyz] at this
    exact this.mono fun e w' ⟨a, b⟩ => ⟨a, ho.trans b⟩
  obtain ⟨L, hL⟩ : ∃ L, lenP (S p) = L := ⟨_, rfl⟩
  rw [hL] at l1 l2 l3 hkind HG ⊢
  rw [hxyz] at hkind
  have hx0 : (x == 0) = false := by rcases hkind with ⟨a, _⟩ | ⟨a, _⟩ <;> (simp at a; subst a; rfl)
  have hx3 : (x == 3) = false := by rcases hkind with ⟨a, _⟩ | ⟨a, _⟩ <;> (simp at a; subst a; rfl)
  have HZ : Hid (max z 1 = (L : Int) ∧ 0 ≤ z ∧ z ≤ 16) := by
    show _ ∧ _
    rcases hkind with ⟨a, b, c⟩ | ⟨a, b⟩
    · simp at c; subst c; subst b; decide
    · simp at b; subst b; omega
  have b0 : (0 : Int) ≤ (p : Int) := by omega
  have b1 : (p : Int) < (n : Int) := by omega
  have b2 : (n : Int) ≤ 4096 := by omega
  have HB : Hid (4 ≤ b ∧ 4 ≤ bw ∧ bw ≠ b ∧ p + L ≤ n ∧ n ≤ 4096) := ⟨hn.2.2.1, hn.2.2.2.1, hn.2.2.2.2.1, l3, hn.2.1⟩
  clear hn h hT l1 l2 l3 hkind e1 e2 hL hxyz hk
  go_enter Tryd.func87, Tryd.ntmps87
  go_wp2_with (go_at_call 95; refine (HS.out _ (by first | exact Out.refl 0 0 _ | exact (Out.refl 0 0 _).alloc _)).mono ?_; rintro e w2 ⟨rfl, ho'⟩; have HX : Hid (w.heap.size ≤ w2.heap.size) := ho'.size; have ho := ho'.alloc (.cells #[.int .i64 x, .int .i64 y, .int .i64 z] 54); have HO2 := hid_mk ho; obtain ⟨f0, f1, f2⟩ := (HT.out.quiet ho).f; obtain ⟨r0, r1, r2⟩ := (HT.out.quiet ho).r; obtain ⟨cap, c0, hcap⟩ := (HH.out.quiet ho).cell; clear ho ho')
  obtain ⟨x0, x1', x2'⟩ := box3 (heap_alloc_new w2 (.cells #[.int .i64 x, .int .i64 y, .int .i64 z] 54))
  obtain ⟨W3, hW3⟩ : ∃ W3, w2.alloc (.cells #[.int .i64 x, .int .i64 y, .int .i64 z] 54) = W3 := ⟨_, rfl⟩
  obtain ⟨X, hX⟩ : ∃ X, w2.heap.size = X := ⟨_, rfl⟩
  have hXw : w.heap.size ≤ X := hX ▸ HX.out
  rw [hW3] at HO2 f0 f1 f2 r0 r1 r2 c0 x2' ⊢
  rw [hX] at x2' ⊢
  obtain ⟨u, hu⟩ : ∃ u : Nat, p + L = u := ⟨_, rfl⟩
  obtain ⟨o, cp, hsl, hoo⟩ := slice_at bw n cap p u (by omega) (by have := HB.out; omega)
  obtain ⟨ln, hln⟩ : ∃ ln : Nat, u - p = ln := ⟨_, rfl⟩
  rw [hln] at hsl hoo
  have hmx : (if (1 : Int) > z then (1 : Int) else z) = (L : Int) := by have := HZ.out; split <;> omega
  have hmx2 : (if z < 1 then (1 : Int) else z) = (L : Int) := by have := HZ.out; split <;> omega
  have y2 : IntKind.i64.wrap ((p : Int) + (L : Int)) = (u : Int) := by have := HB.out; simp [IntKind.wrap, IntKind.signed, IntKind.bits]; omega
  have HF : Hid (∀ w', PRow w' bw n S → Calls Tryd.prog 93 #[.slice (some ⟨bw, o, none⟩) ln cp, .agg #[.int .i64 0, .int .i64 0, .int .i64 0]] w' fun e w'' => e = .returned (.tuple #[]) ∧ PRow w'' bw n (setF S p L) ∧ Out bw (bw + 1) w' w'') := fun w' hr => by
    rw [setF_eq S p L, show L = ln from by omega]
    exact fill_at hr (by have := HB.out; omega) (by have := HB.out; omega) hoo 0 0 0
  have HR3 := hid_mk (HH.out.quiet HO2.out).row
  have HX2 : Hid (bw < X) := by show bw < X; have := HH.out.nums; omega
  clear hu hln hoo hW3 hX x0 x1' hXw r0 r1 r2
  go_region_held3 (fun w' => w'.cell? ⟨b, 0, none⟩ = some (.slice (some ⟨bw, 0, none⟩) n cap) ∧ w'.cell? ⟨X, 2, none⟩ = some (.int .i64 z) ∧ w'.cell? ⟨3, 0, none⟩ = some (.int .i64 0) ∧ w'.cell? ⟨3, 1, none⟩ = some (.int .i64 0) ∧ w'.cell? ⟨3, 2, none⟩ = some (.int .i64 0)) (first | go_keep | (refine ⟨?_, ?_, ?_, ?_, ?_⟩ <;> exact hOO.cell (by assumption) (by have := HB.out; have := HX2.out; omega)))
    (first | (go_at_call 93; refine (HF.out _ (by exact HR3.out)).mono ?_; rintro e w4 ⟨rfl, hp4, hOO⟩))
  all_goals (try go_wp2)
  all_goals go_ret
  all_goals exact ⟨rfl, HH.out.turn ((HO2.out.any _ _).trans ((Out.refl _ _ _).drew.trans hOO)) hp4 HG.out, (HO2.out.any _ _).trans ((Out.refl _ _ _).drew.trans hOO)⟩
end Go.Proofs.YtjbbkeoolodeaabDoor
namespace Go.Proofs.YtjbbkeoolodeaabDoor
open Go.RowKit
set_option linter.unusedVariables false
set_option linter.unusedSimpArgs false

/-- what State answers where nothing is given -/
def NoGive (x : Int) (ok : Bool) : Prop := ok = false ∨ x = 0 ∨ x = 3
set_option maxRecDepth 100000 in
set_option maxHeartbeats 4000000 in
theorem give_no {w : World} {b : Nat} (hT : Tab w) (p : Int) (x : Int) (ok : Bool) (hx : NoGive x ok)
    (HS : Hid (∀ w', Out 0 0 w w' → Calls Tryd.prog 95 #[.pointer (some ⟨b, 0, none⟩), .int .i64 p] w' fun e w' => e = .returned (.tuple #[.agg #[.int .i64 x, .int .i64 0, .int .i64 0], .bool ok]) ∧ Out 0 0 w w')) :
    Calls Tryd.prog 87 #[.pointer (some ⟨b, 0, none⟩), .int .i64 p] w fun e w' => e = .returned (.int .i64 1) ∧ Out 0 0 w w' := by
  have HT := hid_mk hT
  clear hT
  rcases hx with rfl | rfl | rfl
  · go_enter Tryd.func87, Tryd.ntmps87
    go_wp2_with (go_at_call 95; refine (HS.out _ (Out.refl 0 0 _)).mono ?_; rintro e w2 ⟨rfl, ho'⟩; have HO2 := hid_mk (ho'.alloc (.cells #[.int .i64 x, .int .i64 0, .int .i64 0] 54)); obtain ⟨f0, f1, f2⟩ := (HT.out.quiet HO2.out).f; obtain ⟨r0, r1, r2⟩ := (HT.out.quiet HO2.out).r; clear ho')
    all_goals go_ret
    all_goals exact ⟨rfl, HO2.out⟩
  · cases ok
    all_goals
      go_enter Tryd.func87, Tryd.ntmps87
      go_wp2_with (go_at_call 95; refine (HS.out _ (Out.refl 0 0 _)).mono ?_; rintro e w2 ⟨rfl, ho'⟩; have HO2 := hid_mk (ho'.alloc (.cells #[.int .i64 0, .int .i64 0, .int .i64 0] 54)); obtain ⟨f0, f1, f2⟩ := (HT.out.quiet HO2.out).f; obtain ⟨r0, r1, r2⟩ := (HT.out.quiet HO2.out).r; clear ho')
      go_ret
      exact ⟨rfl, HO2.out⟩
  · cases ok
    all_goals
      go_enter Tryd.func87, Tryd.ntmps87
      go_wp2_with (go_at_call 95; refine (HS.out _ (Out.refl 0 0 _)).mono ?_; rintro e w2 ⟨rfl, ho'⟩; have HO2 := hid_mk (ho'.alloc (.cells #[.int .i64 3, .int .i64 0, .int .i64 0] 54)); obtain ⟨f0, f1, f2⟩ := (HT.out.quiet HO2.out).f; obtain ⟨r0, r1, r2⟩ := (HT.out.quiet HO2.out).r; clear ho')
      go_ret
      exact ⟨rfl, HO2.out⟩
theorem give_parts {n : Nat} {S : Nat → Int × Int × Int} {p : Int} (hg : Good n S) (h : giveB S n p = false) : ∃ x, stP S n p = (x, 0, 0) ∧ NoGive x (inB n p) := by
  unfold giveB at h
  cases hb : inB n p with
  | false => exact ⟨0, by unfold stP; rw [hb]; rfl, .inl rfl⟩
  | true =>
    rw [hb] at h
    unfold stP
    rw [hb]
    have hi : p.toNat < n := by unfold inB at hb; simp at hb; omega
    rcases hg.cases hi with e | ⟨c, _, _, e⟩ | ⟨k, _, _, _, e⟩ | e
    · exact ⟨0, by rw [if_pos rfl, e], .inr (.inl rfl)⟩
    · rw [e] at h; simp at h
    · rw [e] at h; simp at h
    · exact ⟨3, by rw [if_pos rfl, e], .inr (.inr rfl)⟩
theorem give_any {w : World} {b bw n : Nat} {S : Nat → Int × Int × Int} (h : TblAt 114 w b bw n S) (hT : Tab w) (p : Int) :
    Calls Tryd.prog 87 #[.pointer (some ⟨b, 0, none⟩), .int .i64 p] w fun e w' => e = .returned (.int .i64 (gvE S n p)) ∧ TblAt 114 w' b bw n (gvS S n p) ∧ Out bw (bw + 1) w w' := by
  unfold gvE gvS
  by_cases hb : giveB S n p = true
  · rw [if_pos hb, if_pos hb]
    have hb' := hb
    unfold giveB inB at hb
    simp at hb
    obtain ⟨k, rfl⟩ : ∃ k : Nat, p = k := ⟨p.toNat, by omega⟩
    exact give_yes h hT k (by omega) (by simpa using hb.2)
  · rw [if_neg hb, if_neg hb]
    obtain ⟨x, e, hx⟩ := give_parts h.good (by simpa using hb)
    refine (give_no hT p x (inB n p) hx (fun w' ho => ?_)).mono fun e w' ⟨a, o⟩ => ⟨a, h.quiet o, o.any _ _⟩
    have := state_any (h.quiet ho) p
    rw [e] at this
    exact this.mono fun e w' ⟨a, b⟩ => ⟨a, ho.trans b⟩
/-! New -/
theorem info_page : (Tryd.prog.info? 54).map (fun i => (i.zero, i.size, i.bytes)) = some (some (.agg #[.int .i64 0, .int .i64 0, .int .i64 0]), 3, 24) := by kernel_rfl
theorem info_parts {T : TypeId} {z : Value} {a b : Nat} (h : (Tryd.prog.info? T).map (fun i => (i.zero, i.size, i.bytes)) = some (some z, a, b)) : ∃ i, Tryd.prog.info? T = some i ∧ i.zero = some z ∧ i.size = a ∧ i.bytes = b := by
  cases hi : Tryd.prog.info? T with
  | none => rw [hi] at h; cases h
  | some i => rw [hi] at h; simp at h; exact ⟨i, rfl, h.1, h.2.1, h.2.2⟩
theorem made3 {i k : Nat} (h : i < k) : (madeCells #[Value.int .i64 0, .int .i64 0, .int .i64 0] k)[i]? = some (.int .i64 0) := by
  have hm : i % 3 = 0 ∨ i % 3 = 1 ∨ i % 3 = 2 := by omega
  rcases hm with hm | hm | hm <;> simp [madeCells, h, hm]
theorem make_pages (n : Nat) (hn : n ≤ 4096) : ∃ cur : Array Value, (∀ i, i < n * 3 → cur[i]? = some (.int .i64 0)) ∧ cur.size = n * 3 ∧ ∀ w : World, (Instr.makeSlice 43 (.int .i64 (n : Int)) (.int .i64 (n : Int))).run Tryd.prog w = .ok (.slice (some ⟨w.heap.size, 0, none⟩) n n) (w.alloc (.cells cur 54)) := by
  obtain ⟨i0, hi, hz0, hz1, hz2⟩ := info_parts info_page
  refine ⟨madeCells #[Value.int .i64 0, .int .i64 0, .int .i64 0] (n * 3), fun i h => made3 h, size_madeCells _ _, fun w => ?_⟩
  have := run_make (P := Tryd.prog) w 43 54 i0 _ Tryd.underlying43 hi hz0 .i64 .i64 (n : Int) (n : Int) (by omega) (Int.le_refl _) (by rw [hz2]; omega) (by omega)
  rw [this, hz1]
  simp [Value.cells]
theorem table_new {T : TypeId} {w : World} {cur : Array Value} {n : Nat} (h1 : 1 ≤ n) (h2 : n ≤ 4096) (hw : 4 ≤ w.heap.size) (hc : ∀ i, i < n * 3 → cur[i]? = some (.int .i64 0)) (hs : cur.size = n * 3) :
    TblAt T ((w.alloc (.cells cur 54)).alloc (.cells #[.slice (some ⟨w.heap.size, 0, none⟩) n n] T)) (w.heap.size + 1) w.heap.size n (fun _ => (0, 0, 0)) := by
  refine ⟨n, ?_, Nat.le_refl _, by omega, by omega, hw, h1, h2, good_free n, cur, ?_, by omega, fun i hi => ?_⟩
  · have := heap_alloc_new (w.alloc (.cells cur 54)) (.cells #[.slice (some ⟨w.heap.size, 0, none⟩) n n] T)
    simpa using this
  · rw [heap_alloc_old _ _ (by simp)]; exact heap_alloc_new _ _
  · rw [hc i hi]; unfold pcell fld; simp
def newB (n : Int) : Bool := decide (1 ≤ n) && decide (n ≤ 4096)
set_option maxHeartbeats 1000000 in
theorem new_yes {w : World} (hT : Tab w) (n : Nat) (h1 : 1 ≤ n) (h2 : n ≤ 4096) :
    Calls Tryd.prog 46 #[.int .i64 n] w fun e w' => e = .returned (.tuple #[.pointer (some ⟨w.heap.size + 1, 0, none⟩), .int .i64 0]) ∧ TblAt 114 w' (w.heap.size + 1) w.heap.size n (fun _ => (0, 0, 0)) ∧ Out 0 0 w w' ∧ w'.heap.size = w.heap.size + 2 := by
  obtain ⟨cur, hc, hs, hmk⟩ := make_pages n h2
  have HN := hid_mk (fun T => table_new (T := T) h1 h2 hT.lt hc hs)
  have b1 : (1 : Int) ≤ (n : Int) := by omega
  have b2 : (n : Int) ≤ 4096 := by omega
  clear hT h1 h2 hc hs
  go_enter Tryd.func46, Tryd.ntmps46
  go_wp2
  go_ret2
  exact ⟨rfl, HN.out _, ((Out.refl _ _ _).alloc _).alloc _, by simp⟩
theorem new_no (n : Int) (h : newB n = false) (w : World) :
    Calls Tryd.prog 46 #[.int .i64 n] w fun e w' => e = .returned (.tuple #[.pointer none, .int .i64 1]) ∧ w' = w := by
  unfold newB at h
  simp at h
  by_cases h1 : 1 ≤ n
  · have h2 : 4096 < n := by omega
    clear h
    go_enter Tryd.func46, Tryd.ntmps46
    go_wp2
    go_ret2
    exact ⟨rfl, rfl⟩
  · have h2 : n < 1 := by omega
    clear h h1
    go_enter Tryd.func46, Tryd.ntmps46
    go_wp2
    go_ret2
    exact ⟨rfl, rfl⟩
end Go.Proofs.YtjbbkeoolodeaabDoor
namespace Go.Proofs.YtjbbkeoolodeaabDoor
open Go.RowKit
set_option linter.unusedVariables false
set_option linter.unusedSimpArgs false

def pgs (l : List (Int × Int × Int)) : List Value := l.flatMap fun p => [.int .i64 p.1, .int .i64 p.2.1, .int .i64 p.2.2]
theorem pgs_cons (p : Int × Int × Int) (l : List (Int × Int × Int)) : pgs (p :: l) = .int .i64 p.1 :: .int .i64 p.2.1 :: .int .i64 p.2.2 :: pgs l := rfl
theorem pgs_append (a b : List (Int × Int × Int)) : pgs (a ++ b) = pgs a ++ pgs b := by unfold pgs; rw [List.flatMap_append]
theorem pgs_len (l : List (Int × Int × Int)) : (pgs l).length = l.length * 3 := by
  induction l with
  | nil => rfl
  | cons p l ih => rw [pgs_cons]; simp [ih]; omega
theorem pgs_at {l : List (Int × Int × Int)} : ∀ {i : Nat} {p : Int × Int × Int}, l[i]? = some p → (pgs l)[i * 3]? = some (.int .i64 p.1) ∧ (pgs l)[i * 3 + 1]? = some (.int .i64 p.2.1) ∧ (pgs l)[i * 3 + 2]? = some (.int .i64 p.2.2) := by
  induction l with
  | nil => intro i p h; simp at h
  | cons q l ih =>
    intro i p h
    rw [pgs_cons]
    cases i with
    | zero => simp at h; subst h; exact ⟨rfl, rfl, rfl⟩
    | succ i =>
      have := ih (i := i) (p := p) (by simpa using h)
      rw [show (i + 1) * 3 = i * 3 + 3 from by omega]
      simpa using this
theorem pgs_one (l : List (Int × Int × Int)) : ∀ u ∈ pgs l, u.oneCell' = true := by
  intro u hu
  unfold pgs at hu
  rw [List.mem_flatMap] at hu
  obtain ⟨p, _, hu⟩ := hu
  simp at hu
  rcases hu with rfl | rfl | rfl <;> rfl
def pgl (S : Nat → Int × Int × Int) (n : Nat) : List (Int × Int × Int) := (List.range n).map S
theorem pgl_len (S : Nat → Int × Int × Int) (n : Nat) : (pgl S n).length = n := by unfold pgl; simp
theorem pgl_at (S : Nat → Int × Int × Int) {n i : Nat} (h : i < n) : (pgl S n)[i]? = some (S i) := by unfold pgl; simp [h]
theorem pgs_cell (S : Nat → Int × Int × Int) (n : Nat) {j : Nat} (h : j < n * 3) : (pgs (pgl S n))[j]? = some (pcell S j) := by
  obtain ⟨a, b, c⟩ := pgs_at (pgl_at S (n := n) (i := j / 3) (by omega))
  unfold pcell
  have hm : j % 3 = 0 ∨ j % 3 = 1 ∨ j % 3 = 2 := by omega
  rcases hm with hm | hm | hm
  · rw [show j / 3 * 3 = j from by omega] at a; rw [a, hm]; rfl
  · rw [show j / 3 * 3 + 1 = j from by omega] at b; rw [b, hm]; rfl
  · rw [show j / 3 * 3 + 2 = j from by omega] at c; rw [c, hm]; rfl
/-- a list of pages as an answer -/
def ListIs (w : World) (base : Nat) (v : Value) (l : List (Int × Int × Int)) : Prop := w.ownsRow base 54 3 v l.length (pgs l)
theorem own_kept {w w' : World} {v : Value} {base k lo hi s : Nat} {xs : List Value} {T : TypeId} (h : w.ownsRow base T s v k xs) (o : Out lo hi w w') (hd : hi ≤ base) : w'.ownsRow base T s v k xs := by
  obtain ⟨hlen, hcase⟩ := h
  refine ⟨hlen, ?_⟩
  rcases hcase with ⟨hv, h0⟩ | ⟨g, cap', cur, rfl, hg1, hg2, hg3⟩
  · exact .inl ⟨hv, h0⟩
  · exact .inr ⟨g, cap', cur, rfl, hg1, o.heap hg2 (.inr (by omega)), hg3⟩
theorem ListIs.kept {w w' : World} {base lo hi : Nat} {v : Value} {l : List (Int × Int × Int)} (h : ListIs w base v l) (o : Out lo hi w w') (hd : hi ≤ base) : ListIs w' base v l := own_kept h o hd
theorem own_mono {w : World} {a b n s : Nat} {T : TypeId} {v : Value} {xs : List Value} (h : w.ownsRow a T s v n xs) (hab : b ≤ a) : w.ownsRow b T s v n xs := by
  obtain ⟨h1, h2⟩ := h
  refine ⟨h1, ?_⟩
  rcases h2 with h2 | ⟨g, cap, cur, e, hg, r⟩
  · exact .inl h2
  · exact .inr ⟨g, cap, cur, e, Nat.le_trans hab hg, r⟩
theorem own_lt {w : World} {B n s : Nat} {T : TypeId} {v : Value} {xs : List Value} (h : w.ownsRow B T s v n xs) {x : Nat} (hx : v.ownBlock = some x) : x < w.heap.size := (h.lt x hx).2
theorem own_shape {w : World} {B n s : Nat} {T : TypeId} {v : Value} {xs : List Value} (h : w.ownsRow B T s v n xs) : ∃ a cap, v = .slice a n cap := by
  rcases h.2 with ⟨e, h0⟩ | ⟨g, cap, cur, e, _⟩
  · exact ⟨none, 0, by rw [e, h0]⟩
  · exact ⟨_, _, e⟩
theorem own_cells {w : World} {B n g cap s : Nat} {T : TypeId} {xs : List Value} (h : w.ownsRow B T s (.slice (some ⟨g, 0, none⟩) n cap) n xs) : ∀ j u, xs[j]? = some u → w.cell? ((⟨g, 0, none⟩ : Addr).add j) = some u := h.cells (g := g) rfl
theorem row_cell {w : World} {B n g cap s : Nat} {T : TypeId} {xs : List Value} (h : w.ownsRow B T s (.slice (some ⟨g, 0, none⟩) n cap) n xs) {j : Nat} {u : Value} (hu : xs[j]? = some u) : w.cell? ⟨g, j, none⟩ = some u := by
  have := own_cells h j u hu
  rw [Addr.add_lit, Nat.zero_add] at this
  exact this
/-- page i of a block -/
def PgAt (w : World) (g i : Nat) (p : Int × Int × Int) : Prop := w.cell? ⟨g, i * 3, none⟩ = some (.int .i64 p.1) ∧ w.cell? ⟨g, i * 3 + 1, none⟩ = some (.int .i64 p.2.1) ∧ w.cell? ⟨g, i * 3 + 2, none⟩ = some (.int .i64 p.2.2)
theorem PgAt.kept {w w' : World} {lo hi g i : Nat} {p : Int × Int × Int} (h : PgAt w g i p) (o : Out lo hi w w') (hd : g < lo ∨ hi ≤ g) : PgAt w' g i p := ⟨o.cell h.1 hd, o.cell h.2.1 hd, o.cell h.2.2 hd⟩
/-- a list that can be read -/
def SliceIs (w : World) (v : Value) (l : List (Int × Int × Int)) : Prop := ∃ a cap, v = .slice a l.length cap ∧ (0 < l.length → ∃ g, a = some ⟨g, 0, none⟩ ∧ g < w.heap.size ∧ ∀ i p, l[i]? = some p → PgAt w g i p)
theorem SliceIs.kept {w w' : World} {v : Value} {l : List (Int × Int × Int)} (h : SliceIs w v l) (o : Out 0 0 w w') : SliceIs w' v l := by
  obtain ⟨a, cap, e, hr⟩ := h
  refine ⟨a, cap, e, fun h0 => ?_⟩
  obtain ⟨g, g0, g1, g2⟩ := hr h0
  exact ⟨g, g0, Nat.lt_of_lt_of_le g1 o.size, fun i p hp => (g2 i p hp).kept o (.inr (Nat.zero_le _))⟩
theorem list_shape {w : World} {B : Nat} {v : Value} {l : List (Int × Int × Int)} (h : ListIs w B v l) : ∃ a cap, v = .slice a l.length cap ∧ (0 < l.length → ∃ g, a = some ⟨g, 0, none⟩ ∧ v.ownBlock = some g ∧ g < w.heap.size ∧ ∀ i p, l[i]? = some p → PgAt w g i p) := by
  have h' := h
  rcases h.2 with ⟨e, h0⟩ | ⟨g, cap, cur, e, _, hg, _⟩
  · exact ⟨none, 0, by rw [e, h0], fun h => by omega⟩
  · refine ⟨_, _, e, fun _ => ⟨g, rfl, by rw [e]; rfl, heap_lt hg, fun i p hp => ?_⟩⟩
    unfold ListIs at h'
    rw [e] at h'
    obtain ⟨a, b, c⟩ := pgs_at hp
    exact ⟨row_cell h' a, row_cell h' b, row_cell h' c⟩
theorem ListIs.slice {w : World} {B : Nat} {v : Value} {l : List (Int × Int × Int)} (h : ListIs w B v l) : SliceIs w v l := by
  obtain ⟨a, cap, e, hr⟩ := list_shape h
  exact ⟨a, cap, e, fun h0 => by obtain ⟨g, g0, _, g1, g2⟩ := hr h0; exact ⟨g, g0, g1, g2⟩⟩
theorem PRow.slice {w : World} {b n cap : Nat} {S : Nat → Int × Int × Int} (h : PRow w b n S) : SliceIs w (.slice (some ⟨b, 0, none⟩) n cap) (pgl S n) := by
  refine ⟨_, cap, by rw [pgl_len], fun _ => ⟨b, rfl, Row.lt h, fun i p hp => ?_⟩⟩
  have hi : i < n := by have := (List.getElem?_eq_some_iff.1 hp).1; rw [pgl_len] at this; exact this
  rw [pgl_at S hi] at hp
  cases hp
  exact h.cells hi
theorem ListIs.row {w : World} {B g n cap : Nat} {S : Nat → Int × Int × Int} (h : ListIs w B (.slice (some ⟨g, 0, none⟩) n cap) (pgl S n)) : PRow w g n S ∧ B ≤ g ∧ n ≤ cap := by
  unfold ListIs at h
  rw [pgl_len] at h
  rcases h.2 with ⟨e, h0⟩ | ⟨g', cap', cur, e, h1, h2, h3, h4, h5, h6⟩
  · cases e
  · cases e
    refine ⟨⟨cur, h2, by omega, fun i hi => ?_⟩, h1, h3⟩
    have e : (cur.toList.take (n * 3))[i]? = (pgs (pgl S n))[i]? := by rw [h6]
    rw [pgs_cell S n hi] at e
    simp [hi] at e
    simpa using e
set_option maxHeartbeats 1000000 in
theorem clone_any {w : World} {bw n cap : Nat} {S : Nat → Int × Int × Int} (hr : PRow w bw n S) (h1 : 1 ≤ n) (hk : n ≤ 4096) :
    Calls Tryd.prog 51 #[.slice (some ⟨bw, 0, none⟩) n cap] w fun e w' => ∃ g cap', e = .returned (.slice (some ⟨g, 0, none⟩) n cap') ∧ ListIs w' w.heap.size (.slice (some ⟨g, 0, none⟩) n cap') (pgl S n) ∧ Out 0 0 w w' := by
  obtain ⟨i0, hi, hz0, hz1, hz2⟩ := info_parts info_page
  have heq := fun w => Lib.run_eql_slice_nil (P := Tryd.prog) w 43 54 (some ⟨bw, 0, none⟩) n cap 0 0 Tryd.underlying43
  simp at heq
  have hown : (w.alloc (.cells #[] 54)).ownsRow w.heap.size 54 3 (.slice (some ⟨w.heap.size, 0, none⟩) 0 0) 0 [] :=
    ⟨rfl, .inr ⟨w.heap.size, 0, #[], rfl, Nat.le_refl _, heap_alloc_new _ _, Nat.le_refl _, Nat.zero_le _, rfl, rfl⟩⟩
  have hnews : ∀ j u, (pgs (pgl S n))[j]? = some u → (w.alloc (.cells #[] 54)).cell? ((⟨bw, 0, none⟩ : Addr).add j) = some u := by
    intro j u hj
    have hjk : j < n * 3 := by
      have := (List.getElem?_eq_some_iff.1 hj).1
      rw [pgs_len, pgl_len] at this
      exact this
    rw [pgs_cell S n hjk] at hj
    cases hj
    have := (PRow.kept hr ((Out.refl 0 0 w).alloc (.cells #[] 54)) (.inr (Nat.zero_le _))).cell hjk
    rw [Addr.add_lit, Nat.zero_add]
    exact this
  have HOW := hid_mk hown
  have HNE := hid_mk hnews
  have HK : Hid (1 ≤ n ∧ n ≤ 4096) := ⟨h1, hk⟩
  clear hown hnews hr h1 hk
  go_enter Tryd.func51, Tryd.ntmps51
  go_wp2_with (at_builtin; refine wpList_append_own _ rfl _ _ 43 rfl w.heap.size 54 i0 (.agg #[.int .i64 0, .int .i64 0, .int .i64 0]) 3 24 Tryd.underlying43 hi hz0 hz1 hz2 rfl (by decide) (.slice (some ⟨w.heap.size, 0, none⟩) 0 0) 0 [] rfl HOW.out ⟨bw, 0, none⟩ n cap (pgs (pgl S n)) rfl (by rw [pgs_len, pgl_len]) HNE.out (pgs_one _) (by unfold maxLen; have := HK.out; omega) (by have := HK.out; omega) (by simp) ?_; intro v' w1 hown' hgrow hnil)
  rw [Nat.zero_add, List.nil_append] at hown'
  obtain ⟨g, cap', rfl, hg, _⟩ := hown'.form (by have := HK.out; omega)
  have hO : Out 0 0 w w1 := by
    have h0 : Out 0 0 w (w.alloc (.cells #[] 54)) := (Out.refl _ _ _).alloc _
    exact ⟨hgrow.os.trans h0.1, hgrow.tape.trans h0.2.1, hgrow.output.trans h0.2.2.1, Nat.le_trans h0.size hgrow.size, fun j h1 h2 => (hgrow.block j (Nat.lt_of_lt_of_le h1 h0.size) (by simp [Value.ownBlock]; omega)).trans (h0.block h1 h2)⟩
  have HL : Hid (ListIs w1 w.heap.size (.slice (some ⟨g, 0, none⟩) n cap') (pgl S n)) := by
    show World.ownsRow _ _ _ _ _ _ _
    rw [pgl_len]; exact hown'
  have HO := hid_mk hO
  clear hown' hgrow hnil hO hg
  go_wp2
  go_ret
  exact ⟨g, cap', by simp, HL.out, HO.out⟩
theorem all_any {w : World} {b bw n : Nat} {S : Nat → Int × Int × Int} (h : TblAt 114 w b bw n S) :
    Calls Tryd.prog 34 #[.pointer (some ⟨b, 0, none⟩)] w fun e w' => ∃ g cap', e = .returned (.slice (some ⟨g, 0, none⟩) n cap') ∧ ListIs w' w.heap.size (.slice (some ⟨g, 0, none⟩) n cap') (pgl S n) ∧ Out 0 0 w w' := by
  obtain ⟨cap, c0, _⟩ := h.cell
  have H := hid_mk (list_cell c0)
  have HC := hid_mk (clone_any (cap := cap) h.row h.nums.1 h.nums.2.1)
  clear c0 h
  go_enter Tryd.func34, Tryd.ntmps34
  go_wp2_with (first | (go_at_call 52; refine calls_same H.out ?_) | (go_at_call 51; refine HC.out.mono ?_; rintro e w1 ⟨g, cap', rfl, hl, ho⟩; have HL := hid_mk hl; clear hl))
  go_ret
  exact ⟨g, cap', rfl, HL.out, ho⟩
end Go.Proofs.YtjbbkeoolodeaabDoor
