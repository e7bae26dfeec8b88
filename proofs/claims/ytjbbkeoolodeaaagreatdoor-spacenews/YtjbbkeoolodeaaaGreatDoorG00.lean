import Derived.Test.YtjbbkeoolodeaaaGreatDoorRows
import Derived.Test.YtjbbkeoolodeaaaGreatDoorChecked
import Derived.WalkKit
import Derived.Carry
import Derived.OwnWalk
import Derived.Deep.RegionHeld3
import Derived.Deep.OwnRows
import Derived.Lib.TrailingZeros
namespace Go.Proofs.YtjbbkeoolodeaaaGreatDoor
open Go.RowKit
set_option linter.unusedVariables false
set_option linter.unusedSimpArgs false

theorem hid_mk {p : Prop} (h : p) : Hid p := h
theorem ret_int {k : IntKind} {a b : Int} (h : a = b) : Ending.returned (.int k a) = .returned (.int k b) := by rw [h]
theorem ret_bool {a b : Bool} (h : a = b) : Ending.returned (.bool a) = .returned (.bool b) := by rw [h]
theorem ret_ib {k : IntKind} {a b : Int} {p q : Bool} (h : a = b) (g : p = q) : Ending.returned (.tuple #[.int k a, .bool p]) = .returned (.tuple #[.int k b, .bool q]) := by rw [h, g]
theorem calls_same {f : FuncId} {args : Array Value} {v : Value} {w : World} {Q : Ending → World → Prop} (h : Calls Tryz.prog f args w (fun e w' => e = .returned v ∧ w' = w)) (hq : Q (.returned v) w) : Calls Tryz.prog f args w Q :=
  h.mono fun _ _ ⟨he, hw⟩ => by rw [he, hw]; exact hq
theorem i64_bounds {n : Int} (h : (Lit.int .i64 n).wf = true) : -9223372036854775808 ≤ n ∧ n ≤ 9223372036854775807 := by
  simpa [Lit.wf, IntKind.min, IntKind.max, IntKind.signed, IntKind.bits] using h

/-- all blocks that were there are as they were, those from lo on below hi aside -/
def Out (lo hi : Nat) (w w' : World) : Prop :=
  w'.os = w.os ∧ w'.tape = w.tape ∧ w'.output = w.output ∧ w.heap.size ≤ w'.heap.size ∧ ∀ k, k < w.heap.size → (k < lo ∨ hi ≤ k) → w'.heap[k]? = w.heap[k]?
theorem Out.refl (lo hi : Nat) (w : World) : Out lo hi w w := ⟨rfl, rfl, rfl, Nat.le_refl _, fun _ _ _ => rfl⟩
theorem Out.size {lo hi : Nat} {w w' : World} (h : Out lo hi w w') : w.heap.size ≤ w'.heap.size := h.2.2.2.1
theorem Out.block {lo hi : Nat} {w w' : World} (h : Out lo hi w w') {k : Nat} (h1 : k < w.heap.size) (h2 : k < lo ∨ hi ≤ k) : w'.heap[k]? = w.heap[k]? := h.2.2.2.2 k h1 h2
theorem Out.trans {lo hi : Nat} {a b c : World} (h : Out lo hi a b) (g : Out lo hi b c) : Out lo hi a c :=
  ⟨g.1.trans h.1, g.2.1.trans h.2.1, g.2.2.1.trans h.2.2.1, Nat.le_trans h.size g.size, fun k h1 h2 => (g.block (Nat.lt_of_lt_of_le h1 h.size) h2).trans (h.block h1 h2)⟩
theorem Out.wide {lo hi lo' hi' : Nat} {w w' : World} (h : Out lo hi w w') (h1 : lo' ≤ lo) (h2 : hi ≤ hi') : Out lo' hi' w w' :=
  ⟨h.1, h.2.1, h.2.2.1, h.size, fun k a b => h.block a (by omega)⟩
theorem Out.past {x y lo hi : Nat} {a b c : World} (h : Out x y a b) (g : Out lo hi b c) (hl : a.heap.size ≤ lo) : Out x y a c :=
  ⟨g.1.trans h.1, g.2.1.trans h.2.1, g.2.2.1.trans h.2.2.1, Nat.le_trans h.size g.size, fun k h1 h2 => (g.block (Nat.lt_of_lt_of_le h1 h.size) (.inl (by omega))).trans (h.block h1 h2)⟩
theorem Out.any {w w' : World} (h : Out 0 0 w w') (lo hi : Nat) : Out lo hi w w' :=
  ⟨h.1, h.2.1, h.2.2.1, h.size, fun k h1 _ => h.block h1 (by omega)⟩
theorem Out.of_below {w w' : World} (h : Below w.heap.size w w') (lo hi : Nat) : Out lo hi w w' := ⟨h.os, h.tape, h.output, h.size, fun k h1 _ => h.block k h1⟩
theorem Out.below {lo hi B : Nat} {w w' : World} (h : Out lo hi w w') (h1 : B ≤ lo) (h2 : B ≤ w.heap.size) : Below B w w' := ⟨h.1, h.2.1, h.2.2.1, h.size, fun k hk => h.block (by omega) (by omega)⟩
theorem Out.all {w w' : World} (h : Out 0 0 w w') : Below w.heap.size w w' := ⟨h.1, h.2.1, h.2.2.1, h.size, fun k hk => h.block hk (by omega)⟩
theorem Out.drew {lo hi : Nat} {a w : World} (h : Out lo hi a w) : Out lo hi a w.drew := ⟨h.1, h.2.1, h.2.2.1, h.size, h.2.2.2.2⟩
theorem Out.alloc {lo hi : Nat} {a w : World} (h : Out lo hi a w) (o : Obj) : Out lo hi a (w.alloc o) :=
  h.trans ⟨rfl, rfl, rfl, by simp, fun k h1 _ => Below.heap_alloc _ _ _ h1⟩
theorem Out.setCell {lo hi : Nat} {a w : World} (h : Out lo hi a w) {p : Addr} (hp : (lo ≤ p.block ∧ p.block < hi) ∨ a.heap.size ≤ p.block) (u : Value) : Out lo hi a (w.setCell p u) := by
  refine ⟨h.1, h.2.1, h.2.2.1, by have := h.size; simpa [World.setCell] using this, fun k h1 h2 => ?_⟩
  rw [Below.heap_setCell _ _ _ _ (by omega)]
  exact h.block h1 h2
theorem Out.cell {lo hi : Nat} {w w' : World} (h : Out lo hi w w') {b o : Nat} {v : Value} (hc : w.cell? ⟨b, o, none⟩ = some v) (h2 : b < lo ∨ hi ≤ b) : w'.cell? ⟨b, o, none⟩ = some v := by
  have hb : b < w.heap.size := by
    by_cases hb : b < w.heap.size
    · exact hb
    · have : w.heap[b]? = none := by simp; omega
      simp [World.cell?, this] at hc
  rw [World.cell?_of_block (w := w) (a := ⟨b, o, none⟩) (h.block hb h2)]
  exact hc
theorem heap_lt {w : World} {b : Nat} {o : Obj} (h : w.heap[b]? = some o) : b < w.heap.size := (Array.getElem?_eq_some_iff.1 h).1
theorem Out.heap {lo hi : Nat} {w w' : World} (h : Out lo hi w w') {b : Nat} {o : Obj} (hc : w.heap[b]? = some o) (h2 : b < lo ∨ hi ≤ b) : w'.heap[b]? = some o :=
  (h.block (heap_lt hc) h2).trans hc

/-- block b begins with k cells of type T, cell i holding 'f i', none frozen -/
def Row (w : World) (b : Nat) (T : TypeId) (k : Nat) (f : Nat → Value) : Prop :=
  ∃ c : Array Value, w.heap[b]? = some (.cells c T (0, 0)) ∧ k ≤ c.size ∧ ∀ i, i < k → c[i]? = some (f i)
theorem Row.cell {w : World} {b k : Nat} {T : TypeId} {f : Nat → Value} (h : Row w b T k f) {i : Nat} (hi : i < k) : w.cell? ⟨b, i, none⟩ = some (f i) := by
  obtain ⟨c, hb, _, hc⟩ := h
  simp [World.cell?, hb, hc i hi]
theorem Row.frozen {w : World} {b k : Nat} {T : TypeId} {f : Nat → Value} (h : Row w b T k f) (i : Nat) : w.frozen? ⟨b, i, none⟩ = false := by
  obtain ⟨c, hb, _, _⟩ := h
  simp [World.frozen?, hb]
theorem Row.lt {w : World} {b k : Nat} {T : TypeId} {f : Nat → Value} (h : Row w b T k f) : b < w.heap.size := by
  obtain ⟨c, hb, _, _⟩ := h
  exact heap_lt hb
theorem Row.of_block {w w' : World} {b k : Nat} {T : TypeId} {f : Nat → Value} (h : Row w b T k f) (e : w'.heap[b]? = w.heap[b]?) : Row w' b T k f := by
  obtain ⟨c, hb, hn, hc⟩ := h
  exact ⟨c, e.trans hb, hn, hc⟩
theorem Row.kept {w w' : World} {b k lo hi : Nat} {T : TypeId} {f : Nat → Value} (h : Row w b T k f) (g : Out lo hi w w') (h2 : b < lo ∨ hi ≤ b) : Row w' b T k f := h.of_block (g.block h.lt h2)
theorem Row.congr {w : World} {b k : Nat} {T : TypeId} {f g : Nat → Value} (h : Row w b T k f) (e : ∀ i, i < k → f i = g i) : Row w b T k g := by
  obtain ⟨c, hb, hn, hc⟩ := h
  exact ⟨c, hb, hn, fun i hi => by rw [hc i hi, e i hi]⟩
theorem Row.set {w : World} {b k : Nat} {T : TypeId} {f : Nat → Value} (h : Row w b T k f) (i : Nat) (v : Value) : Row (w.setCell ⟨b, i, none⟩ v) b T k (fun j => if j = i then v else f j) := by
  obtain ⟨c, hb, hn, hc⟩ := h
  refine ⟨c.setIfInBounds i v, ?_, by simpa using hn, fun j hj => ?_⟩
  · simp [World.setCell, Array.getElem?_modify, hb]
  · rw [Array.getElem?_setIfInBounds]
    by_cases e : j = i
    · subst e
      have : j < c.size := by omega
      simp [this]
    · rw [if_neg (fun h => e h.symm)]
      show c[j]? = some (if j = i then v else f j)
      rw [if_neg e]
      exact hc j hj

theorem below_seq {a b c : World} (h : Below a.heap.size a b) (g : Below b.heap.size b c) : Below a.heap.size a c := h.trans (g.mono h.size)
theorem calls_rel {P : Program} {f : FuncId} {args : Array Value} {w w0 : World} {post : Ending → Prop} (h : Calls P f args w (fun e w' => post e ∧ Below w.heap.size w w')) (h0 : Below w0.heap.size w0 w) :
    Calls P f args w (fun e w' => post e ∧ Below w0.heap.size w0 w') := h.mono fun _ _ ⟨he, hb⟩ => ⟨he, below_seq h0 hb⟩
/-- the words of an object of a kind that has no parts, and the most parts -/
def wd (k : Int) : Int := [0, 3, 2, 1, 2, 2, 1, 2, 3, 3, 3, 5, 1, 4].getD k.toNat 0
def mo (k : Int) : Int := [0, 0, 0, 1023, 4096, 0, 64, 0, 0, 0, 0, 128, 512, 0].getD k.toNat 0
/-! the variables of the packages: the table of shapes, the two states of pages, the library's table of bits -/
def Tab (w : World) : Prop := (∀ j : Nat, j < 3 → w.cell? ⟨2, j, none⟩ = some (.int .i64 0) ∧ w.cell? ⟨1, j, none⟩ = some (.int .i64 (if j = 0 then 3 else 0))) ∧
  (∀ j : Nat, j < 14 → w.cell? ⟨0, j * 2, none⟩ = some (.int .i64 (wd j)) ∧ w.cell? ⟨0, j * 2 + 1, none⟩ = some (.int .i64 (mo j))) ∧
  (∀ j, j < 64 → w.cell? ⟨3, j, none⟩ = some (.int .u8 (Lib.deBruijn64tab.getD j 0)))
theorem cell_lt {w : World} {b o : Nat} {v : Value} (hc : w.cell? ⟨b, o, none⟩ = some v) : b < w.heap.size := by
  by_cases hb : b < w.heap.size
  · exact hb
  · have : w.heap[b]? = none := by simp; omega
    simp [World.cell?, this] at hc
theorem Tab.lt {w : World} (h : Tab w) : 4 ≤ w.heap.size := by
  have h1 := cell_lt (h.1 0 (by omega)).1
  have h2 := cell_lt (h.1 0 (by omega)).2
  have h3 := cell_lt (h.2.1 0 (by omega)).1
  have h4 := cell_lt (h.2.2 0 (by omega))
  omega
theorem Tab.kept {w w' : World} {lo hi : Nat} (h : Tab w) (g : Out lo hi w w') (h2 : 4 ≤ lo ∨ hi = 0) : Tab w' :=
  ⟨fun j hj => ⟨g.cell (h.1 j hj).1 (by omega), g.cell (h.1 j hj).2 (by omega)⟩, fun j hj => ⟨g.cell (h.2.1 j hj).1 (by omega), g.cell (h.2.1 j hj).2 (by omega)⟩, fun j hj => g.cell (h.2.2 j hj) (by omega)⟩
theorem Tab.quiet {w w' : World} (h : Tab w) (g : Out 0 0 w w') : Tab w' := h.kept g (.inr rfl)
theorem Tab.f {w : World} (h : Tab w) : w.cell? ⟨2, 0, none⟩ = some (.int .i64 0) ∧ w.cell? ⟨2, 1, none⟩ = some (.int .i64 0) ∧ w.cell? ⟨2, 2, none⟩ = some (.int .i64 0) := ⟨(h.1 0 (by omega)).1, (h.1 1 (by omega)).1, (h.1 2 (by omega)).1⟩
theorem Tab.r {w : World} (h : Tab w) : w.cell? ⟨1, 0, none⟩ = some (.int .i64 3) ∧ w.cell? ⟨1, 1, none⟩ = some (.int .i64 0) ∧ w.cell? ⟨1, 2, none⟩ = some (.int .i64 0) := ⟨(h.1 0 (by omega)).2, (h.1 1 (by omega)).2, (h.1 2 (by omega)).2⟩
end Go.Proofs.YtjbbkeoolodeaaaGreatDoor
namespace Go.Proofs.YtjbbkeoolodeaaaGreatDoor
open Go.RowKit
set_option linter.unusedVariables false
set_option linter.unusedSimpArgs false

/-! the numbers: a page is its kind, its class, its run -/
def fld (p : Int × Int × Int) (j : Nat) : Int := if j = 0 then p.1 else if j = 1 then p.2.1 else p.2.2
def freeB (p : Int × Int × Int) : Bool := p.1 == 0
/-- what page i of n may be -/
def PgOk (n : Nat) (S : Nat → Int × Int × Int) (i : Nat) : Prop :=
  S i = (0, 0, 0) ∨ (∃ c : Int, 0 ≤ c ∧ c ≤ 7 ∧ S i = (1, c, 0)) ∨ (∃ k : Nat, 1 ≤ k ∧ k ≤ 16 ∧ i + k ≤ n ∧ S i = (2, 0, (k : Int)) ∧ ∀ j, i < j → j < i + k → S j = (3, 0, 0)) ∨
    (S i = (3, 0, 0) ∧ ∃ h k : Nat, h < i ∧ i < h + k ∧ S h = (2, 0, (k : Int)))
def Good (n : Nat) (S : Nat → Int × Int × Int) : Prop := ∀ i, i < n → PgOk n S i
theorem good_free (n : Nat) : Good n (fun _ => (0, 0, 0)) := fun _ _ => .inl rfl
theorem Good.free {n i : Nat} {S : Nat → Int × Int × Int} (h : Good n S) (hi : i < n) (hf : freeB (S i) = true) : S i = (0, 0, 0) := by
  unfold freeB at hf
  rcases h i hi with e | ⟨c, _, _, e⟩ | ⟨k, _, _, _, e, _⟩ | ⟨e, _⟩
  · exact e
  all_goals (rw [e] at hf; simp at hf)
/-- n pages from p on, all free -/
def allF (S : Nat → Int × Int × Int) (p n : Nat) : Bool := (List.range n).all fun i => freeB (S (p + i))
theorem allF_iff {S : Nat → Int × Int × Int} {p n : Nat} : allF S p n = true ↔ ∀ j, p ≤ j → j < p + n → freeB (S j) = true := by
  unfold allF
  rw [List.all_eq_true]
  constructor
  · intro h j h1 h2
    have := h (j - p) (by simp; omega)
    rwa [show p + (j - p) = j from by omega] at this
  · intro h x hx
    simp at hx
    exact h _ (by omega) (by omega)
/-- the lowest row of k free pages -/
def rowF (S : Nat → Int × Int × Int) (n k : Nat) : Option Nat := (List.range n).find? fun p => decide (p + k ≤ n) && allF S p k
theorem find_range_some {f : Nat → Bool} {n p : Nat} (hp : p < n) (hf : f p = true) (hl : ∀ q, q < p → f q = false) : (List.range n).find? f = some p := by
  rw [List.find?_range_eq_some]
  exact ⟨hf, by simpa using hp, fun j hj => by simp [hl j hj]⟩
theorem find_range_none {f : Nat → Bool} {n : Nat} (hl : ∀ q, q < n → f q = false) : (List.range n).find? f = none := by
  rw [List.find?_eq_none]
  intro x hx
  simp at hx
  simp [hl x hx]
theorem rowF_some {S : Nat → Int × Int × Int} {n k p : Nat} (h : rowF S n k = some p) : p < n ∧ p + k ≤ n ∧ allF S p k = true ∧ ∀ q, q < p → q + k ≤ n → allF S q k = false := by
  unfold rowF at h
  rw [List.find?_range_eq_some] at h
  obtain ⟨h1, h2, h3⟩ := h
  simp at h1 h2
  refine ⟨h2, h1.1, h1.2, fun q hq hk => ?_⟩
  have := h3 q hq
  simp [hk] at this
  exact this
theorem rowF_of {S : Nat → Int × Int × Int} {n k p : Nat} (h1 : 1 ≤ k) (h2 : p + k ≤ n) (h3 : allF S p k = true) (h4 : ∀ q, q < p → allF S q k = false) : rowF S n k = some p :=
  find_range_some (by omega) (by simp [h2, h3]) (fun q hq => by simp [h4 q hq])
theorem rowF_no {S : Nat → Int × Int × Int} {n k : Nat} (h4 : ∀ q, q + k ≤ n → allF S q k = false) : rowF S n k = none :=
  find_range_none (fun q hq => by by_cases h : q + k ≤ n <;> simp [h]; exact h4 q h)
/-- going up: i pages seen, the last f of them free and no more, no row yet -/
def RowInv (S : Nat → Int × Int × Int) (k i f : Nat) : Prop :=
  f ≤ i ∧ f < k ∧ (∀ j, i - f ≤ j → j < i → freeB (S j) = true) ∧ (f = i ∨ freeB (S (i - f - 1)) = false) ∧ ∀ q, q + k ≤ i → allF S q k = false
theorem RowInv.start (S : Nat → Int × Int × Int) {k : Nat} (h : 1 ≤ k) : RowInv S k 0 0 := ⟨Nat.le_refl _, h, fun j _ h2 => by omega, .inl rfl, fun q hq => by omega⟩
theorem not_all {S : Nat → Int × Int × Int} {p n j : Nat} (h1 : p ≤ j) (h2 : j < p + n) (h : freeB (S j) = false) : allF S p n = false := by
  cases e : allF S p n with
  | false => rfl
  | true => rw [allF_iff.1 e j h1 h2] at h; cases h
theorem RowInv.taken {S : Nat → Int × Int × Int} {k i f : Nat} (h : RowInv S k i f) (hi : freeB (S i) = false) : RowInv S k (i + 1) 0 := by
  obtain ⟨h1, h2, h3, h4, h5⟩ := h
  refine ⟨by omega, by omega, fun j _ _ => by omega, .inr (by simpa using hi), fun q hq => ?_⟩
  by_cases e : q + k ≤ i
  · exact h5 q e
  · exact not_all (j := i) (by omega) (by omega) hi
theorem RowInv.more {S : Nat → Int × Int × Int} {k i f : Nat} (h : RowInv S k i f) (hi : freeB (S i) = true) (hf : f + 1 ≠ k) : RowInv S k (i + 1) (f + 1) := by
  obtain ⟨h1, h2, h3, h4, h5⟩ := h
  refine ⟨by omega, by omega, fun j j1 j2 => ?_, ?_, fun q hq => ?_⟩
  · by_cases e : j = i
    · rw [e]; exact hi
    · exact h3 j (by omega) (by omega)
  · rcases h4 with e | e
    · left; omega
    · right; rw [show i + 1 - (f + 1) - 1 = i - f - 1 from by omega]; exact e
  · by_cases e : q + k ≤ i
    · exact h5 q e
    · rcases h4 with e4 | e4
      · omega
      · by_cases e5 : f = i
        · omega
        · exact not_all (j := i - f - 1) (by omega) (by omega) e4
theorem RowInv.found {S : Nat → Int × Int × Int} {k i f n : Nat} (h : RowInv S k i f) (hi : freeB (S i) = true) (hf : f + 1 = k) (hn : i < n) : rowF S n k = some (i - f) := by
  obtain ⟨h1, h2, h3, h4, h5⟩ := h
  refine rowF_of (by omega) (by omega) (allF_iff.2 fun j j1 j2 => ?_) (fun q hq => h5 q (by omega))
  by_cases e : j = i
  · rw [e]; exact hi
  · exact h3 j j1 (by omega)
theorem RowInv.none {S : Nat → Int × Int × Int} {k i f : Nat} (h : RowInv S k i f) : rowF S i k = none := rowF_no h.2.2.2.2
/-! what the calls answer, and what the pages are behind them -/
def classB (c : Int) : Bool := decide (0 ≤ c) && decide (c ≤ 7)
def runB (k : Int) : Bool := decide (1 ≤ k) && decide (k ≤ 16)
def setC (S : Nat → Int × Int × Int) (p : Nat) (c : Int) : Nat → Int × Int × Int := fun j => if j = p then (1, c, 0) else S j
def setR (S : Nat → Int × Int × Int) (p k : Nat) : Nat → Int × Int × Int := fun j => if j = p then (2, 0, (k : Int)) else if p < j ∧ j < p + k then (3, 0, 0) else S j
def setF (S : Nat → Int × Int × Int) (p k : Nat) : Nat → Int × Int × Int := fun j => if p ≤ j ∧ j < p + k then (0, 0, 0) else S j
def tcP (S : Nat → Int × Int × Int) (n : Nat) (c : Int) : Nat := if classB c then (rowF S n 1).getD 0 else 0
def tcE (S : Nat → Int × Int × Int) (n : Nat) (c : Int) : Int := if classB c then (if (rowF S n 1).isSome then 0 else 20) else 1
def tcS (S : Nat → Int × Int × Int) (n : Nat) (c : Int) : Nat → Int × Int × Int := if classB c then (match rowF S n 1 with | some p => setC S p c | none => S) else S
def trP (S : Nat → Int × Int × Int) (n : Nat) (k : Int) : Nat := if runB k then (rowF S n k.toNat).getD 0 else 0
def trE (S : Nat → Int × Int × Int) (n : Nat) (k : Int) : Int := if runB k then (if (rowF S n k.toNat).isSome then 0 else 20) else 1
def trS (S : Nat → Int × Int × Int) (n : Nat) (k : Int) : Nat → Int × Int × Int := if runB k then (match rowF S n k.toNat with | some p => setR S p k.toNat | none => S) else S
def inB (n : Nat) (i : Int) : Bool := decide (0 ≤ i) && decide (i < n)
/-! they stay pages -/
theorem good_setC {n p : Nat} {S : Nat → Int × Int × Int} {c : Int} (h : Good n S) (hp : S p = (0, 0, 0)) (h0 : 0 ≤ c) (h7 : c ≤ 7) : Good n (setC S p c) := by
  intro i hi
  unfold setC
  by_cases e : i = p
  · exact .inr (.inl ⟨c, h0, h7, by simp [e]⟩)
  · rcases h i hi with e1 | ⟨c', a, b, e1⟩ | ⟨k, k1, k2, k3, e1, hr⟩ | ⟨e1, a, k, ha, hk, e2⟩
    · exact .inl (by simp [e, e1])
    · exact .inr (.inl ⟨c', a, b, by simp [e, e1]⟩)
    · refine .inr (.inr (.inl ⟨k, k1, k2, k3, by simp [e, e1], fun j j1 j2 => ?_⟩))
      have := hr j j1 j2
      by_cases ej : j = p
      · rw [ej, hp] at this; simp at this
      · simp [ej, this]
    · refine .inr (.inr (.inr ⟨by simp [e, e1], a, k, ha, hk, ?_⟩))
      by_cases ej : a = p
      · rw [ej, hp] at e2; simp at e2
      · simp [ej, e2]
theorem good_setR {n p k : Nat} {S : Nat → Int × Int × Int} (h : Good n S) (hp : ∀ j, p ≤ j → j < p + k → S j = (0, 0, 0)) (h1 : 1 ≤ k) (h2 : k ≤ 16) (h3 : p + k ≤ n) : Good n (setR S p k) := by
  have out : ∀ j, (j < p ∨ p + k ≤ j) → setR S p k j = S j := by
    intro j hj
    unfold setR
    rw [if_neg (by omega), if_neg (by omega)]
  have hd : setR S p k p = (2, 0, (k : Int)) := by unfold setR; rw [if_pos rfl]
  have hr : ∀ j, p < j → j < p + k → setR S p k j = (3, 0, 0) := by
    intro j a b
    unfold setR
    rw [if_neg (by omega), if_pos ⟨a, b⟩]
  have nz : ∀ j, S j ≠ (0, 0, 0) → j < p ∨ p + k ≤ j := by
    intro j hj
    by_cases e : j < p ∨ p + k ≤ j
    · exact e
    · exact absurd (hp j (by omega) (by omega)) hj
  intro i hi
  by_cases e : i = p
  · subst e
    exact .inr (.inr (.inl ⟨k, h1, h2, h3, hd, hr⟩))
  · by_cases e' : p < i ∧ i < p + k
    · exact .inr (.inr (.inr ⟨hr i e'.1 e'.2, p, k, e'.1, e'.2, hd⟩))
    · have eo := out i (by omega)
      rcases h i hi with e1 | ⟨c', a, b, e1⟩ | ⟨k', k1, k2, k3, e1, hr'⟩ | ⟨e1, a, k', ha, hk, e2⟩
      · exact .inl (by rw [eo, e1])
      · exact .inr (.inl ⟨c', a, b, by rw [eo, e1]⟩)
      · refine .inr (.inr (.inl ⟨k', k1, k2, k3, by rw [eo, e1], fun j j1 j2 => ?_⟩))
        have := hr' j j1 j2
        rw [out j (nz j (by rw [this]; simp)), this]
      · exact .inr (.inr (.inr ⟨by rw [eo, e1], a, k', ha, hk, by rw [out a (nz a (by rw [e2]; simp)), e2]⟩))
/-! the two variables of package pages -/
/-! pages in memory -/
def pcell (S : Nat → Int × Int × Int) (i : Nat) : Value := .int .i64 (fld (S (i / 3)) (i % 3))
def PRow (w : World) (b n : Nat) (S : Nat → Int × Int × Int) : Prop := Row w b 155 (n * 3) (pcell S)
theorem PRow.cells {w : World} {b n i : Nat} {S : Nat → Int × Int × Int} (h : PRow w b n S) (hi : i < n) :
    w.cell? ⟨b, i * 3, none⟩ = some (.int .i64 (S i).1) ∧ w.cell? ⟨b, i * 3 + 1, none⟩ = some (.int .i64 (S i).2.1) ∧ w.cell? ⟨b, i * 3 + 2, none⟩ = some (.int .i64 (S i).2.2) := by
  refine ⟨?_, ?_, ?_⟩
  · rw [Row.cell h (i := i * 3) (by omega)]
    unfold pcell
    rw [show i * 3 / 3 = i from by omega, show i * 3 % 3 = 0 from by omega]; rfl
  · rw [Row.cell h (i := i * 3 + 1) (by omega)]
    unfold pcell
    rw [show (i * 3 + 1) / 3 = i from by omega, show (i * 3 + 1) % 3 = 1 from by omega]; rfl
  · rw [Row.cell h (i := i * 3 + 2) (by omega)]
    unfold pcell
    rw [show (i * 3 + 2) / 3 = i from by omega, show (i * 3 + 2) % 3 = 2 from by omega]; rfl
def setP (S : Nat → Int × Int × Int) (p : Nat) (x : Int × Int × Int) : Nat → Int × Int × Int := fun j => if j = p then x else S j
theorem PRow.congr {w : World} {b n : Nat} {S S' : Nat → Int × Int × Int} (h : PRow w b n S) (e : ∀ i, i < n → S i = S' i) : PRow w b n S' :=
  Row.congr h fun i hi => by unfold pcell; rw [e (i / 3) (by omega)]
theorem PRow.set {w : World} {b n : Nat} {S : Nat → Int × Int × Int} (h : PRow w b n S) (i : Nat) (k c r : Int) :
    PRow (((w.setCell ⟨b, i * 3, none⟩ (.int .i64 k)).setCell ⟨b, i * 3 + 1, none⟩ (.int .i64 c)).setCell ⟨b, i * 3 + 2, none⟩ (.int .i64 r)) b n (setP S i (k, c, r)) := by
  refine Row.congr (((Row.set h (i * 3) (.int .i64 k)).set (i * 3 + 1) (.int .i64 c)).set (i * 3 + 2) (.int .i64 r)) fun j hj => ?_
  unfold pcell setP
  by_cases e : j / 3 = i
  · rw [if_pos e]
    have hm : j % 3 = 0 ∨ j % 3 = 1 ∨ j % 3 = 2 := by omega
    rcases hm with hm | hm | hm
    · rw [if_neg (by omega), if_neg (by omega), if_pos (by omega), hm]; rfl
    · rw [if_neg (by omega), if_pos (by omega), hm]; rfl
    · rw [if_pos (by omega), hm]; rfl
  · rw [if_neg e, if_neg (by omega), if_neg (by omega), if_neg (by omega)]
theorem PRow.kept {w w' : World} {b n lo hi : Nat} {S : Nat → Int × Int × Int} (h : PRow w b n S) (g : Out lo hi w w') (h2 : b < lo ∨ hi ≤ b) : PRow w' b n S := Row.kept h g h2
theorem Out.set3 {lo hi : Nat} {a w : World} (h : Out lo hi a w) {b o : Nat} (hp : (lo ≤ b ∧ b < hi) ∨ a.heap.size ≤ b) (x y z : Value) : Out lo hi a (((w.setCell ⟨b, o, none⟩ x).setCell ⟨b, o + 1, none⟩ y).setCell ⟨b, o + 2, none⟩ z) :=
  ((h.setCell (p := ⟨b, o, none⟩) hp x).setCell (p := ⟨b, o + 1, none⟩) hp y).setCell (p := ⟨b, o + 2, none⟩) hp z
/-- block b is a table (of type T) of n pages that lie in block bw -/
def TblAt (T : TypeId) (w : World) (b bw n : Nat) (S : Nat → Int × Int × Int) : Prop :=
  ∃ cap, w.heap[b]? = some (.cells #[.slice (some ⟨bw, 0, none⟩) n cap] T (0, 0)) ∧ n ≤ cap ∧ bw ≠ b ∧ 4 ≤ b ∧ 4 ≤ bw ∧ 1 ≤ n ∧ n ≤ 4096 ∧ Good n S ∧ PRow w bw n S
theorem TblAt.kept {T : TypeId} {w w' : World} {b bw n lo hi : Nat} {S : Nat → Int × Int × Int} (h : TblAt T w b bw n S) (g : Out lo hi w w') (h1 : b < lo ∨ hi ≤ b) (h2 : bw < lo ∨ hi ≤ bw) : TblAt T w' b bw n S := by
  obtain ⟨cap, hb, k1, k2, k3, k4, k5, k6, k7, hr⟩ := h
  exact ⟨cap, g.heap hb h1, k1, k2, k3, k4, k5, k6, k7, hr.kept g h2⟩
theorem TblAt.quiet {T : TypeId} {w w' : World} {b bw n : Nat} {S : Nat → Int × Int × Int} (h : TblAt T w b bw n S) (g : Out 0 0 w w') : TblAt T w' b bw n S := h.kept g (.inr (Nat.zero_le _)) (.inr (Nat.zero_le _))
theorem TblAt.cell {T : TypeId} {w : World} {b bw n : Nat} {S : Nat → Int × Int × Int} (h : TblAt T w b bw n S) : ∃ cap, w.cell? ⟨b, 0, none⟩ = some (.slice (some ⟨bw, 0, none⟩) n cap) ∧ n ≤ cap := by
  obtain ⟨cap, hb, k1, _⟩ := h
  exact ⟨cap, by simp [World.cell?, hb], k1⟩
theorem TblAt.row {T : TypeId} {w : World} {b bw n : Nat} {S : Nat → Int × Int × Int} (h : TblAt T w b bw n S) : PRow w bw n S := by obtain ⟨cap, hb, k1, k2, k3, k4, k5, k6, k7, hr⟩ := h; exact hr
theorem TblAt.good {T : TypeId} {w : World} {b bw n : Nat} {S : Nat → Int × Int × Int} (h : TblAt T w b bw n S) : Good n S := by obtain ⟨cap, hb, k1, k2, k3, k4, k5, k6, k7, hr⟩ := h; exact k7
theorem TblAt.nums {T : TypeId} {w : World} {b bw n : Nat} {S : Nat → Int × Int × Int} (h : TblAt T w b bw n S) : 1 ≤ n ∧ n ≤ 4096 ∧ 4 ≤ b ∧ 4 ≤ bw ∧ bw ≠ b ∧ b < w.heap.size ∧ bw < w.heap.size := by
  obtain ⟨cap, hb, k1, k2, k3, k4, k5, k6, k7, hr⟩ := h
  exact ⟨k5, k6, k3, k4, k2, heap_lt hb, Row.lt hr⟩
/-- other pages in the same block -/
theorem TblAt.turn {T : TypeId} {w w' : World} {b bw n : Nat} {S S' : Nat → Int × Int × Int} (h : TblAt T w b bw n S) (g : Out bw (bw + 1) w w') (hr : PRow w' bw n S') (hg : Good n S') : TblAt T w' b bw n S' := by
  obtain ⟨cap, hb, k1, k2, k3, k4, k5, k6, k7, _⟩ := h
  exact ⟨cap, g.heap hb (by omega), k1, k2, k3, k4, k5, k6, hg, hr⟩
end Go.Proofs.YtjbbkeoolodeaaaGreatDoor
namespace Go.Proofs.YtjbbkeoolodeaaaGreatDoor
open Go.RowKit
set_option linter.unusedVariables false
set_option linter.unusedSimpArgs false

theorem list_cell {w : World} {b n cap : Nat} {a : Option Addr} (c0 : w.cell? ⟨b, 0, none⟩ = some (.slice a n cap)) :
    Calls Tryz.prog 126 #[.pointer (some ⟨b, 0, none⟩)] w fun e w' => e = .returned (.slice a n cap) ∧ w' = w := by
  go_enter Tryz.func126, Tryz.ntmps126
  go_wp2
  go_ret
  exact ⟨rfl, rfl⟩
theorem PRow.page {w : World} {b n i : Nat} {S : Nat → Int × Int × Int} {x y z : Int} (h : PRow w b n S) (hi : i < n) (e : S i = (x, y, z)) :
    w.cell? ⟨b, i * 3, none⟩ = some (.int .i64 x) ∧ w.cell? ⟨b, i * 3 + 1, none⟩ = some (.int .i64 y) ∧ w.cell? ⟨b, i * 3 + 2, none⟩ = some (.int .i64 z) := by
  have := h.cells hi
  rw [e] at this
  exact this
theorem page_of (p : Int × Int × Int) : ∃ x y z, p = (x, y, z) := ⟨p.1, p.2.1, p.2.2, rfl⟩
set_option maxRecDepth 100000 in
set_option maxHeartbeats 4000000 in
theorem row_any {w : World} {b bw n cap : Nat} {S : Nat → Int × Int × Int} (c0 : w.cell? ⟨b, 0, none⟩ = some (.slice (some ⟨bw, 0, none⟩) n cap)) (hT : Tab w) (hn : 1 ≤ n ∧ n ≤ 4096) (hr : PRow w bw n S) (hg : Good n S) (k : Nat) (hk : 1 ≤ k) (hk2 : k ≤ 16) :
    Calls Tryz.prog 141 #[.pointer (some ⟨b, 0, none⟩), .int .i64 k] w fun e w' => e = .returned (.tuple #[.int .i64 ((rowF S n k).getD 0 : Nat), .bool (rowF S n k).isSome]) ∧ Out 0 0 w w' := by
  have H := hid_mk (list_cell c0)
  have HT := hid_mk hT
  have HR := hid_mk hr
  have HG := hid_mk hg
  have HN := hid_mk hn
  have HK : Hid (1 ≤ k ∧ k ≤ 16) := ⟨hk, hk2⟩
  obtain ⟨a, ha⟩ : ∃ a, rowF S n k = a := ⟨_, rfl⟩
  have HA := hid_mk ha
  rw [ha]
  clear c0 hT hr hg hn hk hk2 ha
  go_enter Tryz.func141, Tryz.ntmps141
  go_wp2_with (go_at_call 126; refine calls_same H.out ?_)
  go_loopw [6, 12] (fun x y wr => ∃ i f : Nat, i ≤ n ∧ x = .int .i64 f ∧ y = .int .i64 i ∧ RowInv S k i f ∧ Out 0 0 w wr) (fun _ y _ => n - (intOf y).toNat)
  case atStart => exact ⟨0, 0, Nat.zero_le _, rfl, rfl, RowInv.start S HK.out.1, Out.refl _ _ _⟩
  case round =>
    obtain ⟨i, f, i1, rfl, rfl, hv, ho⟩ := hrel
    have HV := hid_mk hv
    have HO := hid_mk ho
    obtain ⟨f0, f1, f2⟩ := (HT.out.quiet ho).f
    have b0 : (0 : Int) ≤ (i : Int) := by omega
    have b5 : (i : Int) ≤ 4096 := by have := HN.out; omega
    have b6 : (0 : Int) ≤ (f : Int) ∧ (f : Int) < 16 := by have := hv.2.1; have := HK.out; omega
    obtain ⟨b7, b8⟩ := b6
    by_cases hi : i < n
    · have b1 : (i : Int) < (n : Int) := by omega
      have HO2 : Hid (∀ c, Out 0 0 w (wr.alloc c)) := fun c => ho.alloc c
      obtain ⟨x, y, z, hp⟩ := page_of (S i)
      obtain ⟨q0, q1, q2⟩ := (HR.out.kept ho (.inr (Nat.zero_le _))).page hi hp
      obtain ⟨g0, g1, g2⟩ := (HT.out.quiet (ho.alloc (.cells #[.int .i64 x, .int .i64 y, .int .i64 z] 155))).f
      by_cases hf : freeB (S i) = true
      · have e := HG.out.free hi hf
        rw [hp] at e
        cases e
        by_cases hk : f + 1 = k
        · have hres := hv.found hf hk hi
          rw [HA.out] at hres
          subst hres
          have HE : Hid (f ≤ i) := hv.1
          subst hk
          clear hv ho hp hf HV HO
          go_wp2
          go_ret2
          refine ⟨ret_ib ?_ rfl, HO2.out _⟩
          show ((i : Int) + 1 - ((f : Int) + 1)) = ((i - f : Nat) : Int)
          have := HE.out
          omega
        · have HV2 := hid_mk (hv.more hf hk)
          have ek : ((f : Int) + 1 == (k : Int)) = false := by simp; omega
          clear hv ho hp hf HV HO hk
          go_wp2
          go_roundw
          case rel => exact ⟨i + 1, f + 1, by omega, by go_num, by go_num, HV2.out, HO2.out _⟩
          case measure => simp [intOf]; omega
      · have hf' : freeB (S i) = false := by simpa using hf
        have HV2 := hid_mk (hv.taken hf')
        have hx : (x == 0) = false := by have := hf'; rw [hp] at this; exact this
        clear hv ho hp hf HV HO hf'
        go_wp2
        go_roundw
        case rel => exact ⟨i + 1, 0, by omega, by go_num, by go_num, HV2.out, HO2.out _⟩
        case measure => simp [intOf]; omega
    · have : i = n := by omega
      subst this
      have hres := hv.none
      rw [HA.out] at hres
      subst hres
      clear hv ho hi HV
      go_wp2
      go_ret2
      exact ⟨rfl, HO.out⟩
end Go.Proofs.YtjbbkeoolodeaaaGreatDoor
namespace Go.Proofs.YtjbbkeoolodeaaaGreatDoor
open Go.RowKit
set_option linter.unusedVariables false
set_option linter.unusedSimpArgs false

def putA (S : Nat → Int × Int × Int) (p k : Nat) (x : Int × Int × Int) : Nat → Int × Int × Int := fun j => if p ≤ j ∧ j < p + k then x else S j
theorem putA_zero (S : Nat → Int × Int × Int) (p : Nat) (x : Int × Int × Int) : putA S p 0 x = S := by funext j; unfold putA; rw [if_neg (by omega)]
theorem putA_step (S : Nat → Int × Int × Int) (p i : Nat) (x : Int × Int × Int) : setP (putA S p i x) (p + i) x = putA S p (i + 1) x := by
  funext j
  unfold setP putA
  by_cases e : j = p + i
  · rw [if_pos e, if_pos (by omega)]
  · rw [if_neg e]
    by_cases h : p ≤ j ∧ j < p + i
    · rw [if_pos h, if_pos (by omega)]
    · rw [if_neg h, if_neg (by omega)]
theorem box3 {w : World} {X : Nat} {x y z : Int} {T : TypeId} (h : w.heap[X]? = some (.cells #[.int .i64 x, .int .i64 y, .int .i64 z] T (0, 0))) :
    w.cell? ⟨X, 0, none⟩ = some (.int .i64 x) ∧ w.cell? ⟨X, 1, none⟩ = some (.int .i64 y) ∧ w.cell? ⟨X, 2, none⟩ = some (.int .i64 z) := by
  simp [World.cell?, h]
set_option maxRecDepth 100000 in
set_option maxHeartbeats 4000000 in
theorem fill_any {w : World} {bw n p k cap : Nat} {S : Nat → Int × Int × Int} (hr : PRow w bw n S) (hpk : p + k ≤ n) (hn : n ≤ 4096) (x y z : Int) :
    Calls Tryz.prog 142 #[.slice (some ⟨bw, p * 3, none⟩) k cap, .agg #[.int .i64 x, .int .i64 y, .int .i64 z]] w fun e w' => e = .returned (.tuple #[]) ∧ PRow w' bw n (putA S p k (x, y, z)) ∧ Out bw (bw + 1) w w' := by
  have HP : Hid (p + k ≤ n ∧ n ≤ 4096) := ⟨hpk, hn⟩
  have HL : Hid (bw < w.heap.size) := Row.lt hr
  have HR1 : Hid (PRow (w.alloc (.cells #[.int .i64 x, .int .i64 y, .int .i64 z] 155)) bw n (putA S p 0 (x, y, z))) := by
    rw [putA_zero]; exact hr.kept ((Out.refl 0 0 _).alloc _) (.inr (Nat.zero_le _))
  have HO1 : Hid (Out bw (bw + 1) w (w.alloc (.cells #[.int .i64 x, .int .i64 y, .int .i64 z] 155))) := (Out.refl _ _ _).alloc _
  have HX : Hid ((w.alloc (.cells #[.int .i64 x, .int .i64 y, .int .i64 z] 155)).heap[w.heap.size]? = some (.cells #[.int .i64 x, .int .i64 y, .int .i64 z] 155 (0, 0))) := heap_alloc_new _ _
  obtain ⟨X, hX⟩ : ∃ X, w.heap.size = X := ⟨_, rfl⟩
  obtain ⟨W, hW⟩ : ∃ W, w.alloc (.cells #[.int .i64 x, .int .i64 y, .int .i64 z] 155) = W := ⟨_, rfl⟩
  rw [hX] at HX HL
  rw [hW] at HX HR1 HO1
  clear hr hpk hn
  go_enter Tryz.func142, Tryz.ntmps142
  go_wp2_with fail
  clear hX hW
  go_loopw [7] (fun u wr => ∃ i : Nat, i ≤ k ∧ u = .int .i64 i ∧ PRow wr bw n (putA S p i (x, y, z)) ∧ Out bw (bw + 1) w wr ∧ wr.heap[X]? = some (.cells #[.int .i64 x, .int .i64 y, .int .i64 z] 155 (0, 0))) (fun u _ => k - (intOf u).toNat)
  case atStart => exact ⟨0, Nat.zero_le _, rfl, HR1.out, HO1.out, HX.out⟩
  case round =>
    clear HR1 HO1 HX
    obtain ⟨i, i1, rfl, hr, ho, hx⟩ := hrel
    have HR := hid_mk hr
    have HO := hid_mk ho
    have HX := hid_mk hx
    have b0 : (0 : Int) ≤ (i : Int) := by omega
    by_cases hi : i < k
    · have b1 : (i : Int) < (k : Int) := by omega
      have b2 : (k : Int) ≤ 4096 := by have := HP.out; omega
      obtain ⟨u0, v0, t0, hp⟩ := page_of (putA S p i (x, y, z) (p + i))
      obtain ⟨q0, q1, q2⟩ := hr.page (by have := HP.out; omega) hp
      have fz0 := Row.frozen hr ((p + i) * 3)
      have fz1 := Row.frozen hr ((p + i) * 3 + 1)
      have fz2 := Row.frozen hr ((p + i) * 3 + 2)
      obtain ⟨x0, x1, x2⟩ := box3 hx
      have hr2 := hr.set (p + i) x y z
      rw [putA_step] at hr2
      have ho2 := ho.set3 (b := bw) (o := (p + i) * 3) (.inl ⟨Nat.le_refl _, Nat.lt_succ_self _⟩) (.int .i64 x) (.int .i64 y) (.int .i64 z)
      have hx2 : (((wr.setCell ⟨bw, (p + i) * 3, none⟩ (.int .i64 x)).setCell ⟨bw, (p + i) * 3 + 1, none⟩ (.int .i64 y)).setCell ⟨bw, (p + i) * 3 + 2, none⟩ (.int .i64 z)).heap[X]? = some (.cells #[.int .i64 x, .int .i64 y, .int .i64 z] 155 (0, 0)) := by
        have hne : X ≠ bw := by have := HL.out; omega
        rw [Below.heap_setCell _ _ _ _ hne, Below.heap_setCell _ _ _ _ hne, Below.heap_setCell _ _ _ _ hne]
        exact hx
      rw [Nat.add_mul] at q0 q1 q2 fz0 fz1 fz2 hr2 ho2 hx2
      have HR2 := hid_mk hr2
      have HO2 := hid_mk ho2
      have HX2 := hid_mk hx2
      clear hr ho hx hr2 ho2 hx2 hp HR HO HX
      go_wp2
      go_roundw
      case rel => exact ⟨i + 1, by omega, by go_num, HR2.out, HO2.out, HX2.out⟩
      case measure => simp [intOf]; omega
    · have : i = k := by omega
      subst this
      clear hr ho hx hi HX
      go_wp2
      exact bodyPost_end (results_none Tryz.results142 _ _ _) rfl ⟨rfl, HR.out, HO.out⟩

/-! the words of a class's blocks -/
def row8 : Array Value := #[.int .i64 2, .int .i64 4, .int .i64 6, .int .i64 8, .int .i64 12, .int .i64 16, .int .i64 20, .int .i64 32]
theorem info8 : (Tryz.prog.info? 71).map (·.size) = some row8.size := by kernel_rfl
theorem ret8 {fn : Func} {p : Tmp} (hr : fn.results = #[.cell p 71]) {a : Act} {w : World} {g : Nat} {post : Ending → World → Prop} (hp : a.tmps.getD p undef = .pointer (some ⟨g, 0, none⟩))
    (hd : a.defers = []) (b : w.heap[g]? = some (.cells row8 71 (0, 0))) (h : post (.returned (.agg row8)) w) : bodyPost Tryz.prog fn post Exit.ret a w :=
  bodyPost_ret (v := .agg row8) (results_cell_row hr a.tmps w g 71 row8 (0, 0) _ hp b Tryz.underlying71 rfl info8) hd h
theorem sizes_any (w : World) : Calls Tryz.prog 133 #[] w fun e w' => e = .returned (.agg #[.int .i64 2, .int .i64 4, .int .i64 6, .int .i64 8, .int .i64 12, .int .i64 16, .int .i64 20, .int .i64 32]) ∧ Out 0 0 w w' := by
  go_enter Tryz.func133, Tryz.ntmps133
  go_wp2
  exact ret8 (g := w.heap.size) rfl rfl rfl (heap_alloc_new _ _) ⟨rfl, (Out.refl _ _ _).alloc _⟩
def wordsV (c : Int) : Int := if c = 0 then 2 else if c = 1 then 4 else if c = 2 then 6 else if c = 3 then 8 else if c = 4 then 12 else if c = 5 then 16 else if c = 6 then 20 else if c = 7 then 32 else 0
theorem index8 (cs : Array Value) (i : Int) (k : Nat) (v : Value) (hi : i = k) (h : k < 8) (hv : cs[k]? = some v) (w : World) : (Instr.index 71 (.agg cs) (.int .i64 i)).run Tryz.prog w = .ok v w := by
  subst hi
  simp [Instr.index, run_underlying Tryz.underlying71, asIntOf, h, hv, go_sem]
theorem index8n (i : Nat) (h : i < 8) (w : World) : (Instr.index 71 (.agg #[.int .i64 2, .int .i64 4, .int .i64 6, .int .i64 8, .int .i64 12, .int .i64 16, .int .i64 20, .int .i64 32]) (.int .i64 i)).run Tryz.prog w = .ok (.int .i64 (wordsV i)) w := by
  refine index8 _ _ i _ rfl h ?_ w
  have hi : i = 0 ∨ i = 1 ∨ i = 2 ∨ i = 3 ∨ i = 4 ∨ i = 5 ∨ i = 6 ∨ i = 7 := by omega
  rcases hi with rfl | rfl | rfl | rfl | rfl | rfl | rfl | rfl <;> rfl
theorem wordsV_in {k : Nat} (h : k < 8) : (wordsV (k : Int) == 0) = false := by
  have hi : k = 0 ∨ k = 1 ∨ k = 2 ∨ k = 3 ∨ k = 4 ∨ k = 5 ∨ k = 6 ∨ k = 7 := by omega
  rcases hi with rfl | rfl | rfl | rfl | rfl | rfl | rfl | rfl <;> rfl
theorem words_any (c : Int) (w : World) : Calls Tryz.prog 123 #[.int .i64 c] w fun e w' => ∃ v : Int, e = .returned (.int .i64 v) ∧ (v == 0) = !classB c ∧ Out 0 0 w w' := by
  by_cases hc : 0 ≤ c ∧ c < 8
  · obtain ⟨h1, h2⟩ := hc
    obtain ⟨k, rfl⟩ : ∃ k : Nat, c = k := ⟨c.toNat, by omega⟩
    have hi := index8n k (by omega)
    have HC : Hid ((wordsV (k : Int) == 0) = !classB (k : Int)) := by
      show _ = _
      rw [wordsV_in (by omega), show classB (k : Int) = true from by unfold classB; simp; omega]; rfl
    have HS := hid_mk (sizes_any w)
    generalize classB (k : Int) = q at *
    generalize wordsV (k : Int) = u at *
    go_enter Tryz.func123, Tryz.ntmps123
    go_wp2_with (go_at_call 133; refine HS.out.mono ?_; rintro e w1 ⟨rfl, hg⟩)
    go_ret
    exact ⟨u, rfl, HC.out, hg⟩
  · have hc : c < 0 ∨ 8 ≤ c := by omega
    have e : classB c = false := by unfold classB; simp; omega
    rw [e]
    rcases hc with h | h
    all_goals
      go_enter Tryz.func123, Tryz.ntmps123
      go_wp2
      go_ret
      exact ⟨0, rfl, rfl, Out.refl _ _ _⟩
/-! a page as an answer -/
end Go.Proofs.YtjbbkeoolodeaaaGreatDoor
namespace Go.Proofs.YtjbbkeoolodeaaaGreatDoor
open Go.RowKit
set_option linter.unusedVariables false
set_option linter.unusedSimpArgs false

theorem rowF_pages {S : Nat → Int × Int × Int} {n k p : Nat} (hg : Good n S) (h : rowF S n k = some p) : p < n ∧ p + k ≤ n ∧ ∀ j, p ≤ j → j < p + k → S j = (0, 0, 0) := by
  obtain ⟨h1, h2, h3, _⟩ := rowF_some h
  exact ⟨h1, h2, fun j j1 j2 => hg.free (by omega) (allF_iff.1 h3 j j1 j2)⟩
theorem setR_eq (S : Nat → Int × Int × Int) (p k : Nat) (h : 1 ≤ k) : setR S p k = putA (setP S p (2, 0, (k : Int))) (p + 1) (k - 1) (3, 0, 0) := by
  funext j
  unfold setR putA setP
  by_cases e : j = p
  · rw [if_pos e, if_neg (by omega), if_pos e]
  · rw [if_neg e]
    by_cases h2 : p < j ∧ j < p + k
    · rw [if_pos h2, if_pos (by omega)]
    · rw [if_neg h2, if_neg (by omega), if_neg e]
set_option maxRecDepth 100000 in
set_option maxHeartbeats 4000000 in
theorem takeClass_any {w : World} {b bw n : Nat} {S : Nat → Int × Int × Int} (h : TblAt 126 w b bw n S) (hT : Tab w) (c : Int) :
    Calls Tryz.prog 143 #[.pointer (some ⟨b, 0, none⟩), .int .i64 c] w fun e w' => e = .returned (.tuple #[.int .i64 (tcP S n c : Nat), .int .i64 (tcE S n c)]) ∧ TblAt 126 w' b bw n (tcS S n c) ∧ Out bw (bw + 1) w w' := by
  have hn := h.nums
  have HW := hid_mk (words_any c w)
  have HH := hid_mk h
  have HT := hid_mk hT
  by_cases hc : classB c = true
  · rw [hc] at HW
    unfold tcP tcE tcS
    rw [if_pos hc, if_pos hc, if_pos hc]
    have HR : Hid (∀ w', Out 0 0 w w' → Calls Tryz.prog 141 #[.pointer (some ⟨b, 0, none⟩), .int .i64 1] w' fun e w' => e = .returned (.tuple #[.int .i64 ((rowF S n 1).getD 0 : Nat), .bool (rowF S n 1).isSome]) ∧ Out 0 0 w w') := fun w' ho => by
      obtain ⟨cap, c0, _⟩ := (HH.out.quiet ho).cell
      exact (row_any c0 (HT.out.quiet ho) ⟨hn.1, hn.2.1⟩ (HH.out.quiet ho).row HH.out.good 1 (by omega) (by omega)).mono fun e w' ⟨a, b⟩ => ⟨a, ho.trans b⟩
    cases hf : rowF S n 1 with
    | none =>
      rw [hf] at HR
      clear hn h hT hc hf
      go_enter Tryz.func143, Tryz.ntmps143
      go_wp2_with (first | (go_at_call 123; refine HW.out.mono ?_; rintro e w1 ⟨v, rfl, hv, ho⟩; have HO := hid_mk ho; have hv2 : (v == 0) = false := hv; clear hv ho) | (go_at_call 141; refine (HR.out _ HO.out).mono ?_; rintro e w2 ⟨rfl, ho⟩))
      go_ret2
      exact ⟨rfl, HH.out.quiet ho, ho.any _ _⟩
    | some p =>
      rw [hf] at HR
      obtain ⟨p1, p2, p3⟩ := rowF_pages HH.out.good hf
      have p4 := p3 p (Nat.le_refl _) (by omega)
      have HG := hid_mk (good_setC HH.out.good p4 (by unfold classB at hc; simp at hc; exact hc.1) (by unfold classB at hc; simp at hc; exact hc.2))
      have b0 : (0 : Int) ≤ (p : Int) := by omega
      have b1 : (p : Int) < (n : Int) := by omega
      have b2 : (n : Int) ≤ 4096 := by omega
      have HP := hid_mk p1
      have HP4 := hid_mk p4
      clear hn h hT hc hf p1 p2 p3 p4
      go_enter Tryz.func143, Tryz.ntmps143
      go_wp2_with (first | (go_at_call 123; refine HW.out.mono ?_; rintro e w1 ⟨v, rfl, hv, ho⟩; have HO := hid_mk ho; have hv2 : (v == 0) = false := hv; clear hv ho) | (go_at_call 141; refine (HR.out _ HO.out).mono ?_; rintro e w2 ⟨rfl, ho⟩; obtain ⟨cap, c0, hcap⟩ := (HH.out.quiet ho).cell; obtain ⟨q0, q1, q2⟩ := (HH.out.quiet ho).row.page HP.out HP4.out; have fz0 := Row.frozen (HH.out.quiet ho).row (p * 3); have fz1 := Row.frozen (HH.out.quiet ho).row (p * 3 + 1); have fz2 := Row.frozen (HH.out.quiet ho).row (p * 3 + 2); have HO2 := hid_mk ho; clear ho))
      go_ret2
      have hr := (HH.out.quiet HO2.out).row.set p 1 c 0
      have ho3 : Out bw (bw + 1) w (((w2.setCell ⟨bw, p * 3, none⟩ (.int .i64 1)).setCell ⟨bw, p * 3 + 1, none⟩ (.int .i64 c)).setCell ⟨bw, p * 3 + 2, none⟩ (.int .i64 0)) := (HO2.out.any _ _).set3 (.inl ⟨Nat.le_refl _, Nat.lt_succ_self _⟩) _ _ _
      exact ⟨rfl, HH.out.turn ho3 hr HG.out, ho3⟩
  · have hc' : classB c = false := by simpa using hc
    rw [hc'] at HW
    unfold tcP tcE tcS
    rw [if_neg hc, if_neg hc, if_neg hc]
    clear hn h hT hc hc'
    go_enter Tryz.func143, Tryz.ntmps143
    go_wp2_with (go_at_call 123; refine HW.out.mono ?_; rintro e w1 ⟨v, rfl, hv, ho⟩; have HO := hid_mk ho; have hv2 : (v == 0) = true := hv; clear hv ho)
    go_ret2
    exact ⟨rfl, HH.out.quiet HO.out, HO.out.any _ _⟩
end Go.Proofs.YtjbbkeoolodeaaaGreatDoor
