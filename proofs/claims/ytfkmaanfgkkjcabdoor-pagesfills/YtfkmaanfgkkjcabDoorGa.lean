/- worlds; the numbers of chapter 7 -/
import Derived.Test.YtfkmaanfgkkjcabDoorRows
import Derived.Test.YtfkmaanfgkkjcabDoorChecked
import Derived.WalkKit
import Derived.Carry
import Derived.OwnWalk
import Derived.Deep.RegionHeld3
namespace Go.Proofs.YtfkmaanfgkkjcabDoor
open Go.RowKit
set_option linter.unusedVariables false
set_option linter.unusedSimpArgs false

theorem hid_mk {p : Prop} (h : p) : Hid p := h
theorem ret_int {k : IntKind} {a b : Int} (h : a = b) : Ending.returned (.int k a) = .returned (.int k b) := by rw [h]
theorem ret_bool {a b : Bool} (h : a = b) : Ending.returned (.bool a) = .returned (.bool b) := by rw [h]
theorem ret_ib {k : IntKind} {a b : Int} {p q : Bool} (h : a = b) (g : p = q) : Ending.returned (.tuple #[.int k a, .bool p]) = .returned (.tuple #[.int k b, .bool q]) := by rw [h, g]
theorem calls_same {f : FuncId} {args : Array Value} {v : Value} {w : World} {Q : Ending → World → Prop} (h : Calls Tryd.prog f args w (fun e w' => e = .returned v ∧ w' = w)) (hq : Q (.returned v) w) : Calls Tryd.prog f args w Q :=
  h.mono fun _ _ ⟨he, hw⟩ => by rw [he, hw]; exact hq
theorem i64_bounds {n : Int} (h : (Lit.int .i64 n).wf = true) : -9223372036854775808 ≤ n ∧ n ≤ 9223372036854775807 := by
  simpa [Lit.wf, IntKind.min, IntKind.max, IntKind.signed, IntKind.bits] using h

/-- all blocks that were there are as they were, those from lo on below hi aside -/
def Out (lo hi : Nat) (w w' : World) : Prop :=
  w'.os = w.os ∧ w'.tape = w.tape ∧ w'.output = w.output ∧ w.heap.size ≤ w'.heap.size ∧ ∀ k, k < w.heap.size → (k < lo ∨ hi ≤ k) → w'.heap[k]? = w.heap[k]?
theorem Out.refl (lo hi : Nat) (w : World) : Out lo hi w w := ⟨rfl, rfl, rfl, Nat.le_refl _, fun _ _ _ => rfl⟩
theorem Out.size {lo hi : Nat} {w w' : World} (h : Out lo hi w w') : w.heap.size ≤ w'.heap.size := h.2.2.2.1
theorem Out.block {lo hi : Nat} {w w' : World} (h : Out lo hi w w') {k : Nat} (h1 : k < w.heap.size) (h2 : k < lo ∨ hi ≤ k) : w'.heap[k]? = w.heap[k]? := h.2.2.2.2 k h1 h2
theorem Out.trans {lo hi : Nat} {a b c : World} (h : Out lo hi a b) (g : Out lo hi b c) : Out lo hi a c :=
  ⟨g.1.trans h.1, g.2.1.trans h.2.1, g.2.2.1.trans h.2.2.1, Nat.le_trans h.size g.size, fun k h1 h2 => (g.block (Nat.lt_of_lt_of_le h1 h.size) h2).trans (h.block h1 h2)⟩
theorem Out.wide {lo hi lo' hi' : Nat} {w w' : World} (h : Out lo hi w w') (h1 : lo' ≤ lo) (h2 : hi ≤ hi') : Out lo' hi' w w' :=
  ⟨h.1, h.2.1, h.2.2.1, h.size, fun k a b => h.block a (by omega)⟩
/-- what lies beyond the first world's end counts for nothing -/
theorem Out.cut {lo hi : Nat} {w w' : World} (h : Out lo hi w w') (hl : w.heap.size ≤ lo) (a b : Nat) : Out a b w w' :=
  ⟨h.1, h.2.1, h.2.2.1, h.size, fun k h1 _ => h.block h1 (by omega)⟩
theorem Out.past {x y lo hi : Nat} {a b c : World} (h : Out x y a b) (g : Out lo hi b c) (hl : a.heap.size ≤ lo) : Out x y a c :=
  ⟨g.1.trans h.1, g.2.1.trans h.2.1, g.2.2.1.trans h.2.2.1, Nat.le_trans h.size g.size, fun k h1 h2 => (g.block (Nat.lt_of_lt_of_le h1 h.size) (.inl (by omega))).trans (h.block h1 h2)⟩
theorem Out.any {w w' : World} (h : Out 0 0 w w') (lo hi : Nat) : Out lo hi w w' :=
  ⟨h.1, h.2.1, h.2.2.1, h.size, fun k h1 _ => h.block h1 (by omega)⟩
theorem Out.of_below {w w' : World} (h : Below w.heap.size w w') (lo hi : Nat) : Out lo hi w w' := ⟨h.os, h.tape, h.output, h.size, fun k h1 _ => h.block k h1⟩
theorem Out.below {lo hi B : Nat} {w w' : World} (h : Out lo hi w w') (h1 : B ≤ lo) (h2 : B ≤ w.heap.size) : Below B w w' := ⟨h.1, h.2.1, h.2.2.1, h.size, fun k hk => h.block (by omega) (by omega)⟩
theorem Out.all {w w' : World} (h : Out 0 0 w w') : Below w.heap.size w w' := ⟨h.1, h.2.1, h.2.2.1, h.size, fun k hk => h.block hk (by omega)⟩
theorem Out.drew {lo hi : Nat} {a w : World} (h : Out lo hi a w) : Out lo hi a w.drew := ⟨h.1, h.2.1, h.2.2.1, h.size, h.2.2.2.2⟩
theorem Out.alloc {lo hi : Nat} {a w : World} (h : Out lo hi a w) (o : Obj) : Out lo hi a (w.alloc o) :=
  h.trans ⟨rfl, rfl, rfl, by simp, fun k h1 _ => Below.heap_alloc _ _ _ h1⟩
theorem Out.setCell {lo hi : Nat} {a w : World} (h : Out lo hi a w) {p : Addr} (hp : (lo ≤ p.block ∧ p.block < hi) ∨ a.heap.size ≤ p.block) (u : Value) : Out lo hi a (w.setCell p u) := by
  refine ⟨h.1, h.2.1, h.2.2.1, by have := h.size; simpa [World.setCell] using this, fun k h1 h2 => ?_⟩
  rw [Below.heap_setCell _ _ _ _ (by omega)]
  exact h.block h1 h2
theorem Out.cell {lo hi : Nat} {w w' : World} (h : Out lo hi w w') {b o : Nat} {v : Value} (hc : w.cell? ⟨b, o, none⟩ = some v) (h2 : b < lo ∨ hi ≤ b) : w'.cell? ⟨b, o, none⟩ = some v := by
  have hb : b < w.heap.size := by
    by_cases hb : b < w.heap.size
    · exact hb
    · have : w.heap[b]? = none := by simp; omega
      simp [World.cell?, this] at hc
  rw [World.cell?_of_block (w := w) (a := ⟨b, o, none⟩) (h.block hb h2)]
  exact hc
theorem heap_lt {w : World} {b : Nat} {o : Obj} (h : w.heap[b]? = some o) : b < w.heap.size := (Array.getElem?_eq_some_iff.1 h).1
theorem Out.heap {lo hi : Nat} {w w' : World} (h : Out lo hi w w') {b : Nat} {o : Obj} (hc : w.heap[b]? = some o) (h2 : b < lo ∨ hi ≤ b) : w'.heap[b]? = some o :=
  (h.block (heap_lt hc) h2).trans hc

/-- block b begins with k cells of type T, cell i holding 'f i', none frozen -/
def Row (w : World) (b : Nat) (T : TypeId) (k : Nat) (f : Nat → Value) : Prop :=
  ∃ c : Array Value, w.heap[b]? = some (.cells c T (0, 0)) ∧ k ≤ c.size ∧ ∀ i, i < k → c[i]? = some (f i)
theorem Row.cell {w : World} {b k : Nat} {T : TypeId} {f : Nat → Value} (h : Row w b T k f) {i : Nat} (hi : i < k) : w.cell? ⟨b, i, none⟩ = some (f i) := by
  obtain ⟨c, hb, _, hc⟩ := h
  simp [World.cell?, hb, hc i hi]
theorem Row.frozen {w : World} {b k : Nat} {T : TypeId} {f : Nat → Value} (h : Row w b T k f) (i : Nat) : w.frozen? ⟨b, i, none⟩ = false := by
  obtain ⟨c, hb, _, _⟩ := h
  simp [World.frozen?, hb]
theorem Row.lt {w : World} {b k : Nat} {T : TypeId} {f : Nat → Value} (h : Row w b T k f) : b < w.heap.size := by
  obtain ⟨c, hb, _, _⟩ := h
  exact heap_lt hb
theorem Row.of_block {w w' : World} {b k : Nat} {T : TypeId} {f : Nat → Value} (h : Row w b T k f) (e : w'.heap[b]? = w.heap[b]?) : Row w' b T k f := by
  obtain ⟨c, hb, hn, hc⟩ := h
  exact ⟨c, e.trans hb, hn, hc⟩
theorem Row.kept {w w' : World} {b k lo hi : Nat} {T : TypeId} {f : Nat → Value} (h : Row w b T k f) (g : Out lo hi w w') (h2 : b < lo ∨ hi ≤ b) : Row w' b T k f := h.of_block (g.block h.lt h2)
theorem Row.congr {w : World} {b k : Nat} {T : TypeId} {f g : Nat → Value} (h : Row w b T k f) (e : ∀ i, i < k → f i = g i) : Row w b T k g := by
  obtain ⟨c, hb, hn, hc⟩ := h
  exact ⟨c, hb, hn, fun i hi => by rw [hc i hi, e i hi]⟩
theorem Row.set {w : World} {b k : Nat} {T : TypeId} {f : Nat → Value} (h : Row w b T k f) (i : Nat) (v : Value) : Row (w.setCell ⟨b, i, none⟩ v) b T k (fun j => if j = i then v else f j) := by
  obtain ⟨c, hb, hn, hc⟩ := h
  refine ⟨c.setIfInBounds i v, ?_, by simpa using hn, fun j hj => ?_⟩
  · simp [World.setCell, Array.getElem?_modify, hb]
  · rw [Array.getElem?_setIfInBounds]
    by_cases e : j = i
    · subst e
      have : j < c.size := by omega
      simp [this]
    · rw [if_neg (fun h => e h.symm)]
      show c[j]? = some (if j = i then v else f j)
      rw [if_neg e]
      exact hc j hj

theorem below_seq {a b c : World} (h : Below a.heap.size a b) (g : Below b.heap.size b c) : Below a.heap.size a c := h.trans (g.mono h.size)
theorem calls_rel {P : Program} {f : FuncId} {args : Array Value} {w w0 : World} {post : Ending → Prop} (h : Calls P f args w (fun e w' => post e ∧ Below w.heap.size w w')) (h0 : Below w0.heap.size w0 w) :
    Calls P f args w (fun e w' => post e ∧ Below w0.heap.size w0 w') := h.mono fun _ _ ⟨he, hb⟩ => ⟨he, below_seq h0 hb⟩
/-! the numbers: a page is its kind, its class, its run -/
def fld (p : Int × Int × Int) (j : Nat) : Int := if j = 0 then p.1 else if j = 1 then p.2.1 else p.2.2
def freeB (p : Int × Int × Int) : Bool := p.1 == 0
/-- what page i of n may be -/
def PgOk (n : Nat) (S : Nat → Int × Int × Int) (i : Nat) : Prop :=
  S i = (0, 0, 0) ∨ (∃ c : Int, 0 ≤ c ∧ c ≤ 7 ∧ S i = (1, c, 0)) ∨ (∃ k : Nat, 1 ≤ k ∧ k ≤ 16 ∧ i + k ≤ n ∧ S i = (2, 0, (k : Int)) ∧ ∀ j, i < j → j < i + k → S j = (3, 0, 0)) ∨
    (S i = (3, 0, 0) ∧ ∃ h k : Nat, h < i ∧ i < h + k ∧ S h = (2, 0, (k : Int)))
def Good (n : Nat) (S : Nat → Int × Int × Int) : Prop := ∀ i, i < n → PgOk n S i
theorem good_free (n : Nat) : Good n (fun _ => (0, 0, 0)) := fun _ _ => .inl rfl
theorem Good.free {n i : Nat} {S : Nat → Int × Int × Int} (h : Good n S) (hi : i < n) (hf : freeB (S i) = true) : S i = (0, 0, 0) := by
  unfold freeB at hf
  rcases h i hi with e | ⟨c, _, _, e⟩ | ⟨k, _, _, _, e, _⟩ | ⟨e, _⟩
  · exact e
  all_goals (rw [e] at hf; simp at hf)
/-- the shapes of a page, and no more -/
theorem Good.cases {n i : Nat} {S : Nat → Int × Int × Int} (h : Good n S) (hi : i < n) :
    S i = (0, 0, 0) ∨ (∃ c : Int, 0 ≤ c ∧ c ≤ 7 ∧ S i = (1, c, 0)) ∨ (∃ k : Nat, 1 ≤ k ∧ k ≤ 16 ∧ i + k ≤ n ∧ S i = (2, 0, (k : Int))) ∨ S i = (3, 0, 0) := by
  rcases h i hi with e | e | ⟨k, k1, k2, k3, e, _⟩ | ⟨e, _⟩
  · exact .inl e
  · exact .inr (.inl e)
  · exact .inr (.inr (.inl ⟨k, k1, k2, k3, e⟩))
  · exact .inr (.inr (.inr e))
/-- n pages from p on, all free -/
def allF (S : Nat → Int × Int × Int) (p n : Nat) : Bool := (List.range n).all fun i => freeB (S (p + i))
theorem allF_iff {S : Nat → Int × Int × Int} {p n : Nat} : allF S p n = true ↔ ∀ j, p ≤ j → j < p + n → freeB (S j) = true := by
  unfold allF
  rw [List.all_eq_true]
  constructor
  · intro h j h1 h2
    have := h (j - p) (by simp; omega)
    rwa [show p + (j - p) = j from by omega] at this
  · intro h x hx
    simp at hx
    exact h _ (by omega) (by omega)
/-- the lowest row of k free pages -/
def rowF (S : Nat → Int × Int × Int) (n k : Nat) : Option Nat := (List.range n).find? fun p => decide (p + k ≤ n) && allF S p k
theorem find_range_some {f : Nat → Bool} {n p : Nat} (hp : p < n) (hf : f p = true) (hl : ∀ q, q < p → f q = false) : (List.range n).find? f = some p := by
  rw [List.find?_range_eq_some]
  exact ⟨hf, by simpa using hp, fun j hj => by simp [hl j hj]⟩
theorem find_range_none {f : Nat → Bool} {n : Nat} (hl : ∀ q, q < n → f q = false) : (List.range n).find? f = none := by
  rw [List.find?_eq_none]
  intro x hx
  simp at hx
  simp [hl x hx]
theorem rowF_some {S : Nat → Int × Int × Int} {n k p : Nat} (h : rowF S n k = some p) : p < n ∧ p + k ≤ n ∧ allF S p k = true ∧ ∀ q, q < p → q + k ≤ n → allF S q k = false := by
  unfold rowF at h
  rw [List.find?_range_eq_some] at h
  obtain ⟨h1, h2, h3⟩ := h
  simp at h1 h2
  refine ⟨h2, h1.1, h1.2, fun q hq hk => ?_⟩
  have := h3 q hq
  simp [hk] at this
  exact this
theorem rowF_none {S : Nat → Int × Int × Int} {n k : Nat} (h : rowF S n k = none) (h1 : 1 ≤ k) : ∀ q, q + k ≤ n → allF S q k = false := by
  unfold rowF at h
  rw [List.find?_eq_none] at h
  intro q hq
  have := h q (by simp; omega)
  simp [hq] at this
  exact this
theorem rowF_of {S : Nat → Int × Int × Int} {n k p : Nat} (h1 : 1 ≤ k) (h2 : p + k ≤ n) (h3 : allF S p k = true) (h4 : ∀ q, q < p → allF S q k = false) : rowF S n k = some p :=
  find_range_some (by omega) (by simp [h2, h3]) (fun q hq => by simp [h4 q hq])
theorem rowF_no {S : Nat → Int × Int × Int} {n k : Nat} (h4 : ∀ q, q + k ≤ n → allF S q k = false) : rowF S n k = none :=
  find_range_none (fun q hq => by by_cases h : q + k ≤ n <;> simp [h]; exact h4 q h)
/-- going up: i pages seen, the last f of them free and no more, no row yet -/
def RowInv (S : Nat → Int × Int × Int) (k i f : Nat) : Prop :=
  f ≤ i ∧ f < k ∧ (∀ j, i - f ≤ j → j < i → freeB (S j) = true) ∧ (f = i ∨ freeB (S (i - f - 1)) = false) ∧ ∀ q, q + k ≤ i → allF S q k = false
theorem RowInv.start (S : Nat → Int × Int × Int) {k : Nat} (h : 1 ≤ k) : RowInv S k 0 0 := ⟨Nat.le_refl _, h, fun j _ h2 => by omega, .inl rfl, fun q hq => by omega⟩
theorem not_all {S : Nat → Int × Int × Int} {p n j : Nat} (h1 : p ≤ j) (h2 : j < p + n) (h : freeB (S j) = false) : allF S p n = false := by
  cases e : allF S p n with
  | false => rfl
  | true => rw [allF_iff.1 e j h1 h2] at h; cases h
theorem RowInv.taken {S : Nat → Int × Int × Int} {k i f : Nat} (h : RowInv S k i f) (hi : freeB (S i) = false) : RowInv S k (i + 1) 0 := by
  obtain ⟨h1, h2, h3, h4, h5⟩ := h
  refine ⟨by omega, by omega, fun j _ _ => by omega, .inr (by simpa using hi), fun q hq => ?_⟩
  by_cases e : q + k ≤ i
  · exact h5 q e
  · exact not_all (j := i) (by omega) (by omega) hi
theorem RowInv.more {S : Nat → Int × Int × Int} {k i f : Nat} (h : RowInv S k i f) (hi : freeB (S i) = true) (hf : f + 1 ≠ k) : RowInv S k (i + 1) (f + 1) := by
  obtain ⟨h1, h2, h3, h4, h5⟩ := h
  refine ⟨by omega, by omega, fun j j1 j2 => ?_, ?_, fun q hq => ?_⟩
  · by_cases e : j = i
    · rw [e]; exact hi
    · exact h3 j (by omega) (by omega)
  · rcases h4 with e | e
    · left; omega
    · right; rw [show i + 1 - (f + 1) - 1 = i - f - 1 from by omega]; exact e
  · by_cases e : q + k ≤ i
    · exact h5 q e
    · rcases h4 with e4 | e4
      · omega
      · by_cases e5 : f = i
        · omega
        · exact not_all (j := i - f - 1) (by omega) (by omega) e4
theorem RowInv.found {S : Nat → Int × Int × Int} {k i f n : Nat} (h : RowInv S k i f) (hi : freeB (S i) = true) (hf : f + 1 = k) (hn : i < n) : rowF S n k = some (i - f) := by
  obtain ⟨h1, h2, h3, h4, h5⟩ := h
  refine rowF_of (by omega) (by omega) (allF_iff.2 fun j j1 j2 => ?_) (fun q hq => h5 q (by omega))
  by_cases e : j = i
  · rw [e]; exact hi
  · exact h3 j j1 (by omega)
theorem RowInv.none {S : Nat → Int × Int × Int} {k i f : Nat} (h : RowInv S k i f) : rowF S i k = none := rowF_no h.2.2.2.2
/-! what the calls answer, and what the pages are behind them -/
def classB (c : Int) : Bool := decide (0 ≤ c) && decide (c ≤ 7)
def runB (k : Int) : Bool := decide (1 ≤ k) && decide (k ≤ 16)
def setC (S : Nat → Int × Int × Int) (p : Nat) (c : Int) : Nat → Int × Int × Int := fun j => if j = p then (1, c, 0) else S j
def setR (S : Nat → Int × Int × Int) (p k : Nat) : Nat → Int × Int × Int := fun j => if j = p then (2, 0, (k : Int)) else if p < j ∧ j < p + k then (3, 0, 0) else S j
def setF (S : Nat → Int × Int × Int) (p k : Nat) : Nat → Int × Int × Int := fun j => if p ≤ j ∧ j < p + k then (0, 0, 0) else S j
def tcP (S : Nat → Int × Int × Int) (n : Nat) (c : Int) : Nat := if classB c then (rowF S n 1).getD 0 else 0
def tcE (S : Nat → Int × Int × Int) (n : Nat) (c : Int) : Int := if classB c then (if (rowF S n 1).isSome then 0 else 20) else 1
def tcS (S : Nat → Int × Int × Int) (n : Nat) (c : Int) : Nat → Int × Int × Int := if classB c then (match rowF S n 1 with | some p => setC S p c | none => S) else S
def trP (S : Nat → Int × Int × Int) (n : Nat) (k : Int) : Nat := if runB k then (rowF S n k.toNat).getD 0 else 0
def trE (S : Nat → Int × Int × Int) (n : Nat) (k : Int) : Int := if runB k then (if (rowF S n k.toNat).isSome then 0 else 20) else 1
def trS (S : Nat → Int × Int × Int) (n : Nat) (k : Int) : Nat → Int × Int × Int := if runB k then (match rowF S n k.toNat with | some p => setR S p k.toNat | none => S) else S
def inB (n : Nat) (i : Int) : Bool := decide (0 ≤ i) && decide (i < n)
def lenP (p : Int × Int × Int) : Nat := if p.1 = 2 then p.2.2.toNat else 1
def giveB (S : Nat → Int × Int × Int) (n : Nat) (i : Int) : Bool := inB n i && ((S i.toNat).1 == 1 || (S i.toNat).1 == 2)
def gvE (S : Nat → Int × Int × Int) (n : Nat) (i : Int) : Int := if giveB S n i then 0 else 1
def gvS (S : Nat → Int × Int × Int) (n : Nat) (i : Int) : Nat → Int × Int × Int := if giveB S n i then setF S i.toNat (lenP (S i.toNat)) else S
def stP (S : Nat → Int × Int × Int) (n : Nat) (i : Int) : Int × Int × Int := if inB n i then S i.toNat else (0, 0, 0)
def cntF (S : Nat → Int × Int × Int) (n : Nat) : Nat := ((List.range n).filter fun i => freeB (S i)).length
theorem cntF_succ (S : Nat → Int × Int × Int) (n : Nat) : cntF S (n + 1) = cntF S n + (if freeB (S n) then 1 else 0) := by
  unfold cntF
  rw [List.range_succ, List.filter_append, List.length_append]
  cases h : freeB (S n) <;> simp [h]
theorem cntF_le (S : Nat → Int × Int × Int) (n : Nat) : cntF S n ≤ n := by
  unfold cntF
  have := List.length_filter_le (fun i => freeB (S i)) (List.range n)
  simpa using this
/-! they stay pages -/
theorem good_setC {n p : Nat} {S : Nat → Int × Int × Int} {c : Int} (h : Good n S) (hp : S p = (0, 0, 0)) (h0 : 0 ≤ c) (h7 : c ≤ 7) : Good n (setC S p c) := by
  intro i hi
  unfold setC
  by_cases e : i = p
  · exact .inr (.inl ⟨c, h0, h7, by simp [e]⟩)
  · rcases h i hi with e1 | ⟨c', a, b, e1⟩ | ⟨k, k1, k2, k3, e1, hr⟩ | ⟨e1, a, k, ha, hk, e2⟩
    · exact .inl (by simp [e, e1])
    · exact .inr (.inl ⟨c', a, b, by simp [e, e1]⟩)
    · refine .inr (.inr (.inl ⟨k, k1, k2, k3, by simp [e, e1], fun j j1 j2 => ?_⟩))
      have := hr j j1 j2
      by_cases ej : j = p
      · rw [ej, hp] at this; simp at this
      · simp [ej, this]
    · refine .inr (.inr (.inr ⟨by simp [e, e1], a, k, ha, hk, ?_⟩))
      by_cases ej : a = p
      · rw [ej, hp] at e2; simp at e2
      · simp [ej, e2]
theorem good_setR {n p k : Nat} {S : Nat → Int × Int × Int} (h : Good n S) (hp : ∀ j, p ≤ j → j < p + k → S j = (0, 0, 0)) (h1 : 1 ≤ k) (h2 : k ≤ 16) (h3 : p + k ≤ n) : Good n (setR S p k) := by
  have out : ∀ j, (j < p ∨ p + k ≤ j) → setR S p k j = S j := by
    intro j hj
    unfold setR
    rw [if_neg (by omega), if_neg (by omega)]
  have hd : setR S p k p = (2, 0, (k : Int)) := by unfold setR; rw [if_pos rfl]
  have hr : ∀ j, p < j → j < p + k → setR S p k j = (3, 0, 0) := by
    intro j a b
    unfold setR
    rw [if_neg (by omega), if_pos ⟨a, b⟩]
  have nz : ∀ j, S j ≠ (0, 0, 0) → j < p ∨ p + k ≤ j := by
    intro j hj
    by_cases e : j < p ∨ p + k ≤ j
    · exact e
    · exact absurd (hp j (by omega) (by omega)) hj
  intro i hi
  by_cases e : i = p
  · subst e
    exact .inr (.inr (.inl ⟨k, h1, h2, h3, hd, hr⟩))
  · by_cases e' : p < i ∧ i < p + k
    · exact .inr (.inr (.inr ⟨hr i e'.1 e'.2, p, k, e'.1, e'.2, hd⟩))
    · have eo := out i (by omega)
      rcases h i hi with e1 | ⟨c', a, b, e1⟩ | ⟨k', k1, k2, k3, e1, hr'⟩ | ⟨e1, a, k', ha, hk, e2⟩
      · exact .inl (by rw [eo, e1])
      · exact .inr (.inl ⟨c', a, b, by rw [eo, e1]⟩)
      · refine .inr (.inr (.inl ⟨k', k1, k2, k3, by rw [eo, e1], fun j j1 j2 => ?_⟩))
        have := hr' j j1 j2
        rw [out j (nz j (by rw [this]; simp)), this]
      · exact .inr (.inr (.inr ⟨by rw [eo, e1], a, k', ha, hk, by rw [out a (nz a (by rw [e2]; simp)), e2]⟩))
/-- what is given: a class's page, or a run -/
theorem give_cases {n p : Nat} {S : Nat → Int × Int × Int} (h : Good n S) (hp : p < n) (hk : (S p).1 = 1 ∨ (S p).1 = 2) :
    1 ≤ lenP (S p) ∧ lenP (S p) ≤ 16 ∧ p + lenP (S p) ≤ n ∧ (∀ j, p < j → j < p + lenP (S p) → S j = (3, 0, 0)) ∧ (((S p).1 = 1 ∧ lenP (S p) = 1 ∧ (S p).2.2 = 0) ∨ ((S p).1 = 2 ∧ (S p).2.2 = (lenP (S p) : Nat))) := by
  rcases h p hp with e | ⟨c, _, _, e⟩ | ⟨k, k1, k2, k3, e, hr⟩ | ⟨e, _⟩
  · rw [e] at hk; simp at hk
  · rw [e]
    have : lenP (1, c, 0) = 1 := by unfold lenP; simp
    rw [this]
    exact ⟨by omega, by omega, by omega, fun j j1 j2 => by omega, .inl ⟨rfl, rfl, rfl⟩⟩
  · rw [e]
    have : lenP (2, 0, (k : Int)) = k := by unfold lenP; simp
    rw [this]
    exact ⟨k1, k2, k3, hr, .inr ⟨rfl, rfl⟩⟩
  · rw [e] at hk; simp at hk
theorem good_give {n p : Nat} {S : Nat → Int × Int × Int} (h : Good n S) (hp : p < n) (hk : (S p).1 = 1 ∨ (S p).1 = 2) : Good n (setF S p (lenP (S p))) := by
  obtain ⟨l1, l2, l3, hrest, hkind⟩ := give_cases h hp hk
  generalize hL : lenP (S p) = L at *
  have out : ∀ j, (j < p ∨ p + L ≤ j) → setF S p L j = S j := by
    intro j hj
    unfold setF
    rw [if_neg (by omega)]
  intro i hi
  by_cases e : p ≤ i ∧ i < p + L
  · left; unfold setF; rw [if_pos e]
  · have eo := out i (by omega)
    rcases h i hi with e1 | ⟨c', a, b, e1⟩ | ⟨k', k1, k2, k3, e1, hr'⟩ | ⟨e1, a, k', ha, hk', e2⟩
    · exact .inl (by rw [eo, e1])
    · exact .inr (.inl ⟨c', a, b, by rw [eo, e1]⟩)
    · refine .inr (.inr (.inl ⟨k', k1, k2, k3, by rw [eo, e1], fun j j1 j2 => ?_⟩))
      have hj := hr' j j1 j2
      rw [out j ?_, hj]
      by_cases hp' : i < p
      · have : ¬ (p < i + k') := fun hlt => by
          have := hr' p hp' hlt
          rw [this] at hk; simp at hk
        omega
      · omega
    · refine .inr (.inr (.inr ⟨by rw [eo, e1], a, k', ha, hk', ?_⟩))
      rw [out a ?_, e2]
      by_cases ea : a < p ∨ p + L ≤ a
      · exact ea
      · exfalso
        by_cases ep : a = p
        · subst ep
          have hl2 : (S a).2.2 = (k' : Int) := by rw [e2]
          rcases hkind with ⟨q1, q2, q3⟩ | ⟨q1, q2⟩
          · rw [e2] at q1; simp at q1
          · rw [q2] at hl2
            have : L = k' := by omega
            omega
        · have := hrest a (by omega) (by omega)
          rw [e2] at this; simp at this
/-! the two variables of package pages -/
def Tab (w : World) : Prop := ∀ j : Nat, j < 3 → w.cell? ⟨1, j, none⟩ = some (.int .i64 0) ∧ w.cell? ⟨0, j, none⟩ = some (.int .i64 (if j = 0 then 3 else 0))
theorem Tab.lt {w : World} (h : Tab w) : 1 < w.heap.size := by
  have h0 := (h 0 (by omega)).1
  by_cases hb : 1 < w.heap.size
  · exact hb
  · have : w.heap[1]? = none := Array.getElem?_eq_none (by omega)
    simp [World.cell?, this] at h0
theorem Tab.kept {w w' : World} {lo hi : Nat} (h : Tab w) (g : Out lo hi w w') (h2 : 2 ≤ lo ∨ hi = 0) : Tab w' := fun j hj => ⟨g.cell (h j hj).1 (by omega), g.cell (h j hj).2 (by omega)⟩
theorem Tab.quiet {w w' : World} (h : Tab w) (g : Out 0 0 w w') : Tab w' := h.kept g (.inr rfl)
theorem Tab.f {w : World} (h : Tab w) : w.cell? ⟨1, 0, none⟩ = some (.int .i64 0) ∧ w.cell? ⟨1, 1, none⟩ = some (.int .i64 0) ∧ w.cell? ⟨1, 2, none⟩ = some (.int .i64 0) := ⟨(h 0 (by omega)).1, (h 1 (by omega)).1, (h 2 (by omega)).1⟩
theorem Tab.r {w : World} (h : Tab w) : w.cell? ⟨0, 0, none⟩ = some (.int .i64 3) ∧ w.cell? ⟨0, 1, none⟩ = some (.int .i64 0) ∧ w.cell? ⟨0, 2, none⟩ = some (.int .i64 0) := ⟨(h 0 (by omega)).2, (h 1 (by omega)).2, (h 2 (by omega)).2⟩
/-! pages in memory -/
def pcell (S : Nat → Int × Int × Int) (i : Nat) : Value := .int .i64 (fld (S (i / 3)) (i % 3))
def PRow (w : World) (b n : Nat) (S : Nat → Int × Int × Int) : Prop := Row w b 37 (n * 3) (pcell S)
theorem PRow.cells {w : World} {b n i : Nat} {S : Nat → Int × Int × Int} (h : PRow w b n S) (hi : i < n) :
    w.cell? ⟨b, i * 3, none⟩ = some (.int .i64 (S i).1) ∧ w.cell? ⟨b, i * 3 + 1, none⟩ = some (.int .i64 (S i).2.1) ∧ w.cell? ⟨b, i * 3 + 2, none⟩ = some (.int .i64 (S i).2.2) := by
  refine ⟨?_, ?_, ?_⟩
  · rw [Row.cell h (i := i * 3) (by omega)]
    unfold pcell
    rw [show i * 3 / 3 = i from by omega, show i * 3 % 3 = 0 from by omega]; rfl
  · rw [Row.cell h (i := i * 3 + 1) (by omega)]
    unfold pcell
    rw [show (i * 3 + 1) / 3 = i from by omega, show (i * 3 + 1) % 3 = 1 from by omega]; rfl
  · rw [Row.cell h (i := i * 3 + 2) (by omega)]
    unfold pcell
    rw [show (i * 3 + 2) / 3 = i from by omega, show (i * 3 + 2) % 3 = 2 from by omega]; rfl
def setP (S : Nat → Int × Int × Int) (p : Nat) (x : Int × Int × Int) : Nat → Int × Int × Int := fun j => if j = p then x else S j
theorem PRow.congr {w : World} {b n : Nat} {S S' : Nat → Int × Int × Int} (h : PRow w b n S) (e : ∀ i, i < n → S i = S' i) : PRow w b n S' :=
  Row.congr h fun i hi => by unfold pcell; rw [e (i / 3) (by omega)]
theorem PRow.set {w : World} {b n : Nat} {S : Nat → Int × Int × Int} (h : PRow w b n S) (i : Nat) (k c r : Int) :
    PRow (((w.setCell ⟨b, i * 3, none⟩ (.int .i64 k)).setCell ⟨b, i * 3 + 1, none⟩ (.int .i64 c)).setCell ⟨b, i * 3 + 2, none⟩ (.int .i64 r)) b n (setP S i (k, c, r)) := by
  refine Row.congr (((Row.set h (i * 3) (.int .i64 k)).set (i * 3 + 1) (.int .i64 c)).set (i * 3 + 2) (.int .i64 r)) fun j hj => ?_
  unfold pcell setP
  by_cases e : j / 3 = i
  · rw [if_pos e]
    have hm : j % 3 = 0 ∨ j % 3 = 1 ∨ j % 3 = 2 := by omega
    rcases hm with hm | hm | hm
    · rw [if_neg (by omega), if_neg (by omega), if_pos (by omega), hm]; rfl
    · rw [if_neg (by omega), if_pos (by omega), hm]; rfl
    · rw [if_pos (by omega), hm]; rfl
  · rw [if_neg e, if_neg (by omega), if_neg (by omega), if_neg (by omega)]
theorem PRow.kept {w w' : World} {b n lo hi : Nat} {S : Nat → Int × Int × Int} (h : PRow w b n S) (g : Out lo hi w w') (h2 : b < lo ∨ hi ≤ b) : PRow w' b n S := Row.kept h g h2
theorem Out.set3 {lo hi : Nat} {a w : World} (h : Out lo hi a w) {b o : Nat} (hp : (lo ≤ b ∧ b < hi) ∨ a.heap.size ≤ b) (x y z : Value) : Out lo hi a (((w.setCell ⟨b, o, none⟩ x).setCell ⟨b, o + 1, none⟩ y).setCell ⟨b, o + 2, none⟩ z) :=
  ((h.setCell (p := ⟨b, o, none⟩) hp x).setCell (p := ⟨b, o + 1, none⟩) hp y).setCell (p := ⟨b, o + 2, none⟩) hp z
/-- block b is a table (of type T) of n pages that lie in block bw -/
def TblAt (T : TypeId) (w : World) (b bw n : Nat) (S : Nat → Int × Int × Int) : Prop :=
  ∃ cap, w.heap[b]? = some (.cells #[.slice (some ⟨bw, 0, none⟩) n cap] T (0, 0)) ∧ n ≤ cap ∧ bw ≠ b ∧ 2 ≤ b ∧ 2 ≤ bw ∧ 1 ≤ n ∧ n ≤ 4096 ∧ Good n S ∧ PRow w bw n S
theorem TblAt.kept {T : TypeId} {w w' : World} {b bw n lo hi : Nat} {S : Nat → Int × Int × Int} (h : TblAt T w b bw n S) (g : Out lo hi w w') (h1 : b < lo ∨ hi ≤ b) (h2 : bw < lo ∨ hi ≤ bw) : TblAt T w' b bw n S := by
  obtain ⟨cap, hb, k1, k2, k3, k4, k5, k6, k7, hr⟩ := h
  exact ⟨cap, g.heap hb h1, k1, k2, k3, k4, k5, k6, k7, hr.kept g h2⟩
theorem TblAt.quiet {T : TypeId} {w w' : World} {b bw n : Nat} {S : Nat → Int × Int × Int} (h : TblAt T w b bw n S) (g : Out 0 0 w w') : TblAt T w' b bw n S := h.kept g (.inr (Nat.zero_le _)) (.inr (Nat.zero_le _))
theorem TblAt.cell {T : TypeId} {w : World} {b bw n : Nat} {S : Nat → Int × Int × Int} (h : TblAt T w b bw n S) : ∃ cap, w.cell? ⟨b, 0, none⟩ = some (.slice (some ⟨bw, 0, none⟩) n cap) ∧ n ≤ cap := by
  obtain ⟨cap, hb, k1, _⟩ := h
  exact ⟨cap, by simp [World.cell?, hb], k1⟩
theorem TblAt.row {T : TypeId} {w : World} {b bw n : Nat} {S : Nat → Int × Int × Int} (h : TblAt T w b bw n S) : PRow w bw n S := by obtain ⟨cap, hb, k1, k2, k3, k4, k5, k6, k7, hr⟩ := h; exact hr
theorem TblAt.good {T : TypeId} {w : World} {b bw n : Nat} {S : Nat → Int × Int × Int} (h : TblAt T w b bw n S) : Good n S := by obtain ⟨cap, hb, k1, k2, k3, k4, k5, k6, k7, hr⟩ := h; exact k7
theorem TblAt.nums {T : TypeId} {w : World} {b bw n : Nat} {S : Nat → Int × Int × Int} (h : TblAt T w b bw n S) : 1 ≤ n ∧ n ≤ 4096 ∧ 2 ≤ b ∧ 2 ≤ bw ∧ bw ≠ b ∧ b < w.heap.size ∧ bw < w.heap.size := by
  obtain ⟨cap, hb, k1, k2, k3, k4, k5, k6, k7, hr⟩ := h
  exact ⟨k5, k6, k3, k4, k2, heap_lt hb, Row.lt hr⟩
/-- other pages in the same block -/
theorem TblAt.turn {T : TypeId} {w w' : World} {b bw n : Nat} {S S' : Nat → Int × Int × Int} (h : TblAt T w b bw n S) (g : Out bw (bw + 1) w w') (hr : PRow w' bw n S') (hg : Good n S') : TblAt T w' b bw n S' := by
  obtain ⟨cap, hb, k1, k2, k3, k4, k5, k6, k7, _⟩ := h
  exact ⟨cap, g.heap hb (by omega), k1, k2, k3, k4, k5, k6, hg, hr⟩
end Go.Proofs.YtfkmaanfgkkjcabDoor
