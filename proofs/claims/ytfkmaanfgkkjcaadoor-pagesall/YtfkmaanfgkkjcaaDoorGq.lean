/- new pairs; a step that changes -/
import Derived.Test.YtfkmaanfgkkjcaaDoorGp
namespace Go.Proofs.YtfkmaanfgkkjcaaDoor
open Go.RowKit
set_option linter.unusedVariables false
set_option linter.unusedSimpArgs false

def newD (b bt bwt br bwr n : Nat) (S : Nat → Int × Int × Int) : Desc := { b := b, bt := bt, bwt := bwt, br := br, bwr := bwr, n := n, S := S, nl := 0, nm := 0, u := true, col := fun k => if k = b then 0 else 7 }
theorem pair_at {B s0 b bt bwt br bwr n : Nat} {S : Nat → Int × Int × Int} {w : World} (hb : w.heap[b]? = some (.cells #[.pointer (some ⟨bt, 0, none⟩), .pointer (some ⟨br, 0, none⟩), .slice none 0 0, .slice none 0 0, .slice none 0 0, .slice none 0 0] 59 (0, 0)))
    (t1 : TblAt 70 w bt bwt n S) (t2 : TblAt 61 w br bwr n S) (hB : B ≤ s0) (l : s0 ≤ b ∧ s0 ≤ bt ∧ s0 ≤ bwt ∧ s0 ≤ br ∧ s0 ≤ bwr) (ne : b ≠ bt ∧ b ≠ bwt ∧ b ≠ br ∧ b ≠ bwr) (nd : bt ≠ bwr ∧ br ≠ bwt ∧ bwt ≠ bwr) :
    PairK B w (newD b bt bwt br bwr n S) ∧ ∀ k, (newD b bt bwt br bwr n S).own k → s0 ≤ k := by
  have hlt := heap_lt hb
  refine ⟨⟨⟨.slice none 0 0, .slice none 0 0, .slice none 0 0, .slice none 0 0, [], [], [], [], fun _ => [], ?_, fun _ => rfl, rfl, rfl, rfl⟩, ⟨fun _ => ⟨0, rfl, rfl, by omega⟩, fun h => by cases h⟩, t1, t2, ⟨if_neg (Ne.symm ne.1), if_neg (Ne.symm ne.2.1), if_neg (Ne.symm ne.2.2.1), if_neg (Ne.symm ne.2.2.2)⟩, ?_, nd⟩, ?_⟩
  · refine { lo := fun k hk => if_neg (by show k ≠ b; omega), hB := by omega, hb := hb, cb := if_pos rfl, oL := World.ownsRow_nil _ _ _ _, oW := World.ownsRow_nil _ _ _ _, oS := World.ownsRow_nil _ _ _ _, oM := World.ownsRow_nil _ _ _ _, cL := (fun x hx => by cases hx), cW := (fun x hx => by cases hx), cS := (fun x hx => by cases hx), cM := (fun x hx => by cases hx), q := (fun i v _ hv => by simp at hv), wr := (fun _ i v hv => by simp at hv), f := (fun i v m hv _ => by simp at hv) }
  · show B ≤ bt ∧ B ≤ bwt ∧ B ≤ br ∧ B ≤ bwr; omega
  · intro k ho
    rcases ho with e | e | e | e | e
    · by_cases ek : k = b
      · omega
      · exact absurd (if_neg ek) e
    all_goals (simp only [newD] at e; omega)
set_option maxRecDepth 100000 in
set_option maxHeartbeats 2000000 in
theorem made_yes {B : Nat} {w : World} (hT : Tab w) (hB : B ≤ w.heap.size) (n : Nat) (h1 : 1 ≤ n) (h2 : n ≤ 4096) :
    Calls Tryd.prog 9 #[.int .i64 n] w fun e w' => ∃ d : Desc, e = .returned (.tuple #[.pointer (some ⟨d.b, 0, none⟩), .bool true]) ∧ PairK B w' d ∧ (∀ k, d.own k → w.heap.size ≤ k) ∧ d.u = true ∧ Out 0 0 w w' := by
  have HN := hid_mk (new_yes hT n h1 h2)
  have HT := hid_mk hT
  have HB := hid_mk hB
  have HR : Hid (∀ w', 2 ≤ w'.heap.size → Calls Tryd.prog 25 #[.int .i64 n] w' fun e w'' => e = .returned (.tuple #[.pointer (some ⟨w'.heap.size + 1, 0, none⟩), .int .i64 0]) ∧ TblAt 61 w'' (w'.heap.size + 1) w'.heap.size n (fun _ => (0, 0, 0)) ∧ Out 0 0 w' w'' ∧ w''.heap.size = w'.heap.size + 2) := fun w' hw => refNew_yes hw n h1 h2
  clear hT hB
  go_enter Tryd.func9, Tryd.ntmps9
  go_wp2_with fail
  refine HN.out.mono ?_
  rintro e w1 ⟨rfl, ht, ho, hs⟩
  have HT1 := hid_mk ht
  have HO1 := hid_mk ho
  have HS1 := hid_mk hs
  clear ht ho hs HN
  go_wp2_with fail
  refine (HR.out w1 (by have := HT.out.lt; have := HS1.out; omega)).mono ?_
  rintro e w2 ⟨rfl, ht, ho, hs⟩
  have HT2 := hid_mk ht
  have HO2 := hid_mk ho
  have HS2 := hid_mk hs
  clear ht ho hs HR
  go_wp2
  go_ret2
  have s1 := HS1.out
  have s2 := HS2.out
  have o3 : Out 0 0 w2 (w2.alloc (.cells #[.pointer (some ⟨w.heap.size + 1, 0, none⟩), .pointer (some ⟨w1.heap.size + 1, 0, none⟩), .slice none 0 0, .slice none 0 0, .slice none 0 0, .slice none 0 0] 59)) := (Out.refl _ _ _).alloc _
  obtain ⟨p1, p2⟩ := pair_at (B := B) (s0 := w.heap.size) (heap_alloc_new w2 (.cells #[.pointer (some ⟨w.heap.size + 1, 0, none⟩), .pointer (some ⟨w1.heap.size + 1, 0, none⟩), .slice none 0 0, .slice none 0 0, .slice none 0 0, .slice none 0 0] 59)) ((HT1.out.quiet HO2.out).quiet o3) (HT2.out.quiet o3) HB.out (by omega) (by omega) (by omega)
  exact ⟨_, rfl, p1, p2, rfl, (HO1.out.trans HO2.out).trans o3⟩
theorem made_no {w : World} (n : Int) (h : newB n = false) :
    Calls Tryd.prog 9 #[.int .i64 n] w fun e w' => e = .returned (.tuple #[.pointer none, .bool true]) ∧ w' = w := by
  have HN := hid_mk (new_no n h w)
  have HR := hid_mk (refNew_no n h w)
  clear h
  go_enter Tryd.func9, Tryd.ntmps9
  go_wp2_with (first | (go_at_call 24; refine calls_same HN.out ?_) | (go_at_call 25; refine calls_same HR.out ?_))
  go_ret2
  exact ⟨rfl, rfl⟩
/-- a box of three -/
theorem op_cells {w : World} {X : Nat} {z k a : Int} {T : TypeId} (h : w.heap[X]? = some (.cells #[.int .i64 z, .int .i64 k, .int .i64 a] T (0, 0))) :
    w.cell? ⟨X, 0, none⟩ = some (.int .i64 z) ∧ w.cell? ⟨X, 1, none⟩ = some (.int .i64 k) ∧ w.cell? ⟨X, 2, none⟩ = some (.int .i64 a) := box3 h
set_option maxRecDepth 100000 in
set_option maxHeartbeats 4000000 in
theorem turned_1 {B : Nat} {w : World} {d : Desc} (h : PairK B w d) (hT : Tab w) (z a : Int) :
    Calls Tryd.prog 30 #[.pointer (some ⟨d.b, 0, none⟩), .agg #[.int .i64 z, .int .i64 1, .int .i64 a]] w fun e w' => e = .returned (.bool true) ∧ ∃ d', Act B w w' d d' ∧ d'.u = d.u := by
  have HP := hid_mk h
  have o1 : Out 0 0 w (w.alloc (.cells #[.int .i64 z, .int .i64 1, .int .i64 a] 28)) := (Out.refl _ _ _).alloc _
  have hx := heap_alloc_new w (.cells #[.int .i64 z, .int .i64 1, .int .i64 a] 28)
  obtain ⟨X, hX⟩ : ∃ X, w.heap.size = X := ⟨_, rfl⟩
  obtain ⟨W1, hW⟩ : ∃ W1, w.alloc (.cells #[.int .i64 z, .int .i64 1, .int .i64 a] 28) = W1 := ⟨_, rfl⟩
  rw [hW] at o1 hx
  rw [hX] at hx
  have HO1 := hid_mk o1
  have HP1 := hid_mk (h.quiet o1)
  have HT1 := hid_mk (hT.quiet o1)
  obtain ⟨P, hP⟩ : ∃ P : Int, ((tcP d.S d.n a : Nat) : Int) = P := ⟨_, rfl⟩
  obtain ⟨E, hE⟩ : ∃ E : Int, tcE d.S d.n a = E := ⟨_, rfl⟩
  have HC : Hid (∀ w', Out 0 0 W1 w' → Calls Tryd.prog 20 #[.pointer (some ⟨d.bt, 0, none⟩), .int .i64 a] w' fun e w'' => e = .returned (.tuple #[.int .i64 P, .int .i64 E]) ∧ TblAt 70 w'' d.bt d.bwt d.n (tcS d.S d.n a) ∧ Out d.bwt (d.bwt + 1) w' w'') := fun w' o => by have := takeClass_any (HP1.out.quiet o).2.2.1 (HT1.out.quiet o) a; rw [hP, hE] at this; exact this
  have HR : Hid (∀ w', TblAt 61 w' d.br d.bwr d.n d.S → Calls Tryd.prog 38 #[.pointer (some ⟨d.br, 0, none⟩), .int .i64 a] w' fun e w'' => e = .returned (.tuple #[.int .i64 P, .int .i64 E]) ∧ TblAt 61 w'' d.br d.bwr d.n (tcS d.S d.n a) ∧ Out d.bwr (d.bwr + 1) w' w'') := fun w' t => by have := refTakeClass_any t a; rw [hP, hE] at this; exact this
  obtain ⟨x0, x1, x2⟩ := op_cells hx
  obtain ⟨c0, c1⟩ := HP1.out.cells
  have HNE : Hid (d.b ≠ d.bwt ∧ d.b ≠ d.bwr ∧ d.bwt < X ∧ d.bwr < X) := by
    have e0 := h.col0.1
    have e7 := h.2.2.2.2.1
    have l := h.lt
    exact ⟨fun e => (by rw [e, e7.2.1] at e0; cases e0), fun e => (by rw [e, e7.2.2.2] at e0; cases e0), by omega, by omega⟩
  have e1 : (P == P) = true := by simp
  have e2 : (E == E) = true := by simp
  clear h hT o1 hx
  go_enter Tryd.func30, Tryd.ntmps30
  go_wp2_with fail
  clear x0 x1
  go_region_held3 (fun w' => w'.cell? ⟨d.b, 0, none⟩ = some (.pointer (some ⟨d.bt, 0, none⟩)) ∧ w'.cell? ⟨X, 2, none⟩ = some (.int .i64 a)) (first | go_keep | (refine ⟨?_, ?_⟩ <;> exact hOO.cell (by assumption) (by have := HNE.out; omega)))
    (first | (go_at_call 20; refine (HC.out _ (by exact (Out.refl 0 0 _).drew)).mono ?_; rintro e w2 ⟨rfl, ht, hOO⟩))
  have HT2 := hid_mk ht
  have HO2 := hid_mk (((Out.refl d.bwt (d.bwt + 1) W1).drew).trans hOO)
  have y2 := HO2.out.cell x2 (by have := HNE.out; omega)
  have y1 := HO2.out.cell c1 (by have := HNE.out; omega)
  have HR2 := hid_mk (HP1.out.2.2.2.1.kept HO2.out (by have := HP1.out.2.2.2.2.2.2.2; omega) (by have := HP1.out.2.2.2.2.2.2.2; omega))
  clear ht hOO c0 c1 x2 HC
  go_wp2_with fail
  go_region_held3 (fun w' => w'.cell? ⟨d.b, 1, none⟩ = some (.pointer (some ⟨d.br, 0, none⟩)) ∧ w'.cell? ⟨X, 2, none⟩ = some (.int .i64 a)) (first | go_keep | (refine ⟨?_, ?_⟩ <;> exact hOO.cell (by assumption) (by have := HNE.out; omega)))
    (first | (go_at_call 38; refine (HR.out _ (by exact HR2.out.quiet (Out.refl 0 0 _).drew)).mono ?_; rintro e w3 ⟨rfl, ht, hOO⟩))
  have HT3 := hid_mk ht
  have HO3 := hid_mk (((Out.refl d.bwr (d.bwr + 1) w2).drew).trans hOO)
  clear ht hOO y1 y2 HR
  go_wp2
  go_ret
  exact ⟨rfl, _, (Act.quiet HP.out HO1.out).trans (HP1.out.turn HO2.out HT2.out HO3.out HT3.out), rfl⟩
set_option maxRecDepth 100000 in
set_option maxHeartbeats 4000000 in
theorem turned_2 {B : Nat} {w : World} {d : Desc} (h : PairK B w d) (hT : Tab w) (z a : Int) :
    Calls Tryd.prog 30 #[.pointer (some ⟨d.b, 0, none⟩), .agg #[.int .i64 z, .int .i64 2, .int .i64 a]] w fun e w' => e = .returned (.bool true) ∧ ∃ d', Act B w w' d d' ∧ d'.u = d.u := by
  have HP := hid_mk h
  have o1 : Out 0 0 w (w.alloc (.cells #[.int .i64 z, .int .i64 2, .int .i64 a] 28)) := (Out.refl _ _ _).alloc _
  have hx := heap_alloc_new w (.cells #[.int .i64 z, .int .i64 2, .int .i64 a] 28)
  obtain ⟨X, hX⟩ : ∃ X, w.heap.size = X := ⟨_, rfl⟩
  obtain ⟨W1, hW⟩ : ∃ W1, w.alloc (.cells #[.int .i64 z, .int .i64 2, .int .i64 a] 28) = W1 := ⟨_, rfl⟩
  rw [hW] at o1 hx
  rw [hX] at hx
  have HO1 := hid_mk o1
  have HP1 := hid_mk (h.quiet o1)
  have HT1 := hid_mk (hT.quiet o1)
  obtain ⟨P, hP⟩ : ∃ P : Int, ((trP d.S d.n a : Nat) : Int) = P := ⟨_, rfl⟩
  obtain ⟨E, hE⟩ : ∃ E : Int, trE d.S d.n a = E := ⟨_, rfl⟩
  have HC : Hid (∀ w', Out 0 0 W1 w' → Calls Tryd.prog 19 #[.pointer (some ⟨d.bt, 0, none⟩), .int .i64 a] w' fun e w'' => e = .returned (.tuple #[.int .i64 P, .int .i64 E]) ∧ TblAt 70 w'' d.bt d.bwt d.n (trS d.S d.n a) ∧ Out d.bwt (d.bwt + 1) w' w'') := fun w' o => by have := takeRun_any (HP1.out.quiet o).2.2.1 (HT1.out.quiet o) a; rw [hP, hE] at this; exact this
  have HR : Hid (∀ w', TblAt 61 w' d.br d.bwr d.n d.S → Calls Tryd.prog 39 #[.pointer (some ⟨d.br, 0, none⟩), .int .i64 a] w' fun e w'' => e = .returned (.tuple #[.int .i64 P, .int .i64 E]) ∧ TblAt 61 w'' d.br d.bwr d.n (trS d.S d.n a) ∧ Out d.bwr (d.bwr + 1) w' w'') := fun w' t => by have := refTakeRun_any t a; rw [hP, hE] at this; exact this
  obtain ⟨x0, x1, x2⟩ := op_cells hx
  obtain ⟨c0, c1⟩ := HP1.out.cells
  have HNE : Hid (d.b ≠ d.bwt ∧ d.b ≠ d.bwr ∧ d.bwt < X ∧ d.bwr < X) := by
    have e0 := h.col0.1
    have e7 := h.2.2.2.2.1
    have l := h.lt
    exact ⟨fun e => (by rw [e, e7.2.1] at e0; cases e0), fun e => (by rw [e, e7.2.2.2] at e0; cases e0), by omega, by omega⟩
  have e1 : (P == P) = true := by simp
  have e2 : (E == E) = true := by simp
  clear h hT o1 hx
  go_enter Tryd.func30, Tryd.ntmps30
  go_wp2_with fail
  clear x0 x1
  go_region_held3 (fun w' => w'.cell? ⟨d.b, 0, none⟩ = some (.pointer (some ⟨d.bt, 0, none⟩)) ∧ w'.cell? ⟨X, 2, none⟩ = some (.int .i64 a)) (first | go_keep | (refine ⟨?_, ?_⟩ <;> exact hOO.cell (by assumption) (by have := HNE.out; omega)))
    (first | (go_at_call 19; refine (HC.out _ (by exact (Out.refl 0 0 _).drew)).mono ?_; rintro e w2 ⟨rfl, ht, hOO⟩))
  have HT2 := hid_mk ht
  have HO2 := hid_mk (((Out.refl d.bwt (d.bwt + 1) W1).drew).trans hOO)
  have y2 := HO2.out.cell x2 (by have := HNE.out; omega)
  have y1 := HO2.out.cell c1 (by have := HNE.out; omega)
  have HR2 := hid_mk (HP1.out.2.2.2.1.kept HO2.out (by have := HP1.out.2.2.2.2.2.2.2; omega) (by have := HP1.out.2.2.2.2.2.2.2; omega))
  clear ht hOO c0 c1 x2 HC
  go_wp2_with fail
  go_region_held3 (fun w' => w'.cell? ⟨d.b, 1, none⟩ = some (.pointer (some ⟨d.br, 0, none⟩)) ∧ w'.cell? ⟨X, 2, none⟩ = some (.int .i64 a)) (first | go_keep | (refine ⟨?_, ?_⟩ <;> exact hOO.cell (by assumption) (by have := HNE.out; omega)))
    (first | (go_at_call 39; refine (HR.out _ (by exact HR2.out.quiet (Out.refl 0 0 _).drew)).mono ?_; rintro e w3 ⟨rfl, ht, hOO⟩))
  have HT3 := hid_mk ht
  have HO3 := hid_mk (((Out.refl d.bwr (d.bwr + 1) w2).drew).trans hOO)
  clear ht hOO y1 y2 HR
  go_wp2
  go_ret
  exact ⟨rfl, _, (Act.quiet HP.out HO1.out).trans (HP1.out.turn HO2.out HT2.out HO3.out HT3.out), rfl⟩
set_option maxRecDepth 100000 in
set_option maxHeartbeats 4000000 in
theorem turned_3 {B : Nat} {w : World} {d : Desc} (h : PairK B w d) (hT : Tab w) (z a : Int) :
    Calls Tryd.prog 30 #[.pointer (some ⟨d.b, 0, none⟩), .agg #[.int .i64 z, .int .i64 3, .int .i64 a]] w fun e w' => e = .returned (.bool true) ∧ ∃ d', Act B w w' d d' ∧ d'.u = d.u := by
  have HP := hid_mk h
  have o1 : Out 0 0 w (w.alloc (.cells #[.int .i64 z, .int .i64 3, .int .i64 a] 28)) := (Out.refl _ _ _).alloc _
  have hx := heap_alloc_new w (.cells #[.int .i64 z, .int .i64 3, .int .i64 a] 28)
  obtain ⟨X, hX⟩ : ∃ X, w.heap.size = X := ⟨_, rfl⟩
  obtain ⟨W1, hW⟩ : ∃ W1, w.alloc (.cells #[.int .i64 z, .int .i64 3, .int .i64 a] 28) = W1 := ⟨_, rfl⟩
  rw [hW] at o1 hx
  rw [hX] at hx
  have HO1 := hid_mk o1
  have HP1 := hid_mk (h.quiet o1)
  have HT1 := hid_mk (hT.quiet o1)
  obtain ⟨E, hE⟩ : ∃ E : Int, gvE d.S d.n a = E := ⟨_, rfl⟩
  have HC : Hid (∀ w', Out 0 0 W1 w' → Calls Tryd.prog 23 #[.pointer (some ⟨d.bt, 0, none⟩), .int .i64 a] w' fun e w'' => e = .returned (.int .i64 E) ∧ TblAt 70 w'' d.bt d.bwt d.n (gvS d.S d.n a) ∧ Out d.bwt (d.bwt + 1) w' w'') := fun w' o => by have := give_any (HP1.out.quiet o).2.2.1 (HT1.out.quiet o) a; rw [hE] at this; exact this
  have HR : Hid (∀ w', TblAt 61 w' d.br d.bwr d.n d.S → Calls Tryd.prog 40 #[.pointer (some ⟨d.br, 0, none⟩), .int .i64 a] w' fun e w'' => e = .returned (.int .i64 E) ∧ TblAt 61 w'' d.br d.bwr d.n (gvS d.S d.n a) ∧ Out d.bwr (d.bwr + 1) w' w'') := fun w' t => by have := refGive_any t a; rw [hE] at this; exact this
  obtain ⟨x0, x1, x2⟩ := op_cells hx
  obtain ⟨c0, c1⟩ := HP1.out.cells
  have HNE : Hid (d.b ≠ d.bwt ∧ d.b ≠ d.bwr ∧ d.bwt < X ∧ d.bwr < X) := by
    have e0 := h.col0.1
    have e7 := h.2.2.2.2.1
    have l := h.lt
    exact ⟨fun e => (by rw [e, e7.2.1] at e0; cases e0), fun e => (by rw [e, e7.2.2.2] at e0; cases e0), by omega, by omega⟩
  have e2 : (E == E) = true := by simp
  clear h hT o1 hx
  go_enter Tryd.func30, Tryd.ntmps30
  go_wp2_with fail
  clear x0 x1
  go_region_held3 (fun w' => w'.cell? ⟨d.b, 0, none⟩ = some (.pointer (some ⟨d.bt, 0, none⟩)) ∧ w'.cell? ⟨X, 2, none⟩ = some (.int .i64 a)) (first | go_keep | (refine ⟨?_, ?_⟩ <;> exact hOO.cell (by assumption) (by have := HNE.out; omega)))
    (first | (go_at_call 23; refine (HC.out _ (by exact (Out.refl 0 0 _).drew)).mono ?_; rintro e w2 ⟨rfl, ht, hOO⟩))
  have HT2 := hid_mk ht
  have HO2 := hid_mk (((Out.refl d.bwt (d.bwt + 1) W1).drew).trans hOO)
  have y2 := HO2.out.cell x2 (by have := HNE.out; omega)
  have y1 := HO2.out.cell c1 (by have := HNE.out; omega)
  have HR2 := hid_mk (HP1.out.2.2.2.1.kept HO2.out (by have := HP1.out.2.2.2.2.2.2.2; omega) (by have := HP1.out.2.2.2.2.2.2.2; omega))
  clear ht hOO c0 c1 x2 HC
  go_wp2_with fail
  go_region_held3 (fun w' => w'.cell? ⟨d.b, 1, none⟩ = some (.pointer (some ⟨d.br, 0, none⟩)) ∧ w'.cell? ⟨X, 2, none⟩ = some (.int .i64 a)) (first | go_keep | (refine ⟨?_, ?_⟩ <;> exact hOO.cell (by assumption) (by have := HNE.out; omega)))
    (first | (go_at_call 40; refine (HR.out _ (by exact HR2.out.quiet (Out.refl 0 0 _).drew)).mono ?_; rintro e w3 ⟨rfl, ht, hOO⟩))
  have HT3 := hid_mk ht
  have HO3 := hid_mk (((Out.refl d.bwr (d.bwr + 1) w2).drew).trans hOO)
  clear ht hOO y1 y2 HR
  go_wp2
  go_ret
  exact ⟨rfl, _, (Act.quiet HP.out HO1.out).trans (HP1.out.turn HO2.out HT2.out HO3.out HT3.out), rfl⟩
set_option maxRecDepth 100000 in
set_option maxHeartbeats 4000000 in
theorem turned_any {B : Nat} {w : World} {d : Desc} (h : PairK B w d) (hT : Tab w) (z k a : Int) (hk : 1 ≤ k ∧ k ≤ 3) :
    Calls Tryd.prog 30 #[.pointer (some ⟨d.b, 0, none⟩), .agg #[.int .i64 z, .int .i64 k, .int .i64 a]] w fun e w' => e = .returned (.bool true) ∧ ∃ d', Act B w w' d d' ∧ d'.u = d.u := by
  have : k = 1 ∨ k = 2 ∨ k = 3 := by omega
  rcases this with rfl | rfl | rfl
  · exact turned_1 h hT z a
  · exact turned_2 h hT z a
  · exact turned_3 h hT z a
end Go.Proofs.YtfkmaanfgkkjcaaDoor
