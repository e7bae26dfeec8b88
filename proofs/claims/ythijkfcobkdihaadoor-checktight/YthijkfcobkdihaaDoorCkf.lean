/- package check: slices.Insert of one number into a row of the walk's own -/
import Derived.Test.YthijkfcobkdihaaDoorCkc
import Derived.Shelf.Spec.SlicesInsert
import Derived.Shelf.Spec.SlicesInsertGrow
namespace Go.Proofs.YthijkfcobkdihaaDoor
open Go.RowKit
set_option linter.unusedVariables false
set_option linter.unusedSimpArgs false

def rnI : Go.Shelf.Ren := ⟨fun | 21 => 100 | 27 => 102 | 28 => 103 | 35 => 104 | 39 => 105 | n => n, fun | 0 => 0 | 3 => 3 | 4 => 4 | 22 => 50 | n => n, fun n => n⟩
set_option maxRecDepth 100000 in
theorem ins_lays : Go.Proofs.Lays2.n21 Tryd.prog rnI := {
  mixed := by kernel_rfl
  f21 := Tryd.func100.trans (congrArg some (by kernel_rfl))
  f27 := Tryd.func102.trans (congrArg some (by kernel_rfl))
  f28 := Tryd.func103.trans (congrArg some (by kernel_rfl))
  f35 := Tryd.func104.trans (congrArg some (by kernel_rfl))
  f39 := Tryd.func105.trans (congrArg some (by kernel_rfl))
  t0 := Tryd.underlying0
  a0 := Tryd.isAgg0
  z0 := Tryd.sizeOf0
  v0 := Tryd.zeroValue0
  t3 := Tryd.underlying3
  a3 := Tryd.isAgg3
  z3 := Tryd.sizeOf3
  v3 := Tryd.zeroValue3
  t4 := Tryd.underlying4
  a4 := Tryd.isAgg4
  z4 := Tryd.sizeOf4
  v4 := Tryd.zeroValue4
  t22 := Tryd.underlying50
  a22 := Tryd.isAgg50
  z22 := Tryd.sizeOf50
  v22 := Tryd.zeroValue50
  i3 := by kernel_rfl }

/-- numbers as cells -/
def ivs (l : List Int) : List Value := l.map fun x => .int .i64 x
theorem ivs_len (l : List Int) : (ivs l).length = l.length := by unfold ivs; simp
theorem ivs_at {l : List Int} {j : Nat} {v : Value} (h : (ivs l)[j]? = some v) : ∃ x, l[j]? = some x ∧ v = .int .i64 x := by
  unfold ivs at h
  rw [List.getElem?_map] at h
  obtain ⟨y, h1, h2⟩ := Option.map_eq_some_iff.1 h
  exact ⟨y, h1, h2.symm⟩
theorem ivs_is {l : List Int} {j : Nat} {x : Int} (h : l[j]? = some x) : (ivs l)[j]? = some (.int .i64 x) := by
  unfold ivs; rw [List.getElem?_map, h]; rfl
theorem ivs_one {l : List Int} : ∀ v ∈ ivs l, v.oneCell' = true := by
  intro v hv
  unfold ivs at hv
  obtain ⟨y, _, rfl⟩ := List.mem_map.1 hv
  rfl
/-- cells written one behind the other -/
theorem Bl.sets {T : TypeId} {b : Nat} : ∀ (vs : List Value) (o : Nat) (w : World) (cur : Array Value), Bl w b cur T → o + vs.length ≤ cur.size → ∃ cur', Bl (w.setCells b o vs) b cur' T ∧ cur'.toList = cur.toList.take o ++ vs ++ cur.toList.drop (o + vs.length)
  | [], o, w, cur, h, hl => ⟨cur, h, by simp⟩
  | v :: vs, o, w, cur, h, hl => by
    simp only [List.length_cons] at hl
    obtain ⟨cur', h1, h2⟩ := Bl.sets vs (o + 1) (w.setCell ⟨b, o, none⟩ v) (cur.setIfInBounds o v) (h.set o v) (by simp; omega)
    refine ⟨cur', h1, ?_⟩
    rw [h2, Array.toList_setIfInBounds, List.take_set, List.drop_set]
    simp only [List.length_cons]
    rw [if_pos (by omega), show o + (vs.length + 1) = o + 1 + vs.length by omega]
    have : (cur.toList.take (o + 1)).set o v = cur.toList.take o ++ [v] := by
      have hlt : o < cur.toList.length := by simpa using (by omega : o < cur.size)
      rw [List.take_add_one, List.getElem?_eq_getElem hlt]
      simp only [Option.toList]
      rw [List.set_append_right _ _ (by simp; omega)]
      have : o - (cur.toList.take o).length = 0 := by rw [List.length_take]; omega
      rw [this]
      rfl
    rw [this]
    simp
theorem sets_size (b : Nat) : ∀ (vs : List Value) (o : Nat) (w : World), (w.setCells b o vs).heap.size = w.heap.size
  | [], _, _ => rfl
  | v :: vs, o, w => by
    show ((w.setCell ⟨b, o, none⟩ v).setCells b (o + 1) vs).heap.size = _
    rw [sets_size b vs, size_set]
theorem Fx.sets {S : Nat → Prop} {a : World} {b : Nat} (hb : S b ∨ a.heap.size ≤ b) : ∀ (vs : List Value) (o : Nat) (w : World), Fx S a w → Fx S a (w.setCells b o vs)
  | [], _, _, h => h
  | v :: vs, o, w, h => Fx.sets hb vs (o + 1) _ (h.set (p := ⟨b, o, none⟩) hb v)
theorem ins_list {α : Type} {l : List α} {i : Nat} {x : α} (h : i ≤ l.length) : (l.take i ++ x :: l.drop i).length = l.length + 1 := by
  simp only [List.length_append, List.length_cons, List.length_take, List.length_drop]; omega
theorem ivs_ins (xs : List Int) (i : Nat) (v : Int) : ivs (xs.take i ++ v :: xs.drop i) = (ivs xs).take i ++ .int .i64 v :: (ivs xs).drop i := by
  unfold ivs; simp [List.map_take, List.map_drop]
theorem zc_len (n : Nat) : (Builtin.zeroCells (Value.int .i64 0).cells n).toList.length = n := by
  have := size_zeroCells (Value.int .i64 0).cells n
  simpa [Value.cells] using this
/-- the parts of a row behind two writes -/
theorem two_a {α : Type} {C0 A B C1 C2 : List α} {v : α} {i : Nat} (hA : C0.take i = A) (hi : i + 1 + B.length ≤ C0.length) (h1 : C1 = C0.take i ++ [v] ++ C0.drop (i + 1)) (h2 : C2 = C1.take (i + 1) ++ B ++ C1.drop (i + 1 + B.length)) : C2.length = C0.length ∧ C2.take (i + 1 + B.length) = A ++ v :: B := by
  have l1 : (C0.take i).length = i := by rw [List.length_take]; omega
  have t1 : C1.take (i + 1) = C0.take i ++ [v] := by
    rw [h1, List.take_append_of_le_length (by simp; omega), List.take_of_length_le (by simp; omega)]
  have lc : C1.length = C0.length := by rw [h1]; simp; omega
  constructor
  · rw [h2]; simp; omega
  · rw [h2, t1, List.take_append_of_le_length (by simp; omega), List.take_of_length_le (by simp; omega), hA]; simp
theorem two_b {α : Type} {C0 A B C1 C2 : List α} {v : α} {i : Nat} (hA : C0.take i = A) (hi : i + 1 + B.length ≤ C0.length) (h1 : C1 = C0.take (i + 1) ++ B ++ C0.drop (i + 1 + B.length)) (h2 : C2 = C1.take i ++ [v] ++ C1.drop (i + 1)) : C2.length = C0.length ∧ C2.take (i + 1 + B.length) = A ++ v :: B := by
  have l1 : (C0.take (i + 1)).length = i + 1 := by rw [List.length_take]; omega
  have lc : C1.length = C0.length := by rw [h1]; simp; omega
  have t1 : C1.take i = C0.take i := by
    rw [h1, List.append_assoc, List.take_append_of_le_length (by omega), List.take_take, Nat.min_eq_left (by omega)]
  have d1 : C1.drop (i + 1) = B ++ C0.drop (i + 1 + B.length) := by
    rw [h1, List.append_assoc, List.drop_append_of_le_length (by omega), List.drop_of_length_le (by omega)]; rfl
  constructor
  · rw [h2]; simp; omega
  · have la : A.length = i := by rw [← hA, List.length_take]; omega
    rw [h2, t1, d1, hA, ← List.append_assoc, List.take_append_of_le_length (by simp; omega), List.take_of_length_le (by simp; omega)]; simp
set_option maxHeartbeats 1000000 in
/-- one number put into the row at i -/
theorem insert_any {w : World} {base K cap i vb : Nat} {ta : Option Addr} {xs : List Int} {v : Int} (hown : w.ownsRow base 3 1 (.slice ta K cap) K (ivs xs)) (hbase : base ≤ w.heap.size) (hi : i ≤ K) (hK : K ≤ 1000000) (hv : Bl w vb #[.int .i64 v] 3) (hne : ∀ q, (Value.slice ta K cap).ownBlock = some q → vb ≠ q) :
    Calls Tryd.prog 100 #[.slice ta K cap, .int .i64 i, .slice (some ⟨vb, 0, none⟩) 1 1] w fun e w' => ∃ a' cap', e = .returned (.slice a' (K + 1) cap') ∧ w'.ownsRow base 3 1 (.slice a' (K + 1) cap') (K + 1) (ivs (xs.take i ++ v :: xs.drop i)) ∧ Fx (fun k => (Value.slice ta K cap).ownBlock = some k) w w' ∧
      ((Value.slice a' (K + 1) cap').ownBlock = (Value.slice ta K cap).ownBlock ∨ ∃ q, (Value.slice a' (K + 1) cap').ownBlock = some q ∧ w.heap.size ≤ q) := by
  have hxl : xs.length = K := by have := hown.1; rw [ivs_len, Nat.mul_one] at this; exact this
  have hil : (ivs xs).length = K := by rw [ivs_len]; exact hxl
  have hvs : ∀ (j : Nat) u, [Value.int .i64 v][j]? = some u → w.cell? ⟨vb, 0 + j, none⟩ = some u := by
    intro j u hj
    cases j with
    | zero => simp at hj; subst hj; exact hv.cell rfl
    | succ j => simp at hj
  have h1v : ∀ u ∈ [Value.int .i64 v], u.oneCell' = true := by intro u hu; simp at hu; subst hu; rfl
  have hmx : K + 1 ≤ maxLen := by unfold maxLen; omega
  rcases hown.2 with ⟨he, h0⟩ | ⟨q, cap2, cur, he, hq1, hq2, hq3, hq4, hq5, hq6⟩
  · cases he
    obtain rfl : i = 0 := by omega
    obtain rfl : xs = [] := List.eq_nil_of_length_eq_zero hxl
    refine (Any2.slices_Insert_int_end_grow ins_lays none 0 0 vb 0 1 1 [] [.int .i64 v] w (by omega) (by omega) (by omega) (by omega) rfl rfl (fun _ => rfl) (fun a h => by cases h) hvs h1v).mono ?_
    rintro e w' ⟨rfl, rfl⟩
    have hg1 := grownCap_ge w (0 + 1) 0 (rnI.t 3)
    have hg2 := grownCap_le_maxLen w (0 + 1) 0 (rnI.t 3) hmx
    generalize grownCap w (0 + 1) 0 (rnI.t 3) = G at *
    refine ⟨_, _, rfl, ⟨by simp [ivs_len], .inr ⟨w.heap.size, G, _, rfl, hbase, heap_alloc_new w.drew _, hg1, hg2, ?_, ?_⟩⟩, ((Fx.refl _ w).drew.alloc _), .inr ⟨w.heap.size, rfl, Nat.le_refl _⟩⟩
    · have := zc_len (G - (0 + 1)); simp at this; simp [this]; omega
    · simp [ivs]
  · cases he
    rw [Nat.mul_one] at hq5 hq6
    have hB : Bl w q cur 3 := hq2
    have hcs : ∀ (j : Nat) u, (ivs xs)[j]? = some u → cur[j]? = some u := by
      intro j u hj
      have hj' : j < K := by have := (List.getElem?_eq_some_iff.1 hj).1; omega
      rw [← hq6, List.getElem?_take_of_lt hj'] at hj
      simpa using hj
    have hcell : ∀ (j : Nat) u, (ivs xs)[j]? = some u → w.cell? ⟨q, 0 + j, none⟩ = some u := fun j u hj => by rw [Nat.zero_add]; exact hB.cell (hcs j u hj)
    have hsome : ∀ j, j < cap → (w.cell? ⟨q, 0 + j, none⟩).isSome = true := fun j hj => by
      rw [Nat.zero_add, hB.cell (i := j) (Array.getElem?_eq_getElem (by omega))]; rfl
    by_cases hroom : K + 1 ≤ cap
    · by_cases hin : i < K
      · refine (Any2.slices_Insert_int_shift ins_lays q 0 K cap i vb 0 1 1 (ivs xs) [.int .i64 v] w hin (by omega) hroom (by unfold maxLen at hq4; omega) (hne q rfl) hil rfl hcell (fun j hj => hsome j (by omega)) (fun j _ => hB.frozen _) hvs ivs_one h1v 3 3 1 cap (by unfold Bl at hv; simp [World.shape?, hv]) (by unfold Bl at hB; simp [World.shape?, hB, hq5]) (by omega) (hv.frozen _) (hv.frozen _)).mono ?_
        rintro e w' ⟨rfl, rfl⟩
        have hB' : Bl w.drew q cur 3 := hB
        obtain ⟨c1, b1, e1⟩ := Bl.sets ((ivs xs).drop i) (0 + (i + 1)) w.drew cur hB' (by rw [List.length_drop, hil]; omega)
        have s1 : c1.size = cur.size := by
          have := congrArg List.length e1
          simp at this
          rw [ivs_len, hxl] at this
          omega
        obtain ⟨c2, b2, e2⟩ := Bl.sets [.int .i64 v] (0 + i) _ c1 b1 (by simp; omega)
        obtain ⟨t1, t2⟩ := two_b (C0 := cur.toList) (A := (ivs xs).take i) (B := (ivs xs).drop i) (v := .int .i64 v) (i := i) (by rw [← hq6, List.take_take, Nat.min_eq_left (by omega)]) (by rw [List.length_drop, hil, Array.length_toList]; omega) (by simpa [Nat.zero_add, Nat.add_assoc] using e1) (by simpa using e2)
        refine ⟨_, _, rfl, ⟨by rw [ivs_len, ins_list (by omega), hxl]; omega, .inr ⟨q, cap, c2, rfl, hq1, b2, hroom, hq4, ?_, ?_⟩⟩, ?_, .inl rfl⟩
        · have : c2.size = cur.size := by simpa using t1
          omega
        · rw [ivs_ins, Nat.mul_one, ← t2, List.length_drop, hil]
          congr 1; omega
        · exact Fx.sets (S := fun k => (Value.slice (some ⟨q, 0, none⟩) K cap).ownBlock = some k) (.inl rfl) _ _ _ (Fx.sets (S := fun k => (Value.slice (some ⟨q, 0, none⟩) K cap).ownBlock = some k) (.inl rfl) _ _ _ (Fx.refl _ w).drew)
      · obtain rfl : i = K := by omega
        refine (Any2.slices_Insert_int_end_room ins_lays q 0 i cap vb 0 1 1 [.int .i64 v] w (by omega) hroom (by unfold maxLen at hq4; omega) rfl (fun j hj => by have := hsome (i + j) (by omega); rwa [← Nat.add_assoc] at this) (fun j _ => hB.frozen _) hvs h1v).mono ?_
        rintro e w' ⟨rfl, rfl⟩
        obtain ⟨c1, b1, e1⟩ := Bl.sets [.int .i64 v] (0 + i) w cur hB (by simp; omega)
        rw [Nat.zero_add] at e1
        have l1 : (cur.toList.take i).length = i := by rw [List.length_take, Array.length_toList]; omega
        refine ⟨_, _, rfl, ⟨by rw [ivs_len, ins_list (by omega), hxl]; omega, .inr ⟨q, cap, c1, rfl, hq1, b1, hroom, hq4, ?_, ?_⟩⟩, Fx.sets (S := fun k => (Value.slice (some ⟨q, 0, none⟩) i cap).ownBlock = some k) (.inl rfl) _ _ _ (Fx.refl _ w), .inl rfl⟩
        · have := congrArg List.length e1
          simp at this
          omega
        · rw [ivs_ins, Nat.mul_one, e1, hq6, List.take_append_of_le_length (by simp; omega), List.take_of_length_le (by simp; omega), List.take_of_length_le (l := ivs xs) (by omega), List.drop_of_length_le (l := ivs xs) (by omega)]
    · by_cases hin : i < K
      · refine (Any2.slices_Insert_int_grow ins_lays q 0 K cap i vb 0 1 1 (ivs xs) [.int .i64 v] w hin (by omega) hq3 (by omega) (by omega) hil rfl hcell hvs ivs_one h1v).mono ?_
        rintro e w' ⟨rfl, rfl⟩
        have hg1 := grownCap_ge w (K + 1) cap (rnI.t 3)
        have hg2 := grownCap_le_maxLen w (K + 1) cap (rnI.t 3) hmx
        generalize grownCap w (K + 1) cap (rnI.t 3) = G at *
        obtain ⟨c0, hc0⟩ : ∃ c0, ((ivs xs).take i).toArray ++ Builtin.zeroCells (Value.int .i64 0).cells (K + 1 - i) ++ Builtin.zeroCells (Value.int .i64 0).cells (G - (K + 1)) = c0 := ⟨_, rfl⟩
        rw [hc0]
        have hl0 : c0.toList.length = G := by
          rw [← hc0]
          simp only [Array.toList_append, List.length_append, zc_len, List.length_take, hil]
          omega
        have ht0 : c0.toList.take i = (ivs xs).take i := by
          rw [← hc0]
          simp only [Array.toList_append]
          rw [List.append_assoc, List.take_append_of_le_length (by rw [List.length_take, hil]; omega), List.take_of_length_le (by rw [List.length_take]; omega)]
        have hB0 : Bl ((w.alloc (.cells c0 (rnI.t 3))).drew) w.heap.size c0 3 := Bl.new w c0 3
        obtain ⟨c1, b1, e1⟩ := Bl.sets [.int .i64 v] i _ c0 hB0 (by simp at hl0 ⊢; omega)
        have s1 : c1.size = c0.size := by
          have := congrArg List.length e1
          simp at this hl0
          omega
        have hB1 : Bl (((w.alloc (.cells c0 (rnI.t 3))).drew.setCells w.heap.size i [.int .i64 v]).drew) w.heap.size c1 3 := b1
        obtain ⟨c2, b2, e2⟩ := Bl.sets ((ivs xs).drop i) (i + 1) _ c1 hB1 (by rw [List.length_drop, hil]; simp at hl0; omega)
        obtain ⟨t1, t2⟩ := two_a (C0 := c0.toList) (A := (ivs xs).take i) (B := (ivs xs).drop i) (v := .int .i64 v) (i := i) ht0 (by rw [List.length_drop, hil, hl0]; omega) (by simpa using e1) (by simpa using e2)
        refine ⟨_, _, rfl, ⟨by rw [ivs_len, ins_list (by omega), hxl]; omega, .inr ⟨w.heap.size, G, c2, rfl, hbase, b2, hg1, hg2, ?_, ?_⟩⟩, ?_, .inr ⟨w.heap.size, rfl, Nat.le_refl _⟩⟩
        · have : c2.size = c0.size := by simpa using t1
          simp at hl0
          omega
        · rw [ivs_ins, Nat.mul_one, ← t2, List.length_drop, hil]
          congr 1; omega
        · exact Fx.sets (.inr (Nat.le_refl _)) _ _ _ ((Fx.sets (.inr (Nat.le_refl _)) _ _ _ ((Fx.refl _ w).alloc _).drew).drew)
      · obtain rfl : i = K := by omega
        refine (Any2.slices_Insert_int_end_grow ins_lays (some ⟨q, 0, none⟩) i cap vb 0 1 1 (ivs xs) [.int .i64 v] w (by omega) hq3 (by omega) (by omega) hil rfl (fun h => by cases h) (fun a ha j u hj => by cases ha; rw [Addr.add_lit]; exact hcell j u hj) hvs h1v).mono ?_
        rintro e w' ⟨rfl, rfl⟩
        have hg1 := grownCap_ge w (i + 1) cap (rnI.t 3)
        have hg2 := grownCap_le_maxLen w (i + 1) cap (rnI.t 3) hmx
        generalize grownCap w (i + 1) cap (rnI.t 3) = G at *
        refine ⟨_, _, rfl, ⟨by rw [ivs_len, ins_list (by omega), hxl]; omega, .inr ⟨w.heap.size, G, _, rfl, hbase, heap_alloc_new w.drew _, hg1, hg2, ?_, ?_⟩⟩, ((Fx.refl _ w).drew.alloc _), .inr ⟨w.heap.size, rfl, Nat.le_refl _⟩⟩
        · have := zc_len (G - (i + 1))
          simp only [Array.size_append, List.size_toArray, List.length_append, hil, List.length_singleton]
          rw [← Array.length_toList (xs := Builtin.zeroCells _ _), this]
          omega
        · rw [ivs_ins, Nat.mul_one, Array.toList_append, List.take_append_of_le_length (by simp [hil]), List.take_of_length_le (by simp [hil]), List.take_of_length_le (l := ivs xs) (by omega), List.drop_of_length_le (l := ivs xs) (by omega)]
end Go.Proofs.YthijkfcobkdihaaDoor
