/- the document's own map: List, Copy -/
import Derived.Test.YtnkobcldagajeaaDoorRb
import Derived.Test.YtnkobcldagajeaaDoorBk
namespace Go.Proofs.YtnkobcldagajeaaDoor
open Go.RowKit
set_option linter.unusedVariables false
set_option linter.unusedSimpArgs false

/-- those that are in from p on below n, rising -/
def lst (S : Nat → Bool) (n p : Nat) : List Nat := if p < n then (if S p then p :: lst S n (p + 1) else lst S n (p + 1)) else []
termination_by n - p
theorem lst_end {S : Nat → Bool} {n p : Nat} (h : n ≤ p) : lst S n p = [] := by rw [lst, if_neg (by omega)]
theorem lst_in {S : Nat → Bool} {n p : Nat} (h : p < n) (hs : S p = true) : lst S n p = p :: lst S n (p + 1) := by
  conv => lhs; rw [lst, if_pos h, if_pos hs]
theorem lst_out {S : Nat → Bool} {n p : Nat} (h : p < n) (hs : S p = false) : lst S n p = lst S n (p + 1) := by
  conv => lhs; rw [lst, if_pos h, hs]
  rfl
theorem lst_nx (S : Nat → Bool) (n p : Nat) : lst S n p = if nx S n p < n then nx S n p :: lst S n (nx S n p + 1) else [] := by
  by_cases h : p < n
  · cases hs : S p
    · have e : nx S n p = nx S n (p + 1) := by
        conv => lhs; rw [nx, if_pos h, hs]
        rfl
      rw [lst_out h hs, e]
      exact lst_nx S n (p + 1)
    · have e : nx S n p = p := by rw [nx, if_pos h, if_pos hs]
      rw [e, if_pos h, lst_in h hs]
  · rw [lst_end (by omega), nx_end _ _ _ (by omega), if_neg (by omega)]
termination_by n - p
theorem lst_length (S : Nat → Bool) (n p : Nat) (h : p ≤ n) : cnt S p + (lst S n p).length = cnt S n := by
  by_cases hp : p < n
  · have e : cnt S (p + 1) = cnt S p + if S p then 1 else 0 := rfl
    have ih := lst_length S n (p + 1) hp
    cases hs : S p
    · rw [lst_out hp hs]; rw [hs] at e; simp at e; omega
    · rw [lst_in hp hs]; rw [hs] at e; simp at e; simp; omega
  · obtain rfl : p = n := by omega
    rw [lst_end (Nat.le_refl _)]; rfl
termination_by n - p
theorem lst_cnt (S : Nat → Bool) (n : Nat) : (lst S n 0).length = cnt S n := by
  have := lst_length S n 0 (Nat.zero_le _)
  have e : cnt S 0 = 0 := rfl
  omega
theorem info_int : (Tryd.prog.info? 3).map (fun i => (i.zero, i.size, i.bytes)) = some (some (.int .i64 0), 1, 8) := by kernel_rfl
def ints (l : List Nat) : List Value := l.map (fun (x : Nat) => Value.int .i64 (x : Int))
/-- behind an append to a slice of the call's own -/
theorem Out.grown {w a w' : World} {v : Value} {base n : Nat} {xs : List Value} {e : TypeId} {s : Nat} (h : Out 0 0 a w) (hown : w.ownsRow base e s v n xs) (hb : a.heap.size ≤ base) (hg : w.grownBy w' v.ownBlock) : Out 0 0 a w' :=
  ⟨hg.os.trans h.1, hg.tape.trans h.2.1, hg.output.trans h.2.2.1, Nat.le_trans h.size hg.size, fun j h1 h2 => (hg.block j (Nat.lt_of_lt_of_le h1 h.size) (fun e => by have := (hown.lt j e.symm).1; omega)).trans (h.block h1 h2)⟩
set_option maxHeartbeats 2000000 in
theorem list_any {w : World} {lo hi b n : Nat} {S : Nat → Bool} (h : RefAt w lo hi b n S) :
    Calls Tryd.prog 21 #[.pointer (some ⟨b, 0, none⟩)] w fun e w' => ∃ v, e = .returned v ∧ w'.ownsRow w.heap.size 3 1 v (lst S n 0).length (ints (lst S n 0)) ∧ Out 0 0 w w' := by
  have HM := hid_mk h
  have HN := hid_mk h.bounds.2.2.2.1
  obtain ⟨i0, hi, hz0, hz1, hz2⟩ := info_parts info_int
  clear h
  go_enter Tryd.func21, Tryd.ntmps21
  go_wp2_with fail
  go_loopw [3, 4] (fun v y wr => ∃ (i : Nat) (pre : List Nat), i ≤ n ∧ pre.length ≤ i ∧ y = .int .i64 i ∧ pre ++ lst S n i = lst S n 0 ∧ wr.ownsRow w.heap.size 3 1 v pre.length (ints pre) ∧ Out 0 0 w wr) (fun _ y _ => n - (intOf y).toNat)
  case atStart => exact ⟨0, [], Nat.zero_le _, Nat.zero_le _, rfl, rfl, World.ownsRow_nil _ _ _ _, Out.refl _ _ _⟩
  case round =>
    obtain ⟨i, pre, g1, g2, rfl, g3, g4, g5⟩ := hrel
    have G3 := hid_mk g3
    have G4 := hid_mk g4
    have G5 := hid_mk g5
    clear g3 g4 g5
    by_cases hit : i < n
    · obtain ⟨br, cap', hb, c0, l1, l2, l3, hr⟩ := (HM.out.quiet G5.out).words (by omega)
      have c1 := hr.cell hit
      have j1 : (0 : Int) ≤ (i : Int) := by omega
      have j2 : (i : Int) < (n : Int) := by omega
      obtain ⟨q, j4, j5⟩ : ∃ q : Int, (i : Int) < 64 * q ∧ q ≤ 4096 := ⟨4096, by have := HN.out; omega, by omega⟩
      clear hb hr l1 l2 l3
      cases hs : S i
      · rw [hs] at c1
        have HS := hid_mk hs
        clear hs
        go_wp2
        all_goals go_roundw
        case rel => exact ⟨i + 1, pre, by omega, by omega, by go_num, by rw [← lst_out hit HS.out]; exact G3.out, G4.out, G5.out⟩
        case measure => simp [intOf]; omega
      · rw [hs] at c1
        have HS := hid_mk hs
        clear hs
        go_wp2_with (at_builtin; refine wpList_append_own _ rfl _ _ 45 rfl w.heap.size 3 i0 (.int .i64 0) 1 8 Tryd.underlying45 hi hz0 hz1 hz2 rfl (by decide) _ pre.length (ints pre) rfl (G4.out.alloc _) ⟨wr.heap.size, 0, none⟩ 1 1 [.int .i64 i] rfl rfl ?c1 ?c2 ?c3 ?c4 ?c5 ?_)
        case c1 =>
          intro j u hj
          match j, hj with
          | 0, hj => simp at hj; subst hj; simp [Addr.add]
        case c2 => intro u hu; simp at hu; subst hu; rfl
        case c3 => unfold maxLen; omega
        case c4 => omega
        case c5 => have := G5.out.size; simp; omega
        intro v' w1 hown' hgrow _
        have e1 : ints (pre ++ [i]) = ints pre ++ [.int .i64 i] := by simp [ints]
        have R1 : Hid (w1.ownsRow w.heap.size 3 1 v' (pre ++ [i]).length (ints (pre ++ [i]))) := by
          show w1.ownsRow w.heap.size 3 1 v' (pre ++ [i]).length (ints (pre ++ [i]))
          rw [e1, List.length_append]; exact hown'
        have R2 : Hid (Out 0 0 w w1) := Out.grown (G5.out.alloc _) (G4.out.alloc _) (Nat.le_refl _) hgrow
        clear hown' hgrow e1
        go_wp2
        go_roundw
        case rel => exact ⟨i + 1, pre ++ [i], by omega, by simp; omega, by go_num, by rw [List.append_assoc, List.singleton_append, ← lst_in hit HS.out]; exact G3.out, R1.out, R2.out⟩
        case measure => simp [intOf]; omega
    · obtain rfl : i = n := by omega
      obtain ⟨ao, cap, c0⟩ := (HM.out.quiet G5.out).field
      have e : pre = lst S i 0 := by have := G3.out; rw [lst_end (Nat.le_refl _), List.append_nil] at this; exact this
      have HE := hid_mk e
      clear e
      go_wp2
      go_ret
      exact ⟨_, rfl, by rw [← HE.out]; exact G4.out, G5.out⟩
theorem copied {w1 : World} {base n : Nat} {T : TypeId} {v' : Value} {f : Nat → Value} (h : w1.ownsRow base T 1 v' (0 + n) ([] ++ (List.range n).map f)) (hn : 0 < n) :
    ∃ g cap', v' = .slice (some ⟨g, 0, none⟩) n cap' ∧ base ≤ g ∧ g < w1.heap.size ∧ n ≤ cap' ∧ Row w1 g T n f := by
  obtain ⟨hlen, hcase⟩ := h
  rcases hcase with ⟨hv, h0⟩ | ⟨g, cap', cur, rfl, hg1, hg2, hg3, hg4, hg5, hg6⟩
  · omega
  refine ⟨g, cap', by rw [Nat.zero_add], hg1, heap_lt hg2, by omega, cur, hg2, by omega, fun i hik => ?_⟩
  have e : (cur.toList.take ((0 + n) * 1))[i]? = ([] ++ (List.range n).map f)[i]? := by rw [hg6]
  simp [hik] at e
  simpa using e
set_option maxHeartbeats 1000000 in
theorem refCopy_any {w : World} {lo hi b n : Nat} {S : Nat → Bool} (h : RefAt w lo hi b n S) :
    Calls Tryd.prog 24 #[.pointer (some ⟨b, 0, none⟩)] w fun e w' => ∃ b', e = .returned (.pointer (some ⟨b', 0, none⟩)) ∧ RefAt w' w.heap.size w'.heap.size b' n S ∧ Out 0 0 w w' := by
  have hB := h.bounds
  obtain ⟨i0, hi, hz0, hz1, hz2⟩ := info_parts info_bool
  by_cases hn : 0 < n
  · obtain ⟨br, cap, hb, c0, l1, l2, l3, hr⟩ := h.words hn
    have hnews : ∀ j u, ((List.range n).map (fun i => Value.bool (S i)))[j]? = some u → w.cell? ((⟨br, 0, none⟩ : Addr).add j) = some u := by
      intro j u hj
      have hjk : j < n := by
        have := (List.getElem?_eq_some_iff.1 hj).1
        simpa using this
      simp [hjk] at hj
      subst hj
      have e : (⟨br, 0, none⟩ : Addr).add j = ⟨br, j, none⟩ := by
        by_cases h0 : j = 0
        · subst h0; rfl
        · simp [Addr.add, h0]
      rw [e]; exact hr.cell hjk
    have hone : ∀ u ∈ (List.range n).map (fun i => Value.bool (S i)), u.oneCell' = true := by
      intro u hu
      simp at hu
      obtain ⟨i, _, rfl⟩ := hu
      rfl
    have HNE := hid_mk hnews
    have HON := hid_mk hone
    have HB := hid_mk hB
    have HNN := hid_mk hn
    clear h hb hr l1 l2 l3 hnews hone hB
    go_enter Tryd.func24, Tryd.ntmps24
    go_wp2_with (at_builtin; refine wpList_append_own _ rfl _ _ 47 rfl w.heap.size 4 i0 (.bool false) 1 1 Tryd.underlying47 hi hz0 hz1 hz2 rfl (by decide) (.slice none 0 0) 0 [] rfl (World.ownsRow_nil _ _ _ _) ⟨br, 0, none⟩ n cap ((List.range n).map (fun i => Value.bool (S i))) rfl (by simp) HNE.out HON.out (by have := HB.out.2.2.2.1; unfold maxLen; omega) (by have := HB.out.2.2.2.1; omega) (by simp) ?_; intro v' w1 hown' hgrow hnil; obtain ⟨g, cap', rfl, hg1, q2, q3, q4⟩ := copied hown' HNN.out; have HO : Hid (Out 0 0 w w1) := ⟨hgrow.os, hgrow.tape, hgrow.output, hgrow.size, fun j h1 h2 => hgrow.block j h1 (by simp [Value.ownBlock])⟩; have HR := hid_mk q4; have HG := hid_mk q2; clear hown' hgrow hnil q4 q2)
    go_ret
    have hz : w.heap.size ≤ w1.heap.size := HO.out.size
    have hg := HG.out
    exact ⟨w1.heap.size, rfl, ⟨_, _, heap_alloc_new _ _, hz, by simp, Nat.le_refl _, HB.out.2.2.2.1, HB.out.2.2.2.2, fun _ => ⟨g, rfl, hg1, by simp; omega, by omega, HR.out.kept ((Out.refl 0 0 w1).alloc _) (.inr (Nat.zero_le _))⟩⟩, HO.out.alloc _⟩
  · obtain rfl : n = 0 := by omega
    obtain ⟨ao, cap, c0⟩ := h.field
    have HB := hid_mk hB
    clear h hB hn
    have fin : ∀ v c, RefAt (w.alloc (.cells #[.slice v 0 c] 49)) w.heap.size (w.alloc (.cells #[.slice v 0 c] 49)).heap.size w.heap.size 0 S := fun v c =>
      ⟨v, c, heap_alloc_new _ _, Nat.le_refl _, by simp, Nat.le_refl _, by omega, HB.out.2.2.2.2, fun h => by omega⟩
    have HF := hid_mk fin
    clear fin
    cases ao
    · go_enter Tryd.func24, Tryd.ntmps24
      go_wp2
      go_ret
      exact ⟨_, rfl, HF.out _ _, (Out.refl _ _ _).alloc _⟩
    · go_enter Tryd.func24, Tryd.ntmps24
      go_wp2
      go_ret
      exact ⟨_, rfl, HF.out _ _, (Out.refl _ _ _).alloc _⟩
end Go.Proofs.YtnkobcldagajeaaDoor
