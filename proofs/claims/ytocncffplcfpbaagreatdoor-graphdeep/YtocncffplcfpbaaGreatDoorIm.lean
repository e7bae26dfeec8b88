/- maps keyed by whole numbers -/
import Derived.Test.YtocncffplcfpbaaGreatDoorIa
import Derived.Maps.OwnSet
namespace Go.Proofs.YtocncffplcfpbaaGreatDoor
open Go.RowKit Go.MapKept
open Go.ChangeMaps (setBlock)
set_option linter.unusedVariables false
set_option linter.unusedSimpArgs false

/-- block b is a map: at the key a 'f a' -/
def MpAt (w : World) (b : Nat) (f : Int → Option Value) : Prop :=
  ∃ es clock, w.heap[b]? = some (.map es clock) ∧ Stamped es clock ∧ (∀ x ∈ es.toList, ∃ a, x.key = .int .i64 a) ∧ ∀ a v, f a = some v ↔ ∃ x ∈ es.toList, x.key = .int .i64 a ∧ x.val = v
theorem MpAt.lt {w : World} {b : Nat} {f : Int → Option Value} (h : MpAt w b f) : b < w.heap.size := by
  obtain ⟨es, clock, hb, _⟩ := h
  exact heap_lt hb
theorem MpAt.kept {w w' : World} {b lo hi : Nat} {f : Int → Option Value} (h : MpAt w b f) (o : Out lo hi w w') (hd : b < lo ∨ hi ≤ b) : MpAt w' b f := by
  obtain ⟨es, clock, hb, r⟩ := h
  exact ⟨es, clock, o.heap hb hd, r⟩
theorem MpAt.congr {w : World} {b : Nat} {f g : Int → Option Value} (h : MpAt w b f) (e : ∀ a, f a = g a) : MpAt w b g := by
  have : f = g := funext e
  rw [← this]; exact h
theorem mp_new (w : World) : MpAt (w.alloc (.map #[] 0)) w.heap.size (fun _ => none) :=
  ⟨#[], 0, (heap_alloc w _).1, stamped_empty 0, by simp, by simp⟩
theorem MpAt.isKeys {es : Array MapEntry} (h : ∀ x ∈ es.toList, ∃ a, x.key = .int .i64 a) : ∀ x ∈ es.toList, IsKey (.int .i64) x.key := fun x hx => by
  obtain ⟨a, e⟩ := h x hx
  rw [e]; exact rfl
section
variable {P : Program} {w : World} {t k e : TypeId} {b : Nat} {f : Int → Option Value}
theorem mp_look (c : Bool) (ht : P.underlying t = some (.map k e)) (hk : P.underlying k = some (.int .i64)) {z : Value} (hz : (zeroValue e).run P w = .ok z w) (h : MpAt w b f) (a : Int) :
    (Instr.lookup t (.map (some b)) (.int .i64 a) c).run P w = .ok (if c then .tuple #[(f a).getD z, .bool (f a).isSome] else (f a).getD z) w := by
  obtain ⟨es, clock, hb, hs, hks, hf⟩ := h
  have ik : IsKey (.int .i64) (.int .i64 a) := rfl
  rcases findNow_spec ik es.toList 0 (MpAt.isKeys hks) with ⟨h1, h2⟩ | ⟨j, e0, h1, h2, h3⟩
  · have hn : f a = none := by
      cases hfa : f a with
      | none => rfl
      | some v =>
        obtain ⟨x, hx, hxk, _⟩ := (hf a v).1 hfa
        exact absurd hxk (h2 x hx)
    simp [Instr.lookup, run_underlying ht, MapKept.run_getObj_map hb, run_checkKey hk ik, run_findKey hk h1, hz, hn, Result.andThen]
  · have hv : f a = some e0.val := (hf a _).2 ⟨e0, List.mem_of_getElem? h2, h3, rfl⟩
    simp [Instr.lookup, run_underlying ht, MapKept.run_getObj_map hb, run_checkKey hk ik, run_findKey hk h1, hv, Result.andThen]
theorem out_setBlock {es : Array MapEntry} {clock : Nat} (hb : w.heap[b]? = some (.map es clock)) (o : Obj) : Out b (b + 1) w { w with heap := w.heap.setIfInBounds b o } :=
  ⟨rfl, rfl, rfl, by simp, fun j h1 h2 => (heap_set (o' := o) hb).2 j (by omega)⟩
theorem mp_put (ht : P.underlying t = some (.map k e)) (hk : P.underlying k = some (.int .i64)) (h : MpAt w b f) (a : Int) (v : Value) :
    ∃ w', (Instr.mapUpdate t (.map (some b)) (.int .i64 a) v).run P w = .ok () w' ∧ MpAt w' b (fun x => if x = a then some v else f x) ∧ Out b (b + 1) w w' := by
  obtain ⟨es, clock, hb, hs, hks, hf⟩ := h
  have ik : IsKey (.int .i64) (.int .i64 a) := rfl
  rcases findNow_spec ik es.toList 0 (MpAt.isKeys hks) with ⟨h1, h2⟩ | ⟨j, e0, h1, h2, h3⟩
  · refine ⟨_, by simp [Instr.mapUpdate, run_underlying ht, MapKept.run_getObj_map hb, run_checkKey hk ik, run_findKey hk h1, MapKept.run_setObj_map _ hb, Result.andThen]; rfl, ⟨_, _, (heap_set hb).1, stamped_push hs h2, ?_, ?_⟩, out_setBlock hb _⟩
    · intro x hx
      simp only [Array.toList_push, List.mem_append, List.mem_singleton] at hx
      rcases hx with hx | rfl
      · exact hks x hx
      · exact ⟨a, rfl⟩
    · intro a' v'
      show (if a' = a then some v else f a') = some v' ↔ _
      by_cases ea : a' = a
      · subst ea
        rw [if_pos rfl]
        constructor
        · intro hv
          cases hv
          exact ⟨⟨_, _, clock⟩, by simp, rfl, rfl⟩
        · rintro ⟨x, hx, hxk, rfl⟩
          simp only [Array.toList_push, List.mem_append, List.mem_singleton] at hx
          rcases hx with hx | rfl
          · exact absurd hxk (h2 x hx)
          · rfl
      · rw [if_neg ea, hf]
        constructor
        · rintro ⟨x, hx, hxk, hxv⟩
          exact ⟨x, by simp [hx], hxk, hxv⟩
        · rintro ⟨x, hx, hxk, hxv⟩
          simp only [Array.toList_push, List.mem_append, List.mem_singleton] at hx
          rcases hx with hx | rfl
          · exact ⟨x, hx, hxk, hxv⟩
          · simp at hxk
            exact absurd hxk.symm ea
  · have hj : es[j]? = some e0 := by simpa using h2
    have hjl : j < es.toList.length := (List.getElem?_eq_some_iff.1 h2).1
    have hkey : ∀ e', es[j]? = some e' → ({ e' with key := .int .i64 a, val := v } : MapEntry).key = e'.key := fun e' he' => by rw [hj] at he'; cases he'; exact h3.symm
    have hlist : (es.modify j (fun e' => { e' with key := .int .i64 a, val := v })).toList = es.toList.set j { e0 with key := .int .i64 a, val := v } := by rw [Array.toList_modify, ChangeMaps.modify_eq_set _ _ _ _ h2]
    have hapart : ∀ x ∈ es.toList, x.key = .int .i64 a → x = e0 := by
      intro x hx hxk
      obtain ⟨i, hi, rfl⟩ := List.getElem_of_mem hx
      by_cases e1 : i = j
      · subst e1
        rw [List.getElem?_eq_getElem hi] at h2
        exact Option.some.inj h2
      · have hp := ((stamped_iff es clock).1 hs).2.2
        rw [List.pairwise_iff_getElem] at hp
        rw [List.getElem?_eq_getElem hjl] at h2
        have h2' := Option.some.inj h2
        rcases Nat.lt_or_gt_of_ne e1 with hlt | hlt
        · exact absurd (by rw [hxk, h2', h3]) (hp i j hi hjl hlt)
        · exact absurd (by rw [hxk, h2', h3]) (hp j i hjl hi hlt)
    refine ⟨{ w with heap := w.heap.setIfInBounds b (.map (es.modify j (fun e' => { e' with key := .int .i64 a, val := v })) clock) }, by simp [Instr.mapUpdate, run_underlying ht, MapKept.run_getObj_map hb, run_checkKey hk ik, run_findKey hk h1, hj, h3, run_keyThatStays ik, MapKept.run_setObj_map _ hb, Result.andThen], ⟨es.modify j (fun e' => { e' with key := .int .i64 a, val := v }), clock, (heap_set hb).1, stamped_modify hs _ _ (fun _ _ => rfl) (fun e' _ he' => hkey e' he'), ?_, ?_⟩, out_setBlock hb _⟩
    · intro x hx
      rw [hlist] at hx
      rcases List.mem_or_eq_of_mem_set hx with hx | rfl
      · exact hks x hx
      · exact ⟨a, rfl⟩
    · intro a' v'
      rw [hlist]
      show (if a' = a then some v else f a') = some v' ↔ _
      by_cases ea : a' = a
      · subst ea
        rw [if_pos rfl]
        constructor
        · intro hv
          cases hv
          exact ⟨_, List.mem_set hjl _, rfl, rfl⟩
        · rintro ⟨x, hx, hxk, rfl⟩
          obtain ⟨i, hi, rfl⟩ := List.getElem_of_mem hx
          rw [List.getElem_set] at hxk ⊢
          by_cases e1 : j = i
          · simp [e1]
          · rw [if_neg e1] at hxk ⊢
            have hi' : i < es.toList.length := by simpa using hi
            have := hapart _ (List.getElem_mem hi') hxk
            have hp := ((stamped_iff es clock).1 hs).2.2
            rw [List.pairwise_iff_getElem] at hp
            rw [List.getElem?_eq_getElem hjl] at h2
            have h2' := Option.some.inj h2
            rcases Nat.lt_or_gt_of_ne e1 with hlt | hlt
            · exact absurd (by rw [hxk, h2', h3]) (hp j i hjl hi' hlt)
            · exact absurd (by rw [hxk, h2', h3]) (hp i j hi' hjl hlt)
      · rw [if_neg ea, hf]
        constructor
        · rintro ⟨x, hx, hxk, hxv⟩
          obtain ⟨i, hi, rfl⟩ := List.getElem_of_mem hx
          by_cases e1 : j = i
          · subst e1
            rw [List.getElem?_eq_getElem hjl] at h2
            rw [Option.some.inj h2, h3] at hxk
            simp at hxk
            exact absurd hxk.symm ea
          · refine ⟨es.toList[i], List.mem_iff_getElem.2 ⟨i, by simpa using hi, by rw [List.getElem_set, if_neg e1]⟩, hxk, hxv⟩
        · rintro ⟨x, hx, hxk, hxv⟩
          rcases List.mem_or_eq_of_mem_set hx with hx | rfl
          · exact ⟨x, hx, hxk, hxv⟩
          · simp at hxk
            exact absurd hxk.symm ea
theorem mp_del {ty : TypeId} (ht : P.underlying t = some (.map k e)) (hk : P.underlying k = some (.int .i64)) (h : MpAt w b f) (a : Int) :
    ∃ w', (Builtin.delete_ #[t, k] ty #[.map (some b), .int .i64 a]).run P w = .ok (.tuple #[]) w' ∧ MpAt w' b (fun x => if x = a then none else f x) ∧ Out b (b + 1) w w' := by
  obtain ⟨es, clock, hb, hs, hks, hf⟩ := h
  have ik : IsKey (.int .i64) (.int .i64 a) := rfl
  rcases findNow_spec ik es.toList 0 (MpAt.isKeys hks) with ⟨h1, h2⟩ | ⟨j, e0, h1, h2, h3⟩
  · refine ⟨_, by simp [Builtin.delete_, run_underlying ht, MapKept.run_getObj_map hb, run_checkKey hk ik, run_findKey hk h1, MapKept.run_setObj_map _ hb, Result.andThen]; rfl, ?_⟩
    have hn : f a = none := by
      cases hfa : f a with
      | none => rfl
      | some v =>
        obtain ⟨x, hx, hxk, _⟩ := (hf a v).1 hfa
        exact absurd hxk (h2 x hx)
    first
      | exact ⟨MpAt.congr ⟨es, clock, hb, hs, hks, hf⟩ (fun x => by by_cases ex : x = a <;> simp [ex, hn]), Out.refl _ _ _⟩
      | exact ⟨MpAt.congr ⟨es, clock, (heap_set hb).1, hs, hks, hf⟩ (fun x => by by_cases ex : x = a <;> simp [ex, hn]), out_setBlock hb _⟩
  · have hjl : j < es.toList.length := (List.getElem?_eq_some_iff.1 h2).1
    have hjs : j < es.size := by simpa using hjl
    have hsub : (es.eraseIdxIfInBounds j).toList = es.toList.eraseIdx j := by
      unfold Array.eraseIdxIfInBounds
      rw [dif_pos hjs]
      simp
    refine ⟨_, by simp [Builtin.delete_, run_underlying ht, MapKept.run_getObj_map hb, run_checkKey hk ik, run_findKey hk h1, MapKept.run_setObj_map _ hb, Result.andThen], ⟨_, _, (heap_set hb).1, stamped_erase hs j, ?_, ?_⟩, out_setBlock hb _⟩
    · intro x hx
      rw [hsub] at hx
      exact hks x ((List.eraseIdx_sublist _ _).subset hx)
    · intro a' v'
      rw [hsub]
      have hp := ((stamped_iff es clock).1 hs).2.2
      rw [List.pairwise_iff_getElem] at hp
      rw [List.getElem?_eq_getElem hjl] at h2
      have h2' := Option.some.inj h2
      show (if a' = a then none else f a') = some v' ↔ _
      by_cases ea : a' = a
      · subst ea
        rw [if_pos rfl]
        constructor
        · intro hv; cases hv
        · rintro ⟨x, hx, hxk, _⟩
          obtain ⟨i, hne, hi⟩ := List.mem_eraseIdx_iff_getElem?.1 hx
          obtain ⟨hi', hxe⟩ := List.getElem?_eq_some_iff.1 hi
          rcases Nat.lt_or_gt_of_ne hne with hlt | hlt
          · exact absurd (by rw [hxe, hxk, h2', h3]) (hp i j hi' hjl hlt)
          · exact absurd (by rw [hxe, hxk, h2', h3]) (hp j i hjl hi' hlt)
      · rw [if_neg ea, hf]
        constructor
        · rintro ⟨x, hx, hxk, hxv⟩
          obtain ⟨i, hi, rfl⟩ := List.getElem_of_mem hx
          refine ⟨_, List.mem_eraseIdx_iff_getElem?.2 ⟨i, fun e1 => ?_, List.getElem?_eq_getElem hi⟩, hxk, hxv⟩
          subst e1
          rw [h2', h3] at hxk
          simp at hxk
          exact ea hxk.symm
        · rintro ⟨x, hx, hxk, hxv⟩
          exact ⟨x, (List.eraseIdx_sublist _ _).subset hx, hxk, hxv⟩
end
end Go.Proofs.YtocncffplcfpbaaGreatDoor
