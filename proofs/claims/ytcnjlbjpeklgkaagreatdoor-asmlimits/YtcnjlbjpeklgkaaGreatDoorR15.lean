import Derived.Test.YtcnjlbjpeklgkaaGreatDoorR02
import Derived.Maps.OwnSet
import Derived.Maps.Range
import Derived.Test.YtcnjlbjpeklgkaaGreatDoorR03
import Derived.Test.YtcnjlbjpeklgkaaGreatDoorR14
namespace Go.Proofs.YtcnjlbjpeklgkaaGreatDoor
open Go.RowKit Go.MapKept Go.ChangeMaps
set_option linter.unusedVariables false
set_option linter.unusedSimpArgs false

/-- block b is a map: at the key a 'f a' -/
def MqAt (w : World) (b : Nat) (f : ByteArray → Option Value) : Prop :=
  ∃ es clock, w.heap[b]? = some (.map es clock) ∧ Stamped es clock ∧ (∀ x ∈ es.toList, ∃ a, x.key = Value.string a) ∧ ∀ a v, f a = some v ↔ ∃ x ∈ es.toList, x.key = Value.string a ∧ x.val = v
theorem MqAt.lt {w : World} {b : Nat} {f : ByteArray → Option Value} (h : MqAt w b f) : b < w.heap.size := by
  obtain ⟨es, clock, hb, _⟩ := h
  exact heap_lt hb
theorem MqAt.kept {w w' : World} {b lo hi : Nat} {f : ByteArray → Option Value} (h : MqAt w b f) (o : Out lo hi w w') (hd : b < lo ∨ hi ≤ b) : MqAt w' b f := by
  obtain ⟨es, clock, hb, r⟩ := h
  exact ⟨es, clock, o.heap hb hd, r⟩
theorem MqAt.congr {w : World} {b : Nat} {f g : ByteArray → Option Value} (h : MqAt w b f) (e : ∀ a, f a = g a) : MqAt w b g := by
  have : f = g := funext e
  rw [← this]; exact h
theorem mq_new (w : World) : MqAt (w.alloc (.map #[] 0)) w.heap.size (fun _ => none) :=
  ⟨#[], 0, (heap_alloc w _).1, stamped_empty 0, by simp, by simp⟩
theorem MqAt.isKeys {es : Array MapEntry} (h : ∀ x ∈ es.toList, ∃ a, x.key = Value.string a) : ∀ x ∈ es.toList, IsKey .string x.key := fun x hx => by
  obtain ⟨a, e⟩ := h x hx
  rw [e]; exact trivial
section
variable {P : Program} {w : World} {t k e : TypeId} {b : Nat} {f : ByteArray → Option Value}
theorem mq_look (c : Bool) (ht : P.underlying t = some (.map k e)) (hk : P.underlying k = some .string) {z : Value} (hz : (zeroValue e).run P w = .ok z w) (h : MqAt w b f) (a : ByteArray) :
    (Instr.lookup t (.map (some b)) (.string a) c).run P w = .ok (if c then .tuple #[(f a).getD z, .bool (f a).isSome] else (f a).getD z) w := by
  obtain ⟨es, clock, hb, hs, hks, hf⟩ := h
  have ik : IsKey .string (.string a) := trivial
  rcases findNow_spec ik es.toList 0 (MqAt.isKeys hks) with ⟨h1, h2⟩ | ⟨j, e0, h1, h2, h3⟩
  · have hn : f a = none := by
      cases hfa : f a with
      | none => rfl
      | some v =>
        obtain ⟨x, hx, hxk, _⟩ := (hf a v).1 hfa
        exact absurd hxk (h2 x hx)
    simp [Instr.lookup, run_underlying ht, MapKept.run_getObj_map hb, run_checkKey hk ik, run_findKey hk h1, hz, hn, Result.andThen]
  · have hv : f a = some e0.val := (hf a _).2 ⟨e0, List.mem_of_getElem? h2, h3, rfl⟩
    simp [Instr.lookup, run_underlying ht, MapKept.run_getObj_map hb, run_checkKey hk ik, run_findKey hk h1, hv, Result.andThen]
theorem outq_setBlock {es : Array MapEntry} {clock : Nat} (hb : w.heap[b]? = some (.map es clock)) (o : Obj) : Out b (b + 1) w { w with heap := w.heap.setIfInBounds b o } :=
  ⟨rfl, rfl, rfl, by simp, fun j h1 h2 => (heap_set (o' := o) hb).2 j (by omega)⟩
theorem mq_put (ht : P.underlying t = some (.map k e)) (hk : P.underlying k = some .string) (h : MqAt w b f) (a : ByteArray) (v : Value) :
    ∃ w', (Instr.mapUpdate t (.map (some b)) (.string a) v).run P w = .ok () w' ∧ MqAt w' b (fun x => if x = a then some v else f x) ∧ Out b (b + 1) w w' := by
  obtain ⟨es, clock, hb, hs, hks, hf⟩ := h
  have ik : IsKey .string (.string a) := trivial
  rcases findNow_spec ik es.toList 0 (MqAt.isKeys hks) with ⟨h1, h2⟩ | ⟨j, e0, h1, h2, h3⟩
  · refine ⟨_, by simp [Instr.mapUpdate, run_underlying ht, MapKept.run_getObj_map hb, run_checkKey hk ik, run_findKey hk h1, MapKept.run_setObj_map _ hb, Result.andThen]; rfl, ⟨_, _, (heap_set hb).1, stamped_push hs h2, ?_, ?_⟩, outq_setBlock hb _⟩
    · intro x hx
      simp only [Array.toList_push, List.mem_append, List.mem_singleton] at hx
      rcases hx with hx | rfl
      · exact hks x hx
      · exact ⟨a, rfl⟩
    · intro a' v'
      show (if a' = a then some v else f a') = some v' ↔ _
      by_cases ea : a' = a
      · subst ea
        rw [if_pos rfl]
        constructor
        · intro hv
          cases hv
          exact ⟨⟨_, _, clock⟩, by simp, rfl, rfl⟩
        · rintro ⟨x, hx, hxk, rfl⟩
          simp only [Array.toList_push, List.mem_append, List.mem_singleton] at hx
          rcases hx with hx | rfl
          · exact absurd hxk (h2 x hx)
          · rfl
      · rw [if_neg ea, hf]
        constructor
        · rintro ⟨x, hx, hxk, hxv⟩
          exact ⟨x, by simp [hx], hxk, hxv⟩
        · rintro ⟨x, hx, hxk, hxv⟩
          simp only [Array.toList_push, List.mem_append, List.mem_singleton] at hx
          rcases hx with hx | rfl
          · exact ⟨x, hx, hxk, hxv⟩
          · simp at hxk
            exact absurd hxk.symm ea
  · have hj : es[j]? = some e0 := by simpa using h2
    have hjl : j < es.toList.length := (List.getElem?_eq_some_iff.1 h2).1
    have hkey : ∀ e', es[j]? = some e' → ({ e' with key := Value.string a, val := v } : MapEntry).key = e'.key := fun e' he' => by rw [hj] at he'; cases he'; exact h3.symm
    have hlist : (es.modify j (fun e' => { e' with key := Value.string a, val := v })).toList = es.toList.set j { e0 with key := Value.string a, val := v } := by rw [Array.toList_modify, ChangeMaps.modify_eq_set _ _ _ _ h2]
    have hapart : ∀ x ∈ es.toList, x.key = Value.string a → x = e0 := by
      intro x hx hxk
      obtain ⟨i, hi, rfl⟩ := List.getElem_of_mem hx
      by_cases e1 : i = j
      · subst e1
        rw [List.getElem?_eq_getElem hi] at h2
        exact Option.some.inj h2
      · have hp := ((stamped_iff es clock).1 hs).2.2
        rw [List.pairwise_iff_getElem] at hp
        rw [List.getElem?_eq_getElem hjl] at h2
        have h2' := Option.some.inj h2
        rcases Nat.lt_or_gt_of_ne e1 with hlt | hlt
        · exact absurd (by rw [hxk, h2', h3]) (hp i j hi hjl hlt)
        · exact absurd (by rw [hxk, h2', h3]) (hp j i hjl hi hlt)
    refine ⟨{ w with heap := w.heap.setIfInBounds b (.map (es.modify j (fun e' => { e' with key := Value.string a, val := v })) clock) }, by simp [Instr.mapUpdate, run_underlying ht, MapKept.run_getObj_map hb, run_checkKey hk ik, run_findKey hk h1, hj, h3, run_keyThatStays ik, MapKept.run_setObj_map _ hb, Result.andThen], ⟨es.modify j (fun e' => { e' with key := Value.string a, val := v }), clock, (heap_set hb).1, stamped_modify hs _ _ (fun _ _ => rfl) (fun e' _ he' => hkey e' he'), ?_, ?_⟩, outq_setBlock hb _⟩
    · intro x hx
      rw [hlist] at hx
      rcases List.mem_or_eq_of_mem_set hx with hx | rfl
      · exact hks x hx
      · exact ⟨a, rfl⟩
    · intro a' v'
      rw [hlist]
      show (if a' = a then some v else f a') = some v' ↔ _
      by_cases ea : a' = a
      · subst ea
        rw [if_pos rfl]
        constructor
        · intro hv
          cases hv
          exact ⟨_, List.mem_set hjl _, rfl, rfl⟩
        · rintro ⟨x, hx, hxk, rfl⟩
          obtain ⟨i, hi, rfl⟩ := List.getElem_of_mem hx
          rw [List.getElem_set] at hxk ⊢
          by_cases e1 : j = i
          · simp [e1]
          · rw [if_neg e1] at hxk ⊢
            have hi' : i < es.toList.length := by simpa using hi
            have := hapart _ (List.getElem_mem hi') hxk
            have hp := ((stamped_iff es clock).1 hs).2.2
            rw [List.pairwise_iff_getElem] at hp
            rw [List.getElem?_eq_getElem hjl] at h2
            have h2' := Option.some.inj h2
            rcases Nat.lt_or_gt_of_ne e1 with hlt | hlt
            · exact absurd (by rw [hxk, h2', h3]) (hp j i hjl hi' hlt)
            · exact absurd (by rw [hxk, h2', h3]) (hp i j hi' hjl hlt)
      · rw [if_neg ea, hf]
        constructor
        · rintro ⟨x, hx, hxk, hxv⟩
          obtain ⟨i, hi, rfl⟩ := List.getElem_of_mem hx
          by_cases e1 : j = i
          · subst e1
            rw [List.getElem?_eq_getElem hjl] at h2
            rw [Option.some.inj h2, h3] at hxk
            simp at hxk
            exact absurd hxk.symm ea
          · refine ⟨es.toList[i], List.mem_iff_getElem.2 ⟨i, by simpa using hi, by rw [List.getElem_set, if_neg e1]⟩, hxk, hxv⟩
        · rintro ⟨x, hx, hxk, hxv⟩
          rcases List.mem_or_eq_of_mem_set hx with hx | rfl
          · exact ⟨x, hx, hxk, hxv⟩
          · simp at hxk
            exact absurd hxk.symm ea
theorem mq_del {ty : TypeId} (ht : P.underlying t = some (.map k e)) (hk : P.underlying k = some .string) (h : MqAt w b f) (a : ByteArray) :
    ∃ w', (Builtin.delete_ #[t, k] ty #[.map (some b), Value.string a]).run P w = .ok (.tuple #[]) w' ∧ MqAt w' b (fun x => if x = a then none else f x) ∧ Out b (b + 1) w w' := by
  obtain ⟨es, clock, hb, hs, hks, hf⟩ := h
  have ik : IsKey .string (.string a) := trivial
  rcases findNow_spec ik es.toList 0 (MqAt.isKeys hks) with ⟨h1, h2⟩ | ⟨j, e0, h1, h2, h3⟩
  · refine ⟨_, by simp [Builtin.delete_, run_underlying ht, MapKept.run_getObj_map hb, run_checkKey hk ik, run_findKey hk h1, MapKept.run_setObj_map _ hb, Result.andThen]; rfl, ?_⟩
    have hn : f a = none := by
      cases hfa : f a with
      | none => rfl
      | some v =>
        obtain ⟨x, hx, hxk, _⟩ := (hf a v).1 hfa
        exact absurd hxk (h2 x hx)
    first
      | exact ⟨MqAt.congr ⟨es, clock, hb, hs, hks, hf⟩ (fun x => by by_cases ex : x = a <;> simp [ex, hn]), Out.refl _ _ _⟩
      | exact ⟨MqAt.congr ⟨es, clock, (heap_set hb).1, hs, hks, hf⟩ (fun x => by by_cases ex : x = a <;> simp [ex, hn]), outq_setBlock hb _⟩
  · have hjl : j < es.toList.length := (List.getElem?_eq_some_iff.1 h2).1
    have hjs : j < es.size := by simpa using hjl
    have hsub : (es.eraseIdxIfInBounds j).toList = es.toList.eraseIdx j := by
      unfold Array.eraseIdxIfInBounds
      rw [dif_pos hjs]
      simp
    refine ⟨_, by simp [Builtin.delete_, run_underlying ht, MapKept.run_getObj_map hb, run_checkKey hk ik, run_findKey hk h1, MapKept.run_setObj_map _ hb, Result.andThen], ⟨_, _, (heap_set hb).1, stamped_erase hs j, ?_, ?_⟩, outq_setBlock hb _⟩
    · intro x hx
      rw [hsub] at hx
      exact hks x ((List.eraseIdx_sublist _ _).subset hx)
    · intro a' v'
      rw [hsub]
      have hp := ((stamped_iff es clock).1 hs).2.2
      rw [List.pairwise_iff_getElem] at hp
      rw [List.getElem?_eq_getElem hjl] at h2
      have h2' := Option.some.inj h2
      show (if a' = a then none else f a') = some v' ↔ _
      by_cases ea : a' = a
      · subst ea
        rw [if_pos rfl]
        constructor
        · intro hv; cases hv
        · rintro ⟨x, hx, hxk, _⟩
          obtain ⟨i, hne, hi⟩ := List.mem_eraseIdx_iff_getElem?.1 hx
          obtain ⟨hi', hxe⟩ := List.getElem?_eq_some_iff.1 hi
          rcases Nat.lt_or_gt_of_ne hne with hlt | hlt
          · exact absurd (by rw [hxe, hxk, h2', h3]) (hp i j hi' hjl hlt)
          · exact absurd (by rw [hxe, hxk, h2', h3]) (hp j i hjl hi' hlt)
      · rw [if_neg ea, hf]
        constructor
        · rintro ⟨x, hx, hxk, hxv⟩
          obtain ⟨i, hi, rfl⟩ := List.getElem_of_mem hx
          refine ⟨_, List.mem_eraseIdx_iff_getElem?.2 ⟨i, fun e1 => ?_, List.getElem?_eq_getElem hi⟩, hxk, hxv⟩
          subst e1
          rw [h2', h3] at hxk
          simp at hxk
          exact ea hxk.symm
        · rintro ⟨x, hx, hxk, hxv⟩
          exact ⟨x, (List.eraseIdx_sublist _ _).subset hx, hxk, hxv⟩
end
/-- block r goes over the map m: f what is in it, L what is still to come, cnt how many -/
def RQ (w : World) (m r : Nat) (f : ByteArray → Option Value) (L : ByteArray → Bool) (cnt : Nat) : Prop :=
  ∃ es clock since seen c0, w.heap[m]? = some (.map es clock) ∧ Stamped es clock ∧ (∀ x ∈ es.toList, ∃ a, x.key = Value.string a) ∧ (∀ a v, f a = some v ↔ ∃ x ∈ es.toList, x.key = Value.string a ∧ x.val = v) ∧
    w.heap[r]? = some (.mapIter (some m) since seen c0) ∧ (∀ x ∈ es.toList, x.born < since) ∧ since ≤ c0 ∧ since ≤ clock ∧ (leftOf es seen).size = cnt ∧ ∀ x ∈ es.toList, ∀ a, x.key = Value.string a → L a = !seen.contains x.born
section
variable {w w' : World} {m r cnt : Nat} {f : ByteArray → Option Value} {L : ByteArray → Bool}
theorem RQ.mp (h : RQ w m r f L cnt) : MqAt w m f := by
  obtain ⟨es, clock, since, seen, c0, hb, hs, hk, hf, _⟩ := h
  exact ⟨es, clock, hb, hs, hk, hf⟩
theorem RQ.ne (h : RQ w m r f L cnt) : r ≠ m := by
  obtain ⟨es, clock, since, seen, c0, hb, hs, hk, hf, hr, _⟩ := h
  intro e
  rw [e, hb] at hr
  cases hr
theorem RQ.lt (h : RQ w m r f L cnt) : r < w.heap.size := by
  obtain ⟨es, clock, since, seen, c0, hb, hs, hk, hf, hr, _⟩ := h
  exact heap_lt hr
theorem RQ.left (h : RQ w m r f L cnt) : w.rangeLeft m r = cnt := by
  obtain ⟨es, clock, since, seen, c0, hb, hs, hk, hf, hr, _, _, _, hc, _⟩ := h
  simp only [World.rangeLeft, hb, hr]
  exact hc
theorem RQ.fx {S : Nat → Prop} (h : RQ w m r f L cnt) (x : Fx S w w') (h1 : ¬ S m) (h2 : ¬ S r) : RQ w' m r f L cnt := by
  obtain ⟨es, clock, since, seen, c0, hb, hs, hk, hf, hr, rest⟩ := h
  exact ⟨es, clock, since, seen, c0, x.heap hb h1, hs, hk, hf, x.heap hr h2, rest⟩
theorem RQ.quiet (h : RQ w m r f L cnt) (x : Out 0 0 w w') : RQ w' m r f L cnt := h.fx (Fx.of_out (S := fun _ => False) x) id id
variable {P : Program}
theorem RQ.start {t k e : TypeId} (h : MqAt w m f) (ht : P.underlying t = some (.map k e)) : ∃ w' cnt, (Instr.range t (.map (some m))).run P w = .ok (.pointer (some ⟨w.heap.size, 0, none⟩)) w' ∧ RQ w' m w.heap.size f (fun _ => true) cnt ∧ Out 0 0 w w' := by
  have hlt := h.lt
  obtain ⟨es, clock, hb, hs, hk, hf⟩ := h
  refine ⟨_, _, run_range_map w t k e m es clock ht hb, ⟨es, clock, clock, #[], clock, ((MapKept.heap_alloc w _).2 m hlt).trans hb, hs, hk, hf, (MapKept.heap_alloc w _).1, ((stamped_iff es clock).1 hs).1, Nat.le_refl _, Nat.le_refl _, rfl, fun x hx a ha => by simp⟩, (Out.refl 0 0 w).alloc _⟩
theorem RQ.next (h : RQ w m r f L cnt) (ty : TypeId) :
    ((∀ a v, f a = some v → L a = false) ∧ (Instr.next (.pointer (some ⟨r, 0, none⟩)) false ty).run P w = .ok (.tuple #[.bool false]) w) ∨
    ∃ a v w' cnt', f a = some v ∧ L a = true ∧ (Instr.next (.pointer (some ⟨r, 0, none⟩)) false ty).run P w = .ok (.tuple #[.bool true, Value.string a, v]) w' ∧ RQ w' m r f (fun x => L x && decide (x ≠ a)) cnt' ∧ cnt' < cnt ∧ Fx (fun k => k = r) w w' ∧ (Instr.entry (.pointer (some ⟨r, 0, none⟩))).run P w' = .ok (.tuple #[Value.string a, v]) w' := by
  have hne := h.ne
  obtain ⟨es, clock, since, seen, c0, hb, hs, hk, hf, hr, hold, hsc, hsk, rfl, hL⟩ := h
  have hst := (stamped_iff es clock).1 hs
  rcases run_next_at (P := P) w ty r m since c0 seen es clock hr hb hold hsc with ⟨h0, hrun⟩ | ⟨e, he, w1, hal, hrun⟩
  · refine Or.inl ⟨fun a v hv => ?_, hrun⟩
    obtain ⟨x, hx, hxk, _⟩ := (hf a v).1 hv
    rw [hL x hx a hxk, all_seen es seen h0 x hx]
    rfl
  · obtain ⟨hem, hes⟩ := mem_left he
    obtain ⟨a, ha⟩ := hk e hem
    have hr1 : w1.heap[r]? = some (.mapIter (some m) since seen c0) := by rcases hal with rfl | rfl <;> exact hr
    have hb1 : w1.heap[m]? = some (.map es clock) := by rcases hal with rfl | rfl <;> exact hb
    have hset := heap_set (o' := .mapIter (some m) since (seen.push e.born) clock) hr1
    have hb' : (setBlock w1 r (.mapIter (some m) since (seen.push e.born) clock)).heap[m]? = some (.map es clock) := (hset.2 m (fun e1 => hne e1.symm)).trans hb1
    have hen := run_entry_at (P := P) _ r m since seen es clock e hset.1 hb' hem hst.2.1
    rw [ha] at hrun hen
    refine Or.inr ⟨a, e.val, _, _, (hf a _).2 ⟨e, hem, ha, rfl⟩, by rw [hL e hem a ha, hes]; rfl, hrun, ⟨es, clock, since, seen.push e.born, clock, hb', hs, hk, hf, hset.1, hold, hsk, hsk, rfl, fun x hx b hbk => ?_⟩, left_shrinks es seen e he, ?_, hen⟩
    · show (L b && decide (b ≠ a)) = _
      rw [hL x hx b hbk, contains_push]
      by_cases hxe : x.born = e.born
      · obtain rfl := born_inj hst.2.1 hx hem hxe
        rw [ha] at hbk
        simp at hbk
        subst hbk
        simp
      · have hba : b ≠ a := fun q => by
          subst q
          exact hxe (congrArg MapEntry.born (entry_eq_of_key hst.2.2 hx hem (hbk.trans ha.symm)))
        have e1 : (x.born == e.born) = false := by simp [hxe]
        have e2 : (decide (b ≠ a)) = true := by simpa using hba
        rw [e1, e2]
        cases seen.contains x.born <;> rfl
    · rcases hal with rfl | rfl <;> exact ⟨rfl, rfl, rfl, by simp [setBlock], fun i _ hi => hset.2 i hi⟩
theorem RQ.del {t k e ty : TypeId} (ht : P.underlying t = some (.map k e)) (hkt : P.underlying k = some .string) (h : RQ w m r f L cnt) (a : ByteArray) :
    ∃ w' cnt', (Builtin.delete_ #[t, k] ty #[.map (some m), Value.string a]).run P w = .ok (.tuple #[]) w' ∧ RQ w' m r (fun x => if x = a then none else f x) L cnt' ∧ cnt' ≤ cnt ∧ Fx (fun k => k = m) w w' := by
  have hne := h.ne
  obtain ⟨es, clock, since, seen, c0, hb, hs, hk, hf, hr, hold, hsc, hsk, rfl, hL⟩ := h
  have ik : IsKey .string (.string a) := trivial
  have fin : ∀ es' : Array MapEntry, Stamped es' clock → (∀ x, x ∈ es'.toList ↔ (x ∈ es.toList ∧ x.key ≠ Value.string a)) → es'.toList.Sublist es.toList → ∃ cnt', RQ { w with heap := w.heap.setIfInBounds m (.map es' clock) } m r (fun x => if x = a then none else f x) L cnt' ∧ cnt' ≤ (leftOf es seen).size ∧ Fx (fun k => k = m) w { w with heap := w.heap.setIfInBounds m (.map es' clock) } := by
    intro es' hs' hw hsub
    have hset := heap_set (o' := .map es' clock) hb
    refine ⟨_, ⟨es', clock, since, seen, c0, hset.1, hs', fun x hx => hk x ((hw x).1 hx).1, fun b v => ?_, (hset.2 r hne).trans hr, fun x hx => hold x ((hw x).1 hx).1, hsc, hsk, rfl, fun x hx b hbk => hL x ((hw x).1 hx).1 b hbk⟩, ?_, ⟨rfl, rfl, rfl, by simp, fun k h1 h2 => hset.2 k h2⟩⟩
    · show (if b = a then none else f b) = some v ↔ _
      by_cases eb : b = a
      · subst eb
        rw [if_pos rfl]
        constructor
        · intro hv; cases hv
        · rintro ⟨x, hx, hxk, _⟩
          exact absurd hxk ((hw x).1 hx).2
      · rw [if_neg eb, hf]
        constructor
        · rintro ⟨x, hx, hxk, hxv⟩
          exact ⟨x, (hw x).2 ⟨hx, fun q => eb (by rw [q] at hxk; simp at hxk; exact hxk.symm)⟩, hxk, hxv⟩
        · rintro ⟨x, hx, hxk, hxv⟩
          exact ⟨x, ((hw x).1 hx).1, hxk, hxv⟩
    · have e1 : ∀ a : Array MapEntry, (leftOf a seen).size = (a.toList.filter fun e => !seen.contains e.born).length := fun a => by
        unfold leftOf
        rw [← Array.toList_filter, Array.length_toList]
      rw [e1, e1]
      exact (hsub.filter _).length_le
  rcases findNow_spec ik es.toList 0 (MqAt.isKeys hk) with ⟨h1, h2⟩ | ⟨j, e0, h1, h2, h3⟩
  · obtain ⟨cnt', q1, q2, q3⟩ := fin es hs (fun x => ⟨fun hx => ⟨hx, h2 x hx⟩, fun hx => hx.1⟩) (List.Sublist.refl _)
    exact ⟨_, cnt', by simp [Builtin.delete_, run_underlying ht, MapKept.run_getObj_map hb, run_checkKey hkt ik, run_findKey hkt h1, MapKept.run_setObj_map _ hb, Result.andThen], q1, q2, q3⟩
  · have hjl : j < es.toList.length := (List.getElem?_eq_some_iff.1 h2).1
    have hjs : j < es.size := by simpa using hjl
    have hsub : (es.eraseIdxIfInBounds j).toList = es.toList.eraseIdx j := by
      unfold Array.eraseIdxIfInBounds
      rw [dif_pos hjs]
      simp
    have hst := (stamped_iff es clock).1 hs
    obtain ⟨cnt', q1, q2, q3⟩ := fin (es.eraseIdxIfInBounds j) (stamped_erase hs j) (fun x => by
      rw [hsub, List.mem_eraseIdx_iff_getElem?]
      constructor
      · rintro ⟨i, hni, hi⟩
        refine ⟨List.mem_of_getElem? hi, fun q => ?_⟩
        have hp := hst.2.2
        rw [List.pairwise_iff_getElem] at hp
        obtain ⟨hi', hxe⟩ := List.getElem?_eq_some_iff.1 hi
        have h2' := (List.getElem?_eq_some_iff.1 h2).2
        rcases Nat.lt_or_gt_of_ne hni with hlt | hlt
        · exact absurd (by rw [hxe, q, h2', h3]) (hp i j hi' hjl hlt)
        · exact absurd (by rw [hxe, q, h2', h3]) (hp j i hjl hi' hlt)
      · rintro ⟨hx, hxk⟩
        obtain ⟨i, hi⟩ := List.getElem?_of_mem hx
        refine ⟨i, fun e1 => hxk ?_, hi⟩
        rw [e1, h2] at hi
        cases hi
        exact h3) (by rw [hsub]; exact List.eraseIdx_sublist _ _)
    exact ⟨_, cnt', by simp [Builtin.delete_, run_underlying ht, MapKept.run_getObj_map hb, run_checkKey hkt ik, run_findKey hkt h1, MapKept.run_setObj_map _ hb, Result.andThen], q1, q2, q3⟩
end
end Go.Proofs.YtcnjlbjpeklgkaaGreatDoor
namespace Go.Proofs.YtcnjlbjpeklgkaaGreatDoor
open Go.RowKit Go.MapKept
set_option linter.unusedVariables false
set_option linter.unusedSimpArgs false

theorem mq_clear {P : Program} {w : World} {b : Nat} {f : ByteArray → Option Value} {t k e ty : TypeId} (ht : P.underlying t = some (.map k e)) (h : MqAt w b f) :
    ∃ w', (Builtin.clear_ #[t] ty #[.map (some b)]).run P w = .ok (.tuple #[]) w' ∧ MqAt w' b (fun _ => none) ∧ Out b (b + 1) w w' := by
  obtain ⟨es, clock, hb, hs, hks, hf⟩ := h
  refine ⟨_, by simp [Builtin.clear_, run_underlying ht, MapKept.run_getObj_map hb, MapKept.run_setObj_map _ hb, Result.andThen], ⟨#[], clock, (heap_set hb).1, ?_, by simp, by simp⟩, outq_setBlock hb _⟩
  exact stamped_empty clock
/-- what an assembler knows: its program, whether globals were there, labels, open uses (line, instruction), lines read, the least wrong one -/
structure Low where
  gl : Int
  tx : List (List Int)
  fs : List FnF
  hg : Bool
  L : List Int → Option Int
  U : List Int → List (Nat × Nat)
  line : Nat
  bad : Nat
def ucl (l : List (Nat × Nat)) : List Value := l.flatMap fun u => [Value.int .i64 u.1, Value.int .i64 u.2]
theorem ucl_len (l : List (Nat × Nat)) : (ucl l).length = l.length * 2 := by
  induction l with
  | nil => rfl
  | cons u l ih => simp only [ucl, List.flatMap_cons, List.length_append, List.length_cons, List.length_nil] at ih ⊢; omega
theorem ucl_app (a b : List (Nat × Nat)) : ucl (a ++ b) = ucl a ++ ucl b := by unfold ucl; simp
/-- the open uses in memory -/
def UsAt (w : World) (lo bu : Nat) (U : List Int → List (Nat × Nat)) : Prop := ∃ g : ByteArray → Option Value, MqAt w bu g ∧ (∀ s v, g s = some v → U (bt s) ≠ [] ∧ w.ownsRow lo 118 2 v (U (bt s)).length (ucl (U (bt s)))) ∧ (∀ s, g s = none → U (bt s) = []) ∧ (∀ s t v u k, s ≠ t → g s = some v → g t = some u → v.ownBlock = some k → u.ownBlock ≠ some k)
/-- all of an assembler but its own block -/
def AR (w : World) (p bl bu : Nat) (ta : Option Addr) (tc : Nat) (fa : Option Addr) (fc nt nf : Nat) (vs cs : List Value) (s : Low) : Prop :=
  w.ownsRow (p + 1) 50 1 (.slice ta nt tc) nt vs ∧ TL w (p + 1) [] vs s.tx ∧ Ap vs ∧
  w.ownsRow (p + 1) 39 4 (.slice fa nf fc) nf (fcl s.fs cs) ∧ CL w (p + 1) [] cs s.fs ∧
  MqAt w bl (fun t => (s.L (bt t)).map (Value.int .i64 ·)) ∧ UsAt w (p + 1) bu s.U
/-- its own block -/
def AC (bl bu : Nat) (ta : Option Addr) (tc : Nat) (fa : Option Addr) (fc nt nf : Nat) (s : Low) : Array Value := #[.int .i64 s.gl, .slice ta nt tc, .slice fa nf fc, .bool s.hg, .map (some bl), .map (some bu), .int .i64 (s.line : Int), .int .i64 (s.bad : Int)]
/-- the assembler at p, its maps at bl, bu -/
def AL (w : World) (p bl bu : Nat) (s : Low) : Prop := bl < p ∧ bu < p ∧ bl ≠ bu ∧ ∃ (ta : Option Addr) (tc : Nat) (fa : Option Addr) (fc nt nf : Nat) (vs cs : List Value), nt = s.tx.length ∧ nf = s.fs.length ∧
  Bl w p (AC bl bu ta tc fa fc nt nf s) 77 ∧ AR w p bl bu ta tc fa fc nt nf vs cs s
/-- what an assembler may change: its own block, its maps, rows of its own by their types -/
def OwnT (E : TypeId) : Prop := E = 50 ∨ E = 39 ∨ E = 5 ∨ E = 55 ∨ E = 118
def Sx (p bl bu : Nat) (w : World) (k : Nat) : Prop := k = p ∨ k = bl ∨ k = bu ∨ (p < k ∧ ∃ cs E, Bl w k cs E ∧ OwnT E)
def Fr (p bl bu : Nat) (w w' : World) : Prop := Fx (Sx p bl bu w) w w'
section
variable {p bl bu : Nat} {w w' w2 : World} {s : Low}
theorem Fr.refl (p bl bu : Nat) (w : World) : Fr p bl bu w w := Fx.refl _ _
theorem Fr.trans (h : Fr p bl bu w w') (g : Fr p bl bu w' w2) : Fr p bl bu w w2 :=
  ⟨g.1.trans h.1, g.2.1.trans h.2.1, g.2.2.1.trans h.2.2.1, Nat.le_trans h.size g.size, fun k h1 h2 => by
    have e := h.2.2.2.2 k h1 h2
    refine (g.2.2.2.2 k (Nat.lt_of_lt_of_le h1 h.size) fun q => h2 ?_).trans e
    rcases q with q | q | q | ⟨q1, cs, E, q2, q3⟩
    · exact .inl q
    · exact .inr (.inl q)
    · exact .inr (.inr (.inl q))
    · exact .inr (.inr (.inr ⟨q1, cs, E, e.symm.trans q2, q3⟩))⟩
theorem Fr.quiet (h : Out 0 0 w w') : Fr p bl bu w w' := Fx.of_out h
theorem Fr.then (h : Fr p bl bu w w') (g : Out 0 0 w' w2) : Fr p bl bu w w2 := h.trans (Fr.quiet g)
theorem Fr.size (h : Fr p bl bu w w') : w.heap.size ≤ w'.heap.size := Fx.size h
theorem Fr.own {E : TypeId} {sz n : Nat} {v : Value} {xs : List Value} (hown : w.ownsRow (p + 1) E sz v n xs) (hE : OwnT E) (x : Fx (fun k => v.ownBlock = some k) w w') : Fr p bl bu w w' :=
  x.wide fun k _ hk => by
    have h1 := own_ge hown hk
    rcases hown.2 with ⟨rfl, _⟩ | ⟨g, c, cur, rfl, _, h3, _⟩
    · cases hk
    · cases hk
      exact .inr (.inr (.inr ⟨by omega, cur, E, h3, hE⟩))
theorem Fr.set (i : Nat) (v : Value) : Fr p bl bu w (w.setCell ⟨p, i, none⟩ v) := (Fx.refl _ w).set (p := ⟨p, i, none⟩) (.inl (.inl rfl)) v
theorem Fr.mapl (h : bl < p) (o : Out bl (bl + 1) w w') : Fr p bl bu w w' := ⟨o.1, o.2.1, o.2.2.1, o.size, fun k h1 h2 => o.block h1 (by
  have : k ≠ bl := fun e => h2 (.inr (.inl e))
  omega)⟩
theorem Fr.mapu (h : bu < p) (o : Out bu (bu + 1) w w') : Fr p bl bu w w' := ⟨o.1, o.2.1, o.2.2.1, o.size, fun k h1 h2 => o.block h1 (by
  have : k ≠ bu := fun e => h2 (.inr (.inr (.inl e)))
  omega)⟩
/-- a change elsewhere -/
theorem UsAt.fx {lo : Nat} {U : List Int → List (Nat × Nat)} (h : UsAt w lo bu U) {S : Nat → Prop} (x : Fx S w w') (h1 : ¬ S bu) (h2 : ∀ k cs, lo ≤ k → Bl w k cs 118 → ¬ S k) : UsAt w' lo bu U := by
  obtain ⟨g, k1, k2, k3, k4⟩ := h
  refine ⟨g, ?_, fun s v hs => ⟨(k2 s v hs).1, own_fx (k2 s v hs).2 x fun k hk => ?_⟩, k3, k4⟩
  · obtain ⟨es, clock, hb, r⟩ := k1
    exact ⟨es, clock, x.heap hb h1, r⟩
  · have ho := (k2 s v hs).2
    have := own_ge ho hk
    rcases ho.2 with ⟨rfl, _⟩ | ⟨q, c, cur, rfl, q1, q2, _⟩
    · cases hk
    · cases hk; exact h2 _ cur q1 q2
/-- a change of what lies at p or ahead of it alone -/
theorem AR.fx {ta fa : Option Addr} {tc fc nt nf : Nat} {vs cs : List Value} (h : AR w p bl bu ta tc fa fc nt nf vs cs s) (h1 : bl < p) (h2 : bu < p) {S : Nat → Prop} (x : Fx S w w') (hS : ∀ k, k ≠ p → ¬ S k) : AR w' p bl bu ta tc fa fc nt nf vs cs s := by
  obtain ⟨b2, b3, b4, b5, b6, b7, b8⟩ := h
  refine ⟨own_fx b2 x fun k hk => hS k (by have := (own_ge b2 hk).1; omega), b3.fx x fun j v t k q1 q2 q3 => hS k (by have := ((b3.2 j v t q1 q2).ob q3).1; omega), b4, own_fx b5 x fun k hk => hS k (by have := (own_ge b5 hk).1; omega), b6.fx x fun j v t k q1 q2 q3 => hS k (by have := ((b6.2.1 j v t q1 q2).ob q3).1; omega), ?_, b8.fx x (hS _ (by omega)) fun k _ hk _ => hS k (by omega)⟩
  obtain ⟨es, clock, hb, r⟩ := b7
  exact ⟨es, clock, x.heap hb (hS _ (by omega)), r⟩
theorem AR.set {ta fa : Option Addr} {tc fc nt nf : Nat} {vs cs : List Value} (h : AR w p bl bu ta tc fa fc nt nf vs cs s) (h1 : bl < p) (h2 : bu < p) (i : Nat) (v : Value) : AR (w.setCell ⟨p, i, none⟩ v) p bl bu ta tc fa fc nt nf vs cs s :=
  h.fx h1 h2 (S := fun k => k = p) ((Fx.refl (fun k => k = p) w).set (p := ⟨p, i, none⟩) (.inl rfl) v) fun k hk e => by omega
theorem AR.out {ta fa : Option Addr} {tc fc nt nf : Nat} {vs cs : List Value} (h : AR w p bl bu ta tc fa fc nt nf vs cs s) (h1 : bl < p) (h2 : bu < p) (o : Out 0 0 w w') : AR w' p bl bu ta tc fa fc nt nf vs cs s :=
  h.fx h1 h2 (S := fun _ => False) (Fx.of_out o) fun _ _ q => q
theorem AL.out (h : AL w p bl bu s) (o : Out 0 0 w w') : AL w' p bl bu s := by
  obtain ⟨a1, a2, a3, ta, tc, fa, fc, nt, nf, vs, cs, e1, e2, b1, b2⟩ := h
  exact ⟨a1, a2, a3, ta, tc, fa, fc, nt, nf, vs, cs, e1, e2, b1.kept o (.inr (Nat.zero_le _)), b2.out a1 a2 o⟩
set_option maxRecDepth 100000 in
set_option maxHeartbeats 1000000 in
theorem blame_at {ta fa : Option Addr} {tc fc nt nf : Nat} (b1 : Bl w p (AC bl bu ta tc fa fc nt nf s) 77) (l : Nat) : Calls Tryz.prog 63 #[.pointer (some ⟨p, 0, none⟩), .int .i64 (l : Int)] w fun x w' => x = .returned (.tuple #[]) ∧ Bl w' p (AC bl bu ta tc fa fc nt nf { s with bad := blm s.bad l }) 77 ∧ Out p (p + 1) w w' := by
  have k7 : w.cell? ⟨p, 7, none⟩ = some (.int .i64 (s.bad : Int)) := b1.cell rfl
  have z7 := b1.frozen 7
  have HB := hid_mk b1
  have yes : Hid (blm s.bad l = l → Bl (w.setCell ⟨p, 7, none⟩ (.int .i64 (l : Int))) p (AC bl bu ta tc fa fc nt nf { s with bad := blm s.bad l }) 77 ∧ Out p (p + 1) w (w.setCell ⟨p, 7, none⟩ (.int .i64 (l : Int)))) := hid_mk fun e => ⟨by rw [e]; exact HB.out.set 7 (.int .i64 (l : Int)), (Out.refl _ _ _).setCell (p := ⟨p, 7, none⟩) (.inl ⟨Nat.le_refl _, Nat.lt_succ_self _⟩) _⟩
  clear b1
  by_cases hz : s.bad = 0
  · have h1 : ((s.bad : Int) == 0) = true := by rw [hz]; rfl
    have e : blm s.bad l = l := by unfold blm; rw [if_pos (.inl hz)]
    have HE := hid_mk e
    clear hz e
    go_enter Tryz.func63, Tryz.ntmps63
    go_wp2
    exact bodyPost_end (results_none Tryz.results63 _ _ _) rfl ⟨rfl, yes.out HE.out⟩
  · have h1 : ((s.bad : Int) == 0) = false := by simp only [beq_eq_false_iff_ne, ne_eq]; omega
    by_cases hl : l < s.bad
    · have h2 : decide (l < s.bad) = true := decide_eq_true hl
      have e : blm s.bad l = l := by unfold blm; rw [if_pos (.inr hl)]
      have HE := hid_mk e
      clear hz e hl
      go_enter Tryz.func63, Tryz.ntmps63
      go_wp2
      exact bodyPost_end (results_none Tryz.results63 _ _ _) rfl ⟨rfl, yes.out HE.out⟩
    · have h2 : decide (l < s.bad) = false := decide_eq_false hl
      have e : blm s.bad l = s.bad := by unfold blm; rw [if_neg (by omega)]
      have HE2 := hid_mk e
      clear hz e hl yes
      go_enter Tryz.func63, Tryz.ntmps63
      go_wp2
      refine bodyPost_end (results_none Tryz.results63 _ _ _) rfl ⟨rfl, ?_, Out.refl _ _ _⟩
      rw [HE2.out]
      exact HB.out
theorem Fr.pp (o : Out p (p + 1) w w') : Fr p bl bu w w' := ⟨o.1, o.2.1, o.2.2.1, o.size, fun k h1 h2 => o.block h1 (by
  have : k ≠ p := fun e => h2 (.inl e)
  omega)⟩
theorem AR.pp {ta fa : Option Addr} {tc fc nt nf : Nat} {vs cs : List Value} (h : AR w p bl bu ta tc fa fc nt nf vs cs s) (h1 : bl < p) (h2 : bu < p) (o : Out p (p + 1) w w') : AR w' p bl bu ta tc fa fc nt nf vs cs s :=
  h.fx h1 h2 (S := fun k => k = p) ⟨o.1, o.2.1, o.2.2.1, o.size, fun k k1 k2 => o.block k1 (by omega)⟩ fun k hk e => by omega
/-- a wrong line is noted -/
theorem blame_any (h : AL w p bl bu s) (l : Nat) : Calls Tryz.prog 63 #[.pointer (some ⟨p, 0, none⟩), .int .i64 (l : Int)] w fun x w' => x = .returned (.tuple #[]) ∧ AL w' p bl bu { s with bad := blm s.bad l } ∧ Fr p bl bu w w' := by
  obtain ⟨a1, a2, a3, ta, tc, fa, fc, nt, nf, vs, cs, e1, e2, b1, b2⟩ := h
  exact (blame_at b1 l).mono fun x w' ⟨h1, h2, h3⟩ => ⟨h1, ⟨a1, a2, a3, ta, tc, fa, fc, nt, nf, vs, cs, e1, e2, h2, b2.pp a1 a2 h3⟩, Fr.pp h3⟩
set_option maxRecDepth 100000 in
/-- is a function open? -/
theorem inf_any (h : AL w p bl bu s) : Calls Tryz.prog 100 #[.pointer (some ⟨p, 0, none⟩)] w fun x w' => x = .returned (.bool (decide (s.fs ≠ []))) ∧ w' = w := by
  obtain ⟨a1, a2, a3, ta, tc, fa, fc, nt, nf, vs, cs, e1, e2, b1, b2⟩ := h
  have k2 : w.cell? ⟨p, 2, none⟩ = some (.slice fa nf fc) := b1.cell rfl
  have HE : Hid (decide ((0 : Int) < (nf : Int)) = decide (s.fs ≠ [])) := hid_mk (by
    rw [Bool.eq_iff_iff]
    simp only [decide_eq_true_eq]
    rw [e2]
    cases s.fs <;> simp)
  clear a1 a2 a3 e1 e2 b1 b2
  go_enter Tryz.func100, Tryz.ntmps100
  go_wp2
  go_ret
  refine ⟨ret_bool ?_, rfl⟩
  rw [← HE.out]
  simp
end
end Go.Proofs.YtcnjlbjpeklgkaaGreatDoor
