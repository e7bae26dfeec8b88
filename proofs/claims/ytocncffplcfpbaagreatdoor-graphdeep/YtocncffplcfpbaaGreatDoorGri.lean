/- maps keyed by whole numbers: a range over one, with a delete in it -/
import Derived.Test.YtocncffplcfpbaaGreatDoorGrh
import Derived.Maps.Range
namespace Go.Proofs.YtocncffplcfpbaaGreatDoor
open Go.RowKit Go.MapKept Go.ChangeMaps
set_option linter.unusedVariables false
set_option linter.unusedSimpArgs false

/-- block r goes over the map m: f what is in it, L what is still to come, cnt how many -/
def RG (w : World) (m r : Nat) (f : Int → Option Value) (L : Int → Bool) (cnt : Nat) : Prop :=
  ∃ es clock since seen c0, w.heap[m]? = some (.map es clock) ∧ Stamped es clock ∧ (∀ x ∈ es.toList, ∃ a, x.key = .int .i64 a) ∧ (∀ a v, f a = some v ↔ ∃ x ∈ es.toList, x.key = .int .i64 a ∧ x.val = v) ∧
    w.heap[r]? = some (.mapIter (some m) since seen c0) ∧ (∀ x ∈ es.toList, x.born < since) ∧ since ≤ c0 ∧ since ≤ clock ∧ (leftOf es seen).size = cnt ∧ ∀ x ∈ es.toList, ∀ a, x.key = .int .i64 a → L a = !seen.contains x.born
section
variable {w w' : World} {m r cnt : Nat} {f : Int → Option Value} {L : Int → Bool}
theorem RG.mp (h : RG w m r f L cnt) : MpAt w m f := by
  obtain ⟨es, clock, since, seen, c0, hb, hs, hk, hf, _⟩ := h
  exact ⟨es, clock, hb, hs, hk, hf⟩
theorem RG.ne (h : RG w m r f L cnt) : r ≠ m := by
  obtain ⟨es, clock, since, seen, c0, hb, hs, hk, hf, hr, _⟩ := h
  intro e
  rw [e, hb] at hr
  cases hr
theorem RG.lt (h : RG w m r f L cnt) : r < w.heap.size := by
  obtain ⟨es, clock, since, seen, c0, hb, hs, hk, hf, hr, _⟩ := h
  exact heap_lt hr
theorem RG.left (h : RG w m r f L cnt) : w.rangeLeft m r = cnt := by
  obtain ⟨es, clock, since, seen, c0, hb, hs, hk, hf, hr, _, _, _, hc, _⟩ := h
  simp only [World.rangeLeft, hb, hr]
  exact hc
theorem RG.fx {S : Nat → Prop} (h : RG w m r f L cnt) (x : Fx S w w') (h1 : ¬ S m) (h2 : ¬ S r) : RG w' m r f L cnt := by
  obtain ⟨es, clock, since, seen, c0, hb, hs, hk, hf, hr, rest⟩ := h
  exact ⟨es, clock, since, seen, c0, x.heap hb h1, hs, hk, hf, x.heap hr h2, rest⟩
theorem RG.quiet (h : RG w m r f L cnt) (x : Out 0 0 w w') : RG w' m r f L cnt := h.fx (Fx.of_out (S := fun _ => False) x) id id
variable {P : Program}
theorem RG.start {t k e : TypeId} (h : MpAt w m f) (ht : P.underlying t = some (.map k e)) : ∃ w' cnt, (Instr.range t (.map (some m))).run P w = .ok (.pointer (some ⟨w.heap.size, 0, none⟩)) w' ∧ RG w' m w.heap.size f (fun _ => true) cnt ∧ Out 0 0 w w' := by
  have hlt := h.lt
  obtain ⟨es, clock, hb, hs, hk, hf⟩ := h
  refine ⟨_, _, run_range_map w t k e m es clock ht hb, ⟨es, clock, clock, #[], clock, ((MapKept.heap_alloc w _).2 m hlt).trans hb, hs, hk, hf, (MapKept.heap_alloc w _).1, ((stamped_iff es clock).1 hs).1, Nat.le_refl _, Nat.le_refl _, rfl, fun x hx a ha => by simp⟩, (Out.refl 0 0 w).alloc _⟩
theorem RG.next (h : RG w m r f L cnt) (ty : TypeId) :
    ((∀ a v, f a = some v → L a = false) ∧ (Instr.next (.pointer (some ⟨r, 0, none⟩)) false ty).run P w = .ok (.tuple #[.bool false]) w) ∨
    ∃ a v w' cnt', f a = some v ∧ L a = true ∧ (Instr.next (.pointer (some ⟨r, 0, none⟩)) false ty).run P w = .ok (.tuple #[.bool true, .int .i64 a, v]) w' ∧ RG w' m r f (fun x => L x && x != a) cnt' ∧ cnt' < cnt ∧ Fx (fun k => k = r) w w' ∧ (Instr.entry (.pointer (some ⟨r, 0, none⟩))).run P w' = .ok (.tuple #[.int .i64 a, v]) w' := by
  have hne := h.ne
  obtain ⟨es, clock, since, seen, c0, hb, hs, hk, hf, hr, hold, hsc, hsk, rfl, hL⟩ := h
  have hst := (stamped_iff es clock).1 hs
  rcases run_next_at (P := P) w ty r m since c0 seen es clock hr hb hold hsc with ⟨h0, hrun⟩ | ⟨e, he, w1, hal, hrun⟩
  · refine Or.inl ⟨fun a v hv => ?_, hrun⟩
    obtain ⟨x, hx, hxk, _⟩ := (hf a v).1 hv
    rw [hL x hx a hxk, all_seen es seen h0 x hx]
    rfl
  · obtain ⟨hem, hes⟩ := mem_left he
    obtain ⟨a, ha⟩ := hk e hem
    have hr1 : w1.heap[r]? = some (.mapIter (some m) since seen c0) := by rcases hal with rfl | rfl <;> exact hr
    have hb1 : w1.heap[m]? = some (.map es clock) := by rcases hal with rfl | rfl <;> exact hb
    have hset := heap_set (o' := .mapIter (some m) since (seen.push e.born) clock) hr1
    have hb' : (setBlock w1 r (.mapIter (some m) since (seen.push e.born) clock)).heap[m]? = some (.map es clock) := (hset.2 m (fun e1 => hne e1.symm)).trans hb1
    have hen := run_entry_at (P := P) _ r m since seen es clock e hset.1 hb' hem hst.2.1
    rw [ha] at hrun hen
    refine Or.inr ⟨a, e.val, _, _, (hf a _).2 ⟨e, hem, ha, rfl⟩, by rw [hL e hem a ha, hes]; rfl, hrun, ⟨es, clock, since, seen.push e.born, clock, hb', hs, hk, hf, hset.1, hold, hsk, hsk, rfl, fun x hx b hbk => ?_⟩, left_shrinks es seen e he, ?_, hen⟩
    · show (L b && b != a) = _
      rw [hL x hx b hbk, contains_push]
      by_cases hxe : x.born = e.born
      · obtain rfl := born_inj hst.2.1 hx hem hxe
        rw [ha] at hbk
        simp at hbk
        subst hbk
        simp
      · have hba : b ≠ a := fun q => by
          subst q
          exact hxe (congrArg MapEntry.born (entry_eq_of_key hst.2.2 hx hem (hbk.trans ha.symm)))
        have e1 : (x.born == e.born) = false := by simp [hxe]
        have e2 : (b != a) = true := by simpa using hba
        rw [e1, e2]
        cases seen.contains x.born <;> rfl
    · rcases hal with rfl | rfl <;> exact ⟨rfl, rfl, rfl, by simp [setBlock], fun i _ hi => hset.2 i hi⟩
theorem RG.del {t k e ty : TypeId} (ht : P.underlying t = some (.map k e)) (hkt : P.underlying k = some (.int .i64)) (h : RG w m r f L cnt) (a : Int) :
    ∃ w' cnt', (Builtin.delete_ #[t, k] ty #[.map (some m), .int .i64 a]).run P w = .ok (.tuple #[]) w' ∧ RG w' m r (fun x => if x = a then none else f x) L cnt' ∧ cnt' ≤ cnt ∧ Fx (fun k => k = m) w w' := by
  have hne := h.ne
  obtain ⟨es, clock, since, seen, c0, hb, hs, hk, hf, hr, hold, hsc, hsk, rfl, hL⟩ := h
  have ik : IsKey (.int .i64) (.int .i64 a) := rfl
  have fin : ∀ es' : Array MapEntry, Stamped es' clock → (∀ x, x ∈ es'.toList ↔ (x ∈ es.toList ∧ x.key ≠ .int .i64 a)) → es'.toList.Sublist es.toList → ∃ cnt', RG { w with heap := w.heap.setIfInBounds m (.map es' clock) } m r (fun x => if x = a then none else f x) L cnt' ∧ cnt' ≤ (leftOf es seen).size ∧ Fx (fun k => k = m) w { w with heap := w.heap.setIfInBounds m (.map es' clock) } := by
    intro es' hs' hw hsub
    have hset := heap_set (o' := .map es' clock) hb
    refine ⟨_, ⟨es', clock, since, seen, c0, hset.1, hs', fun x hx => hk x ((hw x).1 hx).1, fun b v => ?_, (hset.2 r hne).trans hr, fun x hx => hold x ((hw x).1 hx).1, hsc, hsk, rfl, fun x hx b hbk => hL x ((hw x).1 hx).1 b hbk⟩, ?_, ⟨rfl, rfl, rfl, by simp, fun k h1 h2 => hset.2 k h2⟩⟩
    · show (if b = a then none else f b) = some v ↔ _
      by_cases eb : b = a
      · subst eb
        rw [if_pos rfl]
        constructor
        · intro hv; cases hv
        · rintro ⟨x, hx, hxk, _⟩
          exact absurd hxk ((hw x).1 hx).2
      · rw [if_neg eb, hf]
        constructor
        · rintro ⟨x, hx, hxk, hxv⟩
          exact ⟨x, (hw x).2 ⟨hx, fun q => eb (by rw [q] at hxk; simp at hxk; exact hxk.symm)⟩, hxk, hxv⟩
        · rintro ⟨x, hx, hxk, hxv⟩
          exact ⟨x, ((hw x).1 hx).1, hxk, hxv⟩
    · have e1 : ∀ a : Array MapEntry, (leftOf a seen).size = (a.toList.filter fun e => !seen.contains e.born).length := fun a => by
        unfold leftOf
        rw [← Array.toList_filter, Array.length_toList]
      rw [e1, e1]
      exact (hsub.filter _).length_le
  rcases findNow_spec ik es.toList 0 (MpAt.isKeys hk) with ⟨h1, h2⟩ | ⟨j, e0, h1, h2, h3⟩
  · obtain ⟨cnt', q1, q2, q3⟩ := fin es hs (fun x => ⟨fun hx => ⟨hx, h2 x hx⟩, fun hx => hx.1⟩) (List.Sublist.refl _)
    exact ⟨_, cnt', by simp [Builtin.delete_, run_underlying ht, MapKept.run_getObj_map hb, run_checkKey hkt ik, run_findKey hkt h1, MapKept.run_setObj_map _ hb, Result.andThen], q1, q2, q3⟩
  · have hjl : j < es.toList.length := (List.getElem?_eq_some_iff.1 h2).1
    have hjs : j < es.size := by simpa using hjl
    have hsub : (es.eraseIdxIfInBounds j).toList = es.toList.eraseIdx j := by
      unfold Array.eraseIdxIfInBounds
      rw [dif_pos hjs]
      simp
    have hst := (stamped_iff es clock).1 hs
    obtain ⟨cnt', q1, q2, q3⟩ := fin (es.eraseIdxIfInBounds j) (stamped_erase hs j) (fun x => by
      rw [hsub, List.mem_eraseIdx_iff_getElem?]
      constructor
      · rintro ⟨i, hni, hi⟩
        refine ⟨List.mem_of_getElem? hi, fun q => ?_⟩
        have hp := hst.2.2
        rw [List.pairwise_iff_getElem] at hp
        obtain ⟨hi', hxe⟩ := List.getElem?_eq_some_iff.1 hi
        have h2' := (List.getElem?_eq_some_iff.1 h2).2
        rcases Nat.lt_or_gt_of_ne hni with hlt | hlt
        · exact absurd (by rw [hxe, q, h2', h3]) (hp i j hi' hjl hlt)
        · exact absurd (by rw [hxe, q, h2', h3]) (hp j i hjl hi' hlt)
      · rintro ⟨hx, hxk⟩
        obtain ⟨i, hi⟩ := List.getElem?_of_mem hx
        refine ⟨i, fun e1 => hxk ?_, hi⟩
        rw [e1, h2] at hi
        cases hi
        exact h3) (by rw [hsub]; exact List.eraseIdx_sublist _ _)
    exact ⟨_, cnt', by simp [Builtin.delete_, run_underlying ht, MapKept.run_getObj_map hb, run_checkKey hkt ik, run_findKey hkt h1, MapKept.run_setObj_map _ hb, Result.andThen], q1, q2, q3⟩
end
end Go.Proofs.YtocncffplcfpbaaGreatDoor
