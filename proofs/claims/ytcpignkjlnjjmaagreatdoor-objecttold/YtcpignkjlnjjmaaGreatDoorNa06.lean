import Derived.Test.YtcpignkjlnjjmaaGreatDoorNa00
import Derived.Maps.OwnSet
import Derived.Test.YtcpignkjlnjjmaaGreatDoorNa05
import Derived.Deep.OwnRows
namespace Go.Proofs.YtcpignkjlnjjmaaGreatDoor
open Go.RowKit Go.MapKept
open Go.ChangeMaps (setBlock)
set_option linter.unusedVariables false
set_option linter.unusedSimpArgs false

/-- block b is a map: at the key a 'f a' -/
def MpAt (w : World) (b : Nat) (f : Int → Option Value) : Prop :=
  ∃ es clock, w.heap[b]? = some (.map es clock) ∧ Stamped es clock ∧ (∀ x ∈ es.toList, ∃ a, x.key = .int .i64 a) ∧ ∀ a v, f a = some v ↔ ∃ x ∈ es.toList, x.key = .int .i64 a ∧ x.val = v
theorem MpAt.lt {w : World} {b : Nat} {f : Int → Option Value} (h : MpAt w b f) : b < w.heap.size := by
  obtain ⟨es, clock, hb, _⟩ := h
  exact heap_lt hb
theorem MpAt.kept {w w' : World} {b lo hi : Nat} {f : Int → Option Value} (h : MpAt w b f) (o : Out lo hi w w') (hd : b < lo ∨ hi ≤ b) : MpAt w' b f := by
  obtain ⟨es, clock, hb, r⟩ := h
  exact ⟨es, clock, o.heap hb hd, r⟩
theorem MpAt.congr {w : World} {b : Nat} {f g : Int → Option Value} (h : MpAt w b f) (e : ∀ a, f a = g a) : MpAt w b g := by
  have : f = g := funext e
  rw [← this]; exact h
theorem mp_new (w : World) : MpAt (w.alloc (.map #[] 0)) w.heap.size (fun _ => none) :=
  ⟨#[], 0, (heap_alloc w _).1, stamped_empty 0, by simp, by simp⟩
theorem MpAt.isKeys {es : Array MapEntry} (h : ∀ x ∈ es.toList, ∃ a, x.key = .int .i64 a) : ∀ x ∈ es.toList, IsKey (.int .i64) x.key := fun x hx => by
  obtain ⟨a, e⟩ := h x hx
  rw [e]; exact rfl
section
variable {P : Program} {w : World} {t k e : TypeId} {b : Nat} {f : Int → Option Value}
theorem mp_look (c : Bool) (ht : P.underlying t = some (.map k e)) (hk : P.underlying k = some (.int .i64)) {z : Value} (hz : (zeroValue e).run P w = .ok z w) (h : MpAt w b f) (a : Int) :
    (Instr.lookup t (.map (some b)) (.int .i64 a) c).run P w = .ok (if c then .tuple #[(f a).getD z, .bool (f a).isSome] else (f a).getD z) w := by
  obtain ⟨es, clock, hb, hs, hks, hf⟩ := h
  have ik : IsKey (.int .i64) (.int .i64 a) := rfl
  rcases findNow_spec ik es.toList 0 (MpAt.isKeys hks) with ⟨h1, h2⟩ | ⟨j, e0, h1, h2, h3⟩
  · have hn : f a = none := by
      cases hfa : f a with
      | none => rfl
      | some v =>
        obtain ⟨x, hx, hxk, _⟩ := (hf a v).1 hfa
        exact absurd hxk (h2 x hx)
    simp [Instr.lookup, run_underlying ht, MapKept.run_getObj_map hb, run_checkKey hk ik, run_findKey hk h1, hz, hn, Result.andThen]
  · have hv : f a = some e0.val := (hf a _).2 ⟨e0, List.mem_of_getElem? h2, h3, rfl⟩
    simp [Instr.lookup, run_underlying ht, MapKept.run_getObj_map hb, run_checkKey hk ik, run_findKey hk h1, hv, Result.andThen]
theorem out_setBlock {es : Array MapEntry} {clock : Nat} (hb : w.heap[b]? = some (.map es clock)) (o : Obj) : Out b (b + 1) w { w with heap := w.heap.setIfInBounds b o } :=
  ⟨rfl, rfl, rfl, by simp, fun j h1 h2 => (heap_set (o' := o) hb).2 j (by omega)⟩
theorem mp_put (ht : P.underlying t = some (.map k e)) (hk : P.underlying k = some (.int .i64)) (h : MpAt w b f) (a : Int) (v : Value) :
    ∃ w', (Instr.mapUpdate t (.map (some b)) (.int .i64 a) v).run P w = .ok () w' ∧ MpAt w' b (fun x => if x = a then some v else f x) ∧ Out b (b + 1) w w' := by
  obtain ⟨es, clock, hb, hs, hks, hf⟩ := h
  have ik : IsKey (.int .i64) (.int .i64 a) := rfl
  rcases findNow_spec ik es.toList 0 (MpAt.isKeys hks) with ⟨h1, h2⟩ | ⟨j, e0, h1, h2, h3⟩
  · refine ⟨_, by simp [Instr.mapUpdate, run_underlying ht, MapKept.run_getObj_map hb, run_checkKey hk ik, run_findKey hk h1, MapKept.run_setObj_map _ hb, Result.andThen]; rfl, ⟨_, _, (heap_set hb).1, stamped_push hs h2, ?_, ?_⟩, out_setBlock hb _⟩
    · intro x hx
      simp only [Array.toList_push, List.mem_append, List.mem_singleton] at hx
      rcases hx with hx | rfl
      · exact hks x hx
      · exact ⟨a, rfl⟩
    · intro a' v'
      show (if a' = a then some v else f a') = some v' ↔ _
      by_cases ea : a' = a
      · subst ea
        rw [if_pos rfl]
        constructor
        · intro hv
          cases hv
          exact ⟨⟨_, _, clock⟩, by simp, rfl, rfl⟩
        · rintro ⟨x, hx, hxk, rfl⟩
          simp only [Array.toList_push, List.mem_append, List.mem_singleton] at hx
          rcases hx with hx | rfl
          · exact absurd hxk (h2 x hx)
          · rfl
      · rw [if_neg ea, hf]
        constructor
        · rintro ⟨x, hx, hxk, hxv⟩
          exact ⟨x, by simp [hx], hxk, hxv⟩
        · rintro ⟨x, hx, hxk, hxv⟩
          simp only [Array.toList_push, List.mem_append, List.mem_singleton] at hx
          rcases hx with hx | rfl
          · exact ⟨x, hx, hxk, hxv⟩
          · simp at hxk
            exact absurd hxk.symm ea
  · have hj : es[j]? = some e0 := by simpa using h2
    have hjl : j < es.toList.length := (List.getElem?_eq_some_iff.1 h2).1
    have hkey : ∀ e', es[j]? = some e' → ({ e' with key := .int .i64 a, val := v } : MapEntry).key = e'.key := fun e' he' => by rw [hj] at he'; cases he'; exact h3.symm
    have hlist : (es.modify j (fun e' => { e' with key := .int .i64 a, val := v })).toList = es.toList.set j { e0 with key := .int .i64 a, val := v } := by rw [Array.toList_modify, ChangeMaps.modify_eq_set _ _ _ _ h2]
    have hapart : ∀ x ∈ es.toList, x.key = .int .i64 a → x = e0 := by
      intro x hx hxk
      obtain ⟨i, hi, rfl⟩ := List.getElem_of_mem hx
      by_cases e1 : i = j
      · subst e1
        rw [List.getElem?_eq_getElem hi] at h2
        exact Option.some.inj h2
      · have hp := ((stamped_iff es clock).1 hs).2.2
        rw [List.pairwise_iff_getElem] at hp
        rw [List.getElem?_eq_getElem hjl] at h2
        have h2' := Option.some.inj h2
        rcases Nat.lt_or_gt_of_ne e1 with hlt | hlt
        · exact absurd (by rw [hxk, h2', h3]) (hp i j hi hjl hlt)
        · exact absurd (by rw [hxk, h2', h3]) (hp j i hjl hi hlt)
    refine ⟨{ w with heap := w.heap.setIfInBounds b (.map (es.modify j (fun e' => { e' with key := .int .i64 a, val := v })) clock) }, by simp [Instr.mapUpdate, run_underlying ht, MapKept.run_getObj_map hb, run_checkKey hk ik, run_findKey hk h1, hj, h3, run_keyThatStays ik, MapKept.run_setObj_map _ hb, Result.andThen], ⟨es.modify j (fun e' => { e' with key := .int .i64 a, val := v }), clock, (heap_set hb).1, stamped_modify hs _ _ (fun _ _ => rfl) (fun e' _ he' => hkey e' he'), ?_, ?_⟩, out_setBlock hb _⟩
    · intro x hx
      rw [hlist] at hx
      rcases List.mem_or_eq_of_mem_set hx with hx | rfl
      · exact hks x hx
      · exact ⟨a, rfl⟩
    · intro a' v'
      rw [hlist]
      show (if a' = a then some v else f a') = some v' ↔ _
      by_cases ea : a' = a
      · subst ea
        rw [if_pos rfl]
        constructor
        · intro hv
          cases hv
          exact ⟨_, List.mem_set hjl _, rfl, rfl⟩
        · rintro ⟨x, hx, hxk, rfl⟩
          obtain ⟨i, hi, rfl⟩ := List.getElem_of_mem hx
          rw [List.getElem_set] at hxk ⊢
          by_cases e1 : j = i
          · simp [e1]
          · rw [if_neg e1] at hxk ⊢
            have hi' : i < es.toList.length := by simpa using hi
            have := hapart _ (List.getElem_mem hi') hxk
            have hp := ((stamped_iff es clock).1 hs).2.2
            rw [List.pairwise_iff_getElem] at hp
            rw [List.getElem?_eq_getElem hjl] at h2
            have h2' := Option.some.inj h2
            rcases Nat.lt_or_gt_of_ne e1 with hlt | hlt
            · exact absurd (by rw [hxk, h2', h3]) (hp j i hjl hi' hlt)
            · exact absurd (by rw [hxk, h2', h3]) (hp i j hi' hjl hlt)
      · rw [if_neg ea, hf]
        constructor
        · rintro ⟨x, hx, hxk, hxv⟩
          obtain ⟨i, hi, rfl⟩ := List.getElem_of_mem hx
          by_cases e1 : j = i
          · subst e1
            rw [List.getElem?_eq_getElem hjl] at h2
            rw [Option.some.inj h2, h3] at hxk
            simp at hxk
            exact absurd hxk.symm ea
          · refine ⟨es.toList[i], List.mem_iff_getElem.2 ⟨i, by simpa using hi, by rw [List.getElem_set, if_neg e1]⟩, hxk, hxv⟩
        · rintro ⟨x, hx, hxk, hxv⟩
          rcases List.mem_or_eq_of_mem_set hx with hx | rfl
          · exact ⟨x, hx, hxk, hxv⟩
          · simp at hxk
            exact absurd hxk.symm ea
theorem mp_del {ty : TypeId} (ht : P.underlying t = some (.map k e)) (hk : P.underlying k = some (.int .i64)) (h : MpAt w b f) (a : Int) :
    ∃ w', (Builtin.delete_ #[t, k] ty #[.map (some b), .int .i64 a]).run P w = .ok (.tuple #[]) w' ∧ MpAt w' b (fun x => if x = a then none else f x) ∧ Out b (b + 1) w w' := by
  obtain ⟨es, clock, hb, hs, hks, hf⟩ := h
  have ik : IsKey (.int .i64) (.int .i64 a) := rfl
  rcases findNow_spec ik es.toList 0 (MpAt.isKeys hks) with ⟨h1, h2⟩ | ⟨j, e0, h1, h2, h3⟩
  · refine ⟨_, by simp [Builtin.delete_, run_underlying ht, MapKept.run_getObj_map hb, run_checkKey hk ik, run_findKey hk h1, MapKept.run_setObj_map _ hb, Result.andThen]; rfl, ?_⟩
    have hn : f a = none := by
      cases hfa : f a with
      | none => rfl
      | some v =>
        obtain ⟨x, hx, hxk, _⟩ := (hf a v).1 hfa
        exact absurd hxk (h2 x hx)
    first
      | exact ⟨MpAt.congr ⟨es, clock, hb, hs, hks, hf⟩ (fun x => by by_cases ex : x = a <;> simp [ex, hn]), Out.refl _ _ _⟩
      | exact ⟨MpAt.congr ⟨es, clock, (heap_set hb).1, hs, hks, hf⟩ (fun x => by by_cases ex : x = a <;> simp [ex, hn]), out_setBlock hb _⟩
  · have hjl : j < es.toList.length := (List.getElem?_eq_some_iff.1 h2).1
    have hjs : j < es.size := by simpa using hjl
    have hsub : (es.eraseIdxIfInBounds j).toList = es.toList.eraseIdx j := by
      unfold Array.eraseIdxIfInBounds
      rw [dif_pos hjs]
      simp
    refine ⟨_, by simp [Builtin.delete_, run_underlying ht, MapKept.run_getObj_map hb, run_checkKey hk ik, run_findKey hk h1, MapKept.run_setObj_map _ hb, Result.andThen], ⟨_, _, (heap_set hb).1, stamped_erase hs j, ?_, ?_⟩, out_setBlock hb _⟩
    · intro x hx
      rw [hsub] at hx
      exact hks x ((List.eraseIdx_sublist _ _).subset hx)
    · intro a' v'
      rw [hsub]
      have hp := ((stamped_iff es clock).1 hs).2.2
      rw [List.pairwise_iff_getElem] at hp
      rw [List.getElem?_eq_getElem hjl] at h2
      have h2' := Option.some.inj h2
      show (if a' = a then none else f a') = some v' ↔ _
      by_cases ea : a' = a
      · subst ea
        rw [if_pos rfl]
        constructor
        · intro hv; cases hv
        · rintro ⟨x, hx, hxk, _⟩
          obtain ⟨i, hne, hi⟩ := List.mem_eraseIdx_iff_getElem?.1 hx
          obtain ⟨hi', hxe⟩ := List.getElem?_eq_some_iff.1 hi
          rcases Nat.lt_or_gt_of_ne hne with hlt | hlt
          · exact absurd (by rw [hxe, hxk, h2', h3]) (hp i j hi' hjl hlt)
          · exact absurd (by rw [hxe, hxk, h2', h3]) (hp j i hjl hi' hlt)
      · rw [if_neg ea, hf]
        constructor
        · rintro ⟨x, hx, hxk, hxv⟩
          obtain ⟨i, hi, rfl⟩ := List.getElem_of_mem hx
          refine ⟨_, List.mem_eraseIdx_iff_getElem?.2 ⟨i, fun e1 => ?_, List.getElem?_eq_getElem hi⟩, hxk, hxv⟩
          subst e1
          rw [h2', h3] at hxk
          simp at hxk
          exact ea hxk.symm
        · rintro ⟨x, hx, hxk, hxv⟩
          exact ⟨x, (List.eraseIdx_sublist _ _).subset hx, hxk, hxv⟩
end
end Go.Proofs.YtcpignkjlnjjmaaGreatDoor
namespace Go.Proofs.YtcpignkjlnjjmaaGreatDoor
open Go.RowKit
set_option linter.unusedVariables false
set_option linter.unusedSimpArgs false

theorem elem_pages : Tryz.prog.elem 61 = 119 := by kernel_rfl
theorem size_page (w : World) : (sizeOf 119).run Tryz.prog w = .ok 3 w := by kernel_rfl
/-- a piece of a list: where it begins counts for nothing if it is empty -/
theorem slice_at (bw n cap lo hi : Nat) (h1 : lo ≤ hi) (h2 : hi ≤ cap) : ∃ o cp : Nat, (∀ wx, (Instr.slice 61 (.slice (some ⟨bw, 0, none⟩) n cap) (some (.int .i64 (lo : Int))) (some (.int .i64 (hi : Int))) none).run Tryz.prog wx = .ok (.slice (some ⟨bw, o, none⟩) (hi - lo) cp) wx) ∧ (0 < hi - lo → o = lo * 3) := by
  by_cases e : cap = lo
  · refine ⟨0, cap - lo, fun wx => ?_, fun h => by omega⟩
    rw [run_slice_lh wx 61 _ n cap (by rw [elem_pages]; exact Tryz.underlying61) .i64 .i64 (lo : Int) (hi : Int) (by omega) (by omega) (by omega), elem_pages, size_page]
    simp [Result.andThen, sliced, e]
  · refine ⟨lo * 3, cap - lo, fun wx => ?_, fun h => rfl⟩
    rw [run_slice_lh wx 61 _ n cap (by rw [elem_pages]; exact Tryz.underlying61) .i64 .i64 (lo : Int) (hi : Int) (by omega) (by omega) (by omega), elem_pages, size_page]
    have e2 : (⟨bw, 0, none⟩ : Addr).add (lo * 3) = ⟨bw, lo * 3, none⟩ := by rw [Addr.add_lit, Nat.zero_add]
    simp [Result.andThen, sliced, e, e2]
theorem fill_zero {w : World} {a : Option Addr} {cap : Nat} (x y z : Int) :
    Calls Tryz.prog 108 #[.slice a 0 cap, .agg #[.int .i64 x, .int .i64 y, .int .i64 z]] w fun e w' => e = .returned (.tuple #[]) ∧ Out 0 0 w w' := by
  go_enter Tryz.func108, Tryz.ntmps108
  go_wp2_with fail
  go_loopw [7] (fun u wr => u = .int .i64 0 ∧ Out 0 0 w wr) (fun u _ => 0)
  case atStart => exact ⟨rfl, (Out.refl _ _ _).alloc _⟩
  case round =>
    obtain ⟨rfl, ho⟩ := hrel
    have HO := hid_mk ho
    clear ho
    go_wp2
    exact bodyPost_end (results_none Tryz.results108 _ _ _) rfl ⟨rfl, HO.out⟩
theorem fill_at {w : World} {bw n p k o cap : Nat} {S : Nat → Int × Int × Int} (hr : PRow w bw n S) (hpk : p + k ≤ n) (hn : n ≤ 4096) (ho : 0 < k → o = p * 3) (x y z : Int) :
    Calls Tryz.prog 108 #[.slice (some ⟨bw, o, none⟩) k cap, .agg #[.int .i64 x, .int .i64 y, .int .i64 z]] w fun e w' => e = .returned (.tuple #[]) ∧ PRow w' bw n (putA S p k (x, y, z)) ∧ Out bw (bw + 1) w w' := by
  by_cases h0 : 0 < k
  · rw [ho h0]; exact fill_any hr hpk hn x y z
  · have : k = 0 := by omega
    subst this
    rw [putA_zero]
    exact (fill_zero x y z).mono fun e w' ⟨h1, h2⟩ => ⟨h1, hr.kept h2 (.inr (Nat.zero_le _)), h2.any _ _⟩
set_option maxRecDepth 100000 in
set_option maxHeartbeats 4000000 in
theorem takeRun_some {w : World} {b bw n : Nat} {S : Nat → Int × Int × Int} (h : TblAt 126 w b bw n S) (hT : Tab w) (k : Nat) (h1 : 1 ≤ k) (h2 : k ≤ 16) (p : Nat) (hf : rowF S n k = some p) :
    Calls Tryz.prog 98 #[.pointer (some ⟨b, 0, none⟩), .int .i64 k] w fun e w' => e = .returned (.tuple #[.int .i64 p, .int .i64 0]) ∧ TblAt 126 w' b bw n (setR S p k) ∧ Out bw (bw + 1) w w' := by
  have hn := h.nums
  have HH := hid_mk h
  have HT := hid_mk hT
  have HR : Hid (Calls Tryz.prog 107 #[.pointer (some ⟨b, 0, none⟩), .int .i64 k] w fun e w' => e = .returned (.tuple #[.int .i64 p, .bool true]) ∧ Out 0 0 w w') := by
    obtain ⟨cap, c0, _⟩ := HH.out.cell
    have := row_any c0 HT.out ⟨hn.1, hn.2.1⟩ HH.out.row HH.out.good k h1 h2
    rw [hf] at this
    exact this
  obtain ⟨p1, p2, p3⟩ := rowF_pages HH.out.good hf
  have p4 := p3 p (Nat.le_refl _) (by omega)
  have HG := hid_mk (good_setR HH.out.good p3 h1 h2 p2)
  have b0 : (0 : Int) ≤ (p : Int) := by omega
  have b1 : (p : Int) < (n : Int) := by omega
  have b2 : (n : Int) ≤ 4096 := by omega
  have b3 : (1 : Int) ≤ (k : Int) := by omega
  have b4 : (k : Int) ≤ 16 := by omega
  have b5 : (p : Int) + (k : Int) ≤ (n : Int) := by omega
  have HP := hid_mk p1
  have HP4 := hid_mk p4
  have HB : Hid (4 ≤ b ∧ 4 ≤ bw ∧ bw ≠ b) := ⟨hn.2.2.1, hn.2.2.2.1, hn.2.2.2.2.1⟩
  clear hn h hT hf p1 p2 p3 p4
  go_enter Tryz.func98, Tryz.ntmps98
  go_wp2_with (go_at_call 107; refine HR.out.mono ?_; rintro e w2 ⟨rfl, ho⟩; obtain ⟨cap, c0, hcap⟩ := (HH.out.quiet ho).cell; obtain ⟨q0, q1, q2⟩ := (HH.out.quiet ho).row.page HP.out HP4.out; have fz0 := Row.frozen (HH.out.quiet ho).row (p * 3); have fz1 := Row.frozen (HH.out.quiet ho).row (p * 3 + 1); have fz2 := Row.frozen (HH.out.quiet ho).row (p * 3 + 2); have HO2 := hid_mk ho; clear ho)
  have hr3 := (HH.out.quiet HO2.out).row.set p 2 0 k
  have ho3 : Out bw (bw + 1) w (((w2.setCell ⟨bw, p * 3, none⟩ (.int .i64 2)).setCell ⟨bw, p * 3 + 1, none⟩ (.int .i64 0)).setCell ⟨bw, p * 3 + 2, none⟩ (.int .i64 k)) := (HO2.out.any _ _).set3 (.inl ⟨Nat.le_refl _, Nat.lt_succ_self _⟩) _ _ _
  have d0 := ((Out.refl bw (bw + 1) w2).set3 (b := bw) (o := p * 3) (.inl ⟨Nat.le_refl _, Nat.lt_succ_self _⟩) (.int .i64 2) (.int .i64 0) (.int .i64 k)).cell c0 (by have := HB.out; omega)
  obtain ⟨W3, hW3⟩ : ∃ W3, ((w2.setCell ⟨bw, p * 3, none⟩ (.int .i64 2)).setCell ⟨bw, p * 3 + 1, none⟩ (.int .i64 0)).setCell ⟨bw, p * 3 + 2, none⟩ (.int .i64 k) = W3 := ⟨_, rfl⟩
  rw [hW3] at hr3 ho3 d0 ⊢
  have hT3 := HT.out.kept ho3 (.inl HB.out.2.1)
  obtain ⟨r0, r1, r2⟩ := hT3.r
  have HR3 := hid_mk hr3
  have HO3 := hid_mk ho3
  obtain ⟨l, hl⟩ : ∃ l : Nat, p + 1 = l := ⟨_, rfl⟩
  obtain ⟨u, hu⟩ : ∃ u : Nat, p + k = u := ⟨_, rfl⟩
  obtain ⟨o, cp, hsl, hoo⟩ := slice_at bw n cap l u (by omega) (by omega)
  obtain ⟨ln, hln⟩ : ∃ ln : Nat, u - l = ln := ⟨_, rfl⟩
  rw [hln] at hsl hoo
  have x1 : IntKind.i64.wrap ((p : Int) + 1) = (l : Int) := by simp [IntKind.wrap, IntKind.signed, IntKind.bits]; omega
  have x2 : IntKind.i64.wrap ((p : Int) + (k : Int)) = (u : Int) := by simp [IntKind.wrap, IntKind.signed, IntKind.bits]; omega
  have HF : Hid (∀ w', PRow w' bw n (setP S p (2, 0, (k : Int))) → Calls Tryz.prog 108 #[.slice (some ⟨bw, o, none⟩) ln cp, .agg #[.int .i64 3, .int .i64 0, .int .i64 0]] w' fun e w'' => e = .returned (.tuple #[]) ∧ PRow w'' bw n (setR S p k) ∧ Out bw (bw + 1) w' w'') := fun w' hr => by
    rw [setR_eq S p k h1, show k - 1 = ln from by omega]
    exact fill_at hr (by omega) (by omega) (fun h => by rw [hoo h, hl]) 3 0 0
  clear hr3 ho3 hT3 q0 q1 q2 fz0 fz1 fz2 c0 hW3 hl hu hln hoo
  go_region_held3 (fun w' => w'.cell? ⟨b, 0, none⟩ = some (.slice (some ⟨bw, 0, none⟩) n cap) ∧ w'.cell? ⟨2, 0, none⟩ = some (.int .i64 3) ∧ w'.cell? ⟨2, 1, none⟩ = some (.int .i64 0) ∧ w'.cell? ⟨2, 2, none⟩ = some (.int .i64 0)) (first | go_keep | (refine ⟨?_, ?_, ?_, ?_⟩ <;> exact hOO.cell (by assumption) (by have := HB.out; omega)))
    (first | (go_at_call 108; refine (HF.out _ (by exact HR3.out)).mono ?_; rintro e w4 ⟨rfl, hp4, hOO⟩))
  all_goals (try go_wp2)
  all_goals go_ret2
  all_goals exact ⟨rfl, HH.out.turn (HO3.out.trans ((Out.refl _ _ _).drew.trans hOO)) hp4 HG.out, HO3.out.trans ((Out.refl _ _ _).drew.trans hOO)⟩
theorem takeRun_none {w : World} {b bw n : Nat} {S : Nat → Int × Int × Int} (h : TblAt 126 w b bw n S) (hT : Tab w) (k : Nat) (h1 : 1 ≤ k) (h2 : k ≤ 16) (hf : rowF S n k = none) :
    Calls Tryz.prog 98 #[.pointer (some ⟨b, 0, none⟩), .int .i64 k] w fun e w' => e = .returned (.tuple #[.int .i64 0, .int .i64 20]) ∧ Out 0 0 w w' := by
  have hn := h.nums
  have HR : Hid (Calls Tryz.prog 107 #[.pointer (some ⟨b, 0, none⟩), .int .i64 k] w fun e w' => e = .returned (.tuple #[.int .i64 0, .bool false]) ∧ Out 0 0 w w') := by
    obtain ⟨cap, c0, _⟩ := h.cell
    have := row_any c0 hT ⟨hn.1, hn.2.1⟩ h.row h.good k h1 h2
    rw [hf] at this
    exact this
  have b3 : (1 : Int) ≤ (k : Int) := by omega
  have b4 : (k : Int) ≤ 16 := by omega
  clear hn h hT hf h1 h2
  go_enter Tryz.func98, Tryz.ntmps98
  go_wp2_with (go_at_call 107; refine HR.out.mono ?_; rintro e w2 ⟨rfl, ho⟩)
  go_ret2
  exact ⟨rfl, ho⟩
theorem takeRun_any {w : World} {b bw n : Nat} {S : Nat → Int × Int × Int} (h : TblAt 126 w b bw n S) (hT : Tab w) (c : Int) :
    Calls Tryz.prog 98 #[.pointer (some ⟨b, 0, none⟩), .int .i64 c] w fun e w' => e = .returned (.tuple #[.int .i64 (trP S n c : Nat), .int .i64 (trE S n c)]) ∧ TblAt 126 w' b bw n (trS S n c) ∧ Out bw (bw + 1) w w' := by
  unfold trP trE trS
  by_cases hc : runB c = true
  · rw [if_pos hc, if_pos hc, if_pos hc]
    unfold runB at hc
    simp at hc
    obtain ⟨k, rfl⟩ : ∃ k : Nat, c = k := ⟨c.toNat, by omega⟩
    rw [show ((k : Nat) : Int).toNat = k from by omega]
    cases hf : rowF S n k with
    | none => exact (takeRun_none h hT k (by omega) (by omega) hf).mono fun e w' ⟨a, o⟩ => ⟨a, h.quiet o, o.any _ _⟩
    | some p => exact takeRun_some h hT k (by omega) (by omega) p hf
  · rw [if_neg hc, if_neg hc, if_neg hc]
    unfold runB at hc
    simp at hc
    have H := hid_mk h
    by_cases h1 : 1 ≤ c
    · have h2 : 16 < c := by omega
      clear h hT hc
      go_enter Tryz.func98, Tryz.ntmps98
      go_wp2
      go_ret2
      exact ⟨rfl, H.out, Out.refl _ _ _⟩
    · have h2 : c < 1 := by omega
      clear h hT hc h1
      go_enter Tryz.func98, Tryz.ntmps98
      go_wp2
      go_ret2
      exact ⟨rfl, H.out, Out.refl _ _ _⟩
end Go.Proofs.YtcpignkjlnjjmaaGreatDoor
namespace Go.Proofs.YtcpignkjlnjjmaaGreatDoor
open Go.RowKit
set_option linter.unusedVariables false
set_option linter.unusedSimpArgs false

/-- what State answers where nothing is given -/
def NoGive (x : Int) (ok : Bool) : Prop := ok = false ∨ x = 0 ∨ x = 3
theorem give_parts {n : Nat} {S : Nat → Int × Int × Int} {p : Int} (hg : Good n S) (h : giveB S n p = false) : ∃ x, stP S n p = (x, 0, 0) ∧ NoGive x (inB n p) := by
  unfold giveB at h
  cases hb : inB n p with
  | false => exact ⟨0, by unfold stP; rw [hb]; rfl, .inl rfl⟩
  | true =>
    rw [hb] at h
    unfold stP
    rw [hb]
    have hi : p.toNat < n := by unfold inB at hb; simp at hb; omega
    rcases hg.cases hi with e | ⟨c, _, _, e⟩ | ⟨k, _, _, _, e⟩ | e
    · exact ⟨0, by rw [if_pos rfl, e], .inr (.inl rfl)⟩
    · rw [e] at h; simp at h
    · rw [e] at h; simp at h
    · exact ⟨3, by rw [if_pos rfl, e], .inr (.inr rfl)⟩
/-! New -/
theorem info_page : (Tryz.prog.info? 119).map (fun i => (i.zero, i.size, i.bytes)) = some (some (.agg #[.int .i64 0, .int .i64 0, .int .i64 0]), 3, 24) := by kernel_rfl
theorem info_parts {T : TypeId} {z : Value} {a b : Nat} (h : (Tryz.prog.info? T).map (fun i => (i.zero, i.size, i.bytes)) = some (some z, a, b)) : ∃ i, Tryz.prog.info? T = some i ∧ i.zero = some z ∧ i.size = a ∧ i.bytes = b := by
  cases hi : Tryz.prog.info? T with
  | none => rw [hi] at h; cases h
  | some i => rw [hi] at h; simp at h; exact ⟨i, rfl, h.1, h.2.1, h.2.2⟩
theorem made3 {i k : Nat} (h : i < k) : (madeCells #[Value.int .i64 0, .int .i64 0, .int .i64 0] k)[i]? = some (.int .i64 0) := by
  have hm : i % 3 = 0 ∨ i % 3 = 1 ∨ i % 3 = 2 := by omega
  rcases hm with hm | hm | hm <;> simp [madeCells, h, hm]
theorem make_pages (n : Nat) (hn : n ≤ 4096) : ∃ cur : Array Value, (∀ i, i < n * 3 → cur[i]? = some (.int .i64 0)) ∧ cur.size = n * 3 ∧ ∀ w : World, (Instr.makeSlice 61 (.int .i64 (n : Int)) (.int .i64 (n : Int))).run Tryz.prog w = .ok (.slice (some ⟨w.heap.size, 0, none⟩) n n) (w.alloc (.cells cur 119)) := by
  obtain ⟨i0, hi, hz0, hz1, hz2⟩ := info_parts info_page
  refine ⟨madeCells #[Value.int .i64 0, .int .i64 0, .int .i64 0] (n * 3), fun i h => made3 h, size_madeCells _ _, fun w => ?_⟩
  have := run_make (P := Tryz.prog) w 61 119 i0 _ Tryz.underlying61 hi hz0 .i64 .i64 (n : Int) (n : Int) (by omega) (Int.le_refl _) (by rw [hz2]; omega) (by omega)
  rw [this, hz1]
  simp [Value.cells]
theorem table_new {T : TypeId} {w : World} {cur : Array Value} {n : Nat} (h1 : 1 ≤ n) (h2 : n ≤ 4096) (hw : 4 ≤ w.heap.size) (hc : ∀ i, i < n * 3 → cur[i]? = some (.int .i64 0)) (hs : cur.size = n * 3) :
    TblAt T ((w.alloc (.cells cur 119)).alloc (.cells #[.slice (some ⟨w.heap.size, 0, none⟩) n n] T)) (w.heap.size + 1) w.heap.size n (fun _ => (0, 0, 0)) := by
  refine ⟨n, ?_, Nat.le_refl _, by omega, by omega, hw, h1, h2, good_free n, cur, ?_, by omega, fun i hi => ?_⟩
  · have := heap_alloc_new (w.alloc (.cells cur 119)) (.cells #[.slice (some ⟨w.heap.size, 0, none⟩) n n] T)
    simpa using this
  · rw [heap_alloc_old _ _ (by simp)]; exact heap_alloc_new _ _
  · rw [hc i hi]; unfold pcell fld; simp
def newB (n : Int) : Bool := decide (1 ≤ n) && decide (n ≤ 4096)
set_option maxHeartbeats 1000000 in
theorem new_yes {w : World} (hT : Tab w) (n : Nat) (h1 : 1 ≤ n) (h2 : n ≤ 4096) :
    Calls Tryz.prog 50 #[.int .i64 n] w fun e w' => e = .returned (.tuple #[.pointer (some ⟨w.heap.size + 1, 0, none⟩), .int .i64 0]) ∧ TblAt 126 w' (w.heap.size + 1) w.heap.size n (fun _ => (0, 0, 0)) ∧ Out 0 0 w w' ∧ w'.heap.size = w.heap.size + 2 := by
  obtain ⟨cur, hc, hs, hmk⟩ := make_pages n h2
  have HN := hid_mk (fun T => table_new (T := T) h1 h2 hT.lt hc hs)
  have b1 : (1 : Int) ≤ (n : Int) := by omega
  have b2 : (n : Int) ≤ 4096 := by omega
  clear hT h1 h2 hc hs
  go_enter Tryz.func50, Tryz.ntmps50
  go_wp2
  go_ret2
  exact ⟨rfl, HN.out _, ((Out.refl _ _ _).alloc _).alloc _, by simp⟩
theorem new_no (n : Int) (h : newB n = false) (w : World) :
    Calls Tryz.prog 50 #[.int .i64 n] w fun e w' => e = .returned (.tuple #[.pointer none, .int .i64 1]) ∧ w' = w := by
  unfold newB at h
  simp at h
  by_cases h1 : 1 ≤ n
  · have h2 : 4096 < n := by omega
    clear h
    go_enter Tryz.func50, Tryz.ntmps50
    go_wp2
    go_ret2
    exact ⟨rfl, rfl⟩
  · have h2 : n < 1 := by omega
    clear h h1
    go_enter Tryz.func50, Tryz.ntmps50
    go_wp2
    go_ret2
    exact ⟨rfl, rfl⟩
end Go.Proofs.YtcpignkjlnjjmaaGreatDoor
