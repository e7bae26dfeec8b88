/- slices.AppendSeq of an iterator that hands out one number -/
import Derived.Test.YtocncffplcfpbaaGreatDoorGrm
namespace Go.Proofs.YtocncffplcfpbaaGreatDoor
open Go.RowKit Go.MapKept
attribute [local go_sem] Oper.semAt_some
set_option linter.unusedVariables false
set_option linter.unusedSimpArgs false

theorem wpIn_named {F : Fence} {n : Nat} {P : Program} {c : Code} {Q : Exit → Act → World → Prop} {a : Act} {w : World} (h : ∀ W1, W1 = w → c.wpIn F n P Q a W1) : c.wpIn F n P Q a w := h w rfl
/-- what the loop holds behind its round -/
def ASt (W w : World) (s D : Nat) (rec : LoopState → Option Code → Loop) (a0 : Int) : Prop := Fx (fun k => W.heap.size ≤ k) W w ∧ w.heap[D]? = some (.deferred (some [])) ∧ w.heap[D + 1]? = some (.loop (rec .ready none)) ∧ ∃ b c, Bl w s #[.slice (some ⟨b, 0, none⟩) 1 c] 29 ∧ w.cell? ⟨b, 0, none⟩ = some (.int .i64 a0) ∧ D + 1 < b
set_option maxRecDepth 100000 in
set_option maxHeartbeats 4000000 in
theorem appseq_one {W : World} {gf g : Nat} {a0 : Int} (eg : ∀ args w, (callFunc gf args).run Tryz.prog w = .ok (.enter gf args) w)
    (HI : ∀ (W1 : World) (l : Nat) (S : Nat → Prop) (J : World → Prop), Out 0 0 W W1 → (∀ k, S k → W.heap.size ≤ k ∧ k < W1.heap.size) → (∀ W2, Out 0 0 W1 W2 → YieldAt Fence.wide 0 Tryz.prog l #[.int .i64 a0] W2 fun e w' => e = .returned (.bool true) ∧ Fx S W2 w' ∧ J w') →
      Calls Tryz.prog gf (#[.func (.yield l) #[] #[]] ++ #[.pointer (some ⟨g, 0, none⟩)]) W1 fun e w' => (∃ v, e = .returned v) ∧ J w') :
    Calls Tryz.prog 50 #[.slice none 0 0, .func (.func gf) #[] #[.pointer (some ⟨g, 0, none⟩)]] W fun e w' => ∃ b c, e = .returned (.slice (some ⟨b, 0, none⟩) 1 c) ∧ Out 0 0 W w' ∧ w'.cell? ⟨b, 0, none⟩ = some (.int .i64 a0) ∧ W.heap.size ≤ b := by
  have HH := hid_mk HI
  clear HI
  refine (callsIn_wide (n := 0)).1 ?_
  refine callsIn_of_wp_marks Tryz.func50 rfl trivial ?_ rfl
  simp only [Tryz.ntmps50, List.size_toArray, List.length_cons, List.length_nil, Nat.reduceAdd, Nat.reduceSub, Array.replicate_succ, Array.replicate_zero, List.push_toArray, List.append_toArray, List.nil_append, List.cons_append]
  gi_wp2_with fail
  refine wpIn_named (fun W1 hW1 => ?_)
  obtain ⟨s, hs⟩ : ∃ s, W.heap.size = s := ⟨_, rfl⟩
  have o1 : Out 0 0 W W1 := by rw [hW1]; exact (Out.refl 0 0 W).alloc _
  have b1 : Bl W1 s #[.slice none 0 0] 29 := by rw [hW1, ← hs]; exact Bl.new _ _ _
  have hs1 : W1.heap.size = s + 1 := by rw [hW1, size_alloc, hs]
  rw [hs]
  have H1 := hid_mk (And.intro o1 (And.intro b1 (And.intro hs1 hs)))
  clear hW1 o1 b1 hs1 hs
  refine range_any (gf := gf) (lb := #[.pointer (some ⟨g, 0, none⟩)]) rfl eg (fun w => ∃ rec, ASt W w s W1.heap.size rec a0) (fun _ _ => False) ?H ?done (fun _ _ _ h _ _ => h.elim)
  case H =>
    intro rec hrec W6 hW6
    obtain ⟨o1, b1, hs1, hs⟩ := H1.out
    have o6 : Out 0 0 W1 W6 := by rw [hW6]; exact ((Out.refl _ _ _).alloc _).alloc _
    have d6 : W6.heap[W1.heap.size]? = some (.deferred (some [])) := by rw [hW6, heap_alloc_old _ _ (by rw [size_alloc]; omega)]; exact heap_alloc_new _ _
    have l6 : W6.heap[W1.heap.size + 1]? = some (.loop (rec .ready none)) := by rw [hW6, ← size_alloc W1 (.deferred (some []))]; exact heap_alloc_new _ _
    have s6 : W6.heap.size = W1.heap.size + 2 := by rw [hW6, size_alloc, size_alloc]
    refine (HH.out W6 (W1.heap.size + 1) (fun k => k = s ∨ k = W1.heap.size + 1) (fun w => ASt W w s W1.heap.size rec a0) (o1.trans o6) (fun k hk => by omega) ?_).mono ?_
    · intro W2 o2
      have d2 := o2.heap d6 (.inr (Nat.zero_le _))
      have l2 := o2.heap l6 (.inr (Nat.zero_le _))
      have b2 := (b1.kept o6 (.inr (Nat.zero_le _))).kept o2 (.inr (Nat.zero_le _))
      have x2 : Fx (fun k => W.heap.size ≤ k) W W2 := Fx.of_out ((o1.trans o6).trans o2)
      have HB := hid_mk (And.intro d2 (And.intro l2 (And.intro b2 (And.intro x2 (And.intro hs1 (And.intro hs (And.intro s6 o2.size)))))))
      refine round_any hrec l2 rfl ?_
      clear o1 b1 hs1 hs o6 d6 l6 s6 o2 d2 b2 x2 H1 HH hW6
      gi_wp2
      refine ⟨HB.out.2.1, ?_⟩
      intro W3 o3 l3
      have b3 := HB.out.2.2.1.kept o3 (.inl (by have := HB.out.2.2.2.2.1; omega))
      have c3 := b3.cell (i := 0) rfl
      have z3 := b3.frozen 0
      have h3 := b3.lt
      have HL3 := hid_mk l3
      have HO3 := hid_mk (And.intro o3 b3)
      clear o3 l3 b3 l2
      gi_wp2
      obtain ⟨cc, hcc⟩ : ∃ cc, (Question.appendCap 1 0 3).cut (W3.tape W3.drawn (Question.appendCap 1 0 3)) = cc := ⟨_, rfl⟩
      rw [hcc]
      obtain ⟨Y, hY⟩ : ∃ Y, (((W3.setCell ⟨s, 0, none⟩ (.slice (some ⟨W3.heap.size + 1, 0, none⟩) 1 cc)).alloc (.cells #[.int .i64 a0] 3)).alloc (.cells (#[.int .i64 a0] ++ Builtin.zeroCells #[.int .i64 0] (cc - 1)) 3)).drew = Y := ⟨_, rfl⟩
      rw [hY]
      obtain ⟨o3, b3⟩ := HO3.out
      obtain ⟨d2, l2, b2, x2, hs1, hs, s6, o2s⟩ := HB.out
      have xY : Fx (fun k => k = s) W3 Y := hY ▸ (((Fx.set (S := fun k => k = s) (Fx.refl _ W3) (p := ⟨s, 0, none⟩) (.inl rfl) _).alloc _).alloc _).drew
      have bY : Bl Y s #[.slice (some ⟨W3.heap.size + 1, 0, none⟩) 1 cc] 29 := hY ▸ (((b3.set 0 _).alloc _).alloc _).kept ((Out.refl 0 0 _).drew) (.inr (Nat.zero_le _))
      have cY : Y.cell? ⟨W3.heap.size + 1, 0, none⟩ = some (.int .i64 a0) := by
        have := (Bl.new ((W3.setCell ⟨s, 0, none⟩ (.slice (some ⟨W3.heap.size + 1, 0, none⟩) 1 cc)).alloc (.cells #[.int .i64 a0] 3)) (#[.int .i64 a0] ++ Builtin.zeroCells #[.int .i64 0] (cc - 1)) 3).kept ((Out.refl 0 0 _).drew) (.inr (Nat.zero_le _))
        rw [size_alloc, size_set, hY] at this
        exact this.cell (i := 0) (by rw [Array.getElem?_append_left (by simp)]; rfl)
      have hl2 := heap_lt l2
      have hsz := o3.size
      refine ⟨xY.heap HL3.out (by omega), fun W' o4 l4 => ⟨rfl, ?_, ?_⟩⟩
      all_goals
        have x4 : Fx (fun k => k = s ∨ k = W1.heap.size + 1) W2 W' := (Fx.trans (S := fun k => k = s ∨ k = W1.heap.size + 1) ⟨o3.1, o3.2.1, o3.2.2.1, o3.size, fun k h1 h2 => o3.block h1 (by omega)⟩ (xY.wide (fun _ _ q => .inl q))).trans ⟨o4.1, o4.2.1, o4.2.2.1, o4.size, fun k h1 h2 => o4.block h1 (by omega)⟩
      · exact x4
      · refine ⟨x2.trans (x4.wide (fun k h1 h2 => by omega)), x4.heap d2 (by omega), l4, W3.heap.size + 1, cc, bY.kept o4 (by omega), o4.cell cY (by omega), by omega⟩
    · rintro e w ⟨he, hJ⟩
      exact ⟨he, hJ.2.1, .inl ⟨⟨rec, hJ⟩, hJ.2.2.1⟩⟩
  case done =>
    intro W6 W7 hJ o7 d7
    obtain ⟨rec, x6, d6, l6, b, c, b6, c6, hb⟩ := hJ
    obtain ⟨o1, b1, hs1, hs⟩ := H1.out
    have b7 := b6.kept o7 (by omega)
    have c7 := o7.cell c6 (by omega)
    have x7 : Fx (fun k => W.heap.size ≤ k) W W7 := x6.trans ⟨o7.1, o7.2.1, o7.2.2.1, o7.size, fun k h1 h2 => o7.block h1 (by omega)⟩
    have e0 := b7.cell (i := 0) rfl
    have HE := hid_mk (And.intro c7 (And.intro x7 (And.intro d7 (And.intro hb (And.intro hs1 hs)))))
    clear x6 d6 l6 b6 c6 hb o1 b1 hs1 hs b7 c7 x7 d7 o7 H1 HH
    gi_wp2
    obtain ⟨c7, x7, d7, hb, hs1, hs⟩ := HE.out
    have x8 : Fx (fun k => W.heap.size ≤ k) W (W7.putObj W1.heap.size (.deferred none)) := x7.trans ⟨rfl, rfl, rfl, by simp, fun k h1 h2 => World.putObj_heap_other (by omega)⟩
    refine ⟨by simp, .inl ⟨_, _, rfl, run_takeDeferred d7, ?_⟩⟩
    refine ⟨_, results_tmp Tryz.results50 _ _ _, b, c, rfl, x8.out (fun k h1 h2 => by omega), (out_putObj W7 W1.heap.size (.deferred none)).cell c7 (.inr (by omega)), by omega⟩
end Go.Proofs.YtocncffplcfpbaaGreatDoor
