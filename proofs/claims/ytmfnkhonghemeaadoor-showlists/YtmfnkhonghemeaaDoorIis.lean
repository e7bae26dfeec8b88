/- package show: the teller's tasks -/
import Derived.Test.YtmfnkhonghemeaaDoorIir
namespace Go.Proofs.YtmfnkhonghemeaaDoor
open Go.RowKit
set_option linter.unusedVariables false
set_option linter.unusedSimpArgs false

set_option maxRecDepth 100000 in
set_option maxHeartbeats 4000000 in
theorem reverse_two {W : World} {b c : Nat} {a1 a2 a3 b1 b2 b3 : Int} (hb : Bl W b #[.int .i64 a1, .int .i64 a2, .int .i64 a3, .int .i64 b1, .int .i64 b2, .int .i64 b3] 72) :
    Calls Tryd.prog 28 #[.slice (some ⟨b, 0, none⟩) 2 c] W fun e w' => (∃ v, e = .returned v) ∧ Bl w' b #[.int .i64 b1, .int .i64 b2, .int .i64 b3, .int .i64 a1, .int .i64 a2, .int .i64 a3] 72 ∧ Out b (b + 1) W w' := by
  have c0 := hb.cell (i := 0) rfl
  have c1 := hb.cell (i := 1) rfl
  have c2 := hb.cell (i := 2) rfl
  have c3 := hb.cell (i := 3) rfl
  have c4 := hb.cell (i := 4) rfl
  have c5 := hb.cell (i := 5) rfl
  have z0 := hb.frozen 0
  have z1 := hb.frozen 1
  have z2 := hb.frozen 2
  have z3 := hb.frozen 3
  have z4 := hb.frozen 4
  have z5 := hb.frozen 5
  have HB := hid_mk hb
  clear hb
  go_enter Tryd.func28, Tryd.ntmps28
  go_wp2_with fail
  refine wp_loop_rounds 2 ?_
  rw [rounds_succ]
  go_wp2_with fail
  go_region
  all_goals go_wp2_with fail
  all_goals rw [rounds_succ]
  all_goals go_wp2_with fail
  have o6 : Out b (b + 1) W ((((((W.setCell ⟨b, 0, none⟩ (.int .i64 b1)).setCell ⟨b, 1, none⟩ (.int .i64 b2)).setCell ⟨b, 2, none⟩ (.int .i64 b3)).setCell ⟨b, 3, none⟩ (.int .i64 a1)).setCell ⟨b, 4, none⟩ (.int .i64 a2)).setCell ⟨b, 5, none⟩ (.int .i64 a3)) :=
    ((((((Out.refl _ _ _).setCell (p := ⟨b, 0, none⟩) (.inl ⟨Nat.le_refl _, Nat.lt_succ_self _⟩) _).setCell (p := ⟨b, 1, none⟩) (.inl ⟨Nat.le_refl _, Nat.lt_succ_self _⟩) _).setCell (p := ⟨b, 2, none⟩) (.inl ⟨Nat.le_refl _, Nat.lt_succ_self _⟩) _).setCell (p := ⟨b, 3, none⟩) (.inl ⟨Nat.le_refl _, Nat.lt_succ_self _⟩) _).setCell (p := ⟨b, 4, none⟩) (.inl ⟨Nat.le_refl _, Nat.lt_succ_self _⟩) _).setCell (p := ⟨b, 5, none⟩) (.inl ⟨Nat.le_refl _, Nat.lt_succ_self _⟩) _
  exact bodyPost_end (results_none Tryd.results28 _ _ _) rfl ⟨⟨_, rfl⟩, Bl.kept ((((((HB.out.set 0 _).set 1 _).set 2 _).set 3 _).set 4 _).set 5 _) ((Out.refl 0 0 _).drew) (.inr (Nat.zero_le _)), o6.drew⟩
set_option maxRecDepth 100000 in
set_option maxHeartbeats 2000000 in
theorem later_at {B t tc pc b c m : Nat} {W : World} {wp : Value} {ta pa : Option Addr} {tasks qs : List Task} {pieces : List ByteArray} (h : TS B W t wp ta tc pa pc tasks pieces) (hnb : ¬ RW t ta pa b) (hs : qs.length = m) (hm0 : 0 < m) (hm : m ≤ 10) (hp : tasks.length ≤ 2000)
    (hR : Calls Tryd.prog 28 #[.slice (some ⟨b, 0, none⟩) m c] W fun e w' => (∃ v, e = .returned v) ∧ Bl w' b (tkL qs).toArray 72 ∧ Out b (b + 1) W w') :
    Calls Tryd.prog 19 #[.pointer (some ⟨t, 0, none⟩), .slice (some ⟨b, 0, none⟩) m c] W (TSQ B t wp (fun x => RW t ta pa x ∨ x = b) W (tasks ++ qs) pieces) := by
  have HH := hid_mk h
  have HR := hid_mk hR
  have HN := hid_mk hnb
  clear h hR hnb
  go_enter Tryd.func19, Tryd.ntmps19
  go_wp2_with fail
  refine HR.out.mono ?_
  rintro e w0 ⟨⟨v0, rfl⟩, hb, o0⟩
  have x0 : Fx (fun x => x = b) W w0 := Fx.of_out o0 (fun b h1 h2 _ => by omega)
  have hnb := HN.out
  have h0 : TS B w0 t wp ta tc pa pc tasks pieces := by
    obtain ⟨a1, a2, a3, a4, a5⟩ := HH.out
    exact ⟨a1.fx x0 (fun e => hnb (e ▸ .inl rfl)), own_fx a2 x0 (fun g e e2 => hnb (e2 ▸ .inr (.inl (own_map e)))), own_fx a3 x0 (fun g e e2 => hnb (e2 ▸ .inr (.inr (own_map e)))), a4, Nat.le_trans a5 x0.size⟩
  have hne := h0.ne
  obtain ⟨hT, hr, hs2, htB, hB⟩ := h0
  obtain ⟨g, cap', w1, hrun, hown, hg, x1⟩ := app_ownN (c := c) Tryd.underlying56 info_task rfl (by decide) hr hB hb (by simp [tkL_len, hs]) hm0 hm (by intro u hu; simp [tkL] at hu; obtain ⟨a, b, c, _, h⟩ := hu; rcases h with rfl | rfl | rfl <;> rfl) hp (by decide)
  have c1 := hT.cell (i := 1) rfl
  have hT1 : TL w1 t wp _ _ := Bl.fx hT x1 (fun e => by have := (own_ge hr e).1; omega)
  have y1 := hT1.cell (i := 1) rfl
  have y2 := hT1.frozen 1
  have HE := hid_mk (And.intro hT1 (And.intro hr (And.intro hs2 (And.intro hown (And.intro hg (And.intro x1 (And.intro htB (And.intro hB hne))))))))
  have HX := hid_mk x0
  clear hT hr hs2 htB hB hown hg x1 hT1 hne hb x0 o0 hnb
  go_wp2_with (at_builtin; refine wpList_app rfl _ _ 56 rfl rfl rfl hrun ?_)
  obtain ⟨hT1, hr, hs2, hown, hg, x1, htB, hB, hne⟩ := HE.out
  have x0 := HX.out
  have o2 : Out t (t + 1) w1 (w1.setCell ⟨t, 1, none⟩ (.slice (some ⟨g, 0, none⟩) (tasks.length + m) cap')) := (Out.refl _ _ _).setCell (p := ⟨t, 1, none⟩) (.inl ⟨Nat.le_refl _, Nat.lt_succ_self _⟩) _
  have x2 : Fx (fun b => b = t) w1 (w1.setCell ⟨t, 1, none⟩ (.slice (some ⟨g, 0, none⟩) (tasks.length + m) cap')) := Fx.of_out o2 (fun b h1 h2 _ => by omega)
  have hpo : ∀ b, (Value.slice ta tasks.length tc).ownBlock = some b → RW t ta pa b := fun b h => .inr (.inl (own_map h))
  refine bodyPost_end (results_none Tryd.results19 _ _ _) rfl ⟨⟨_, rfl⟩, some ⟨g, 0, none⟩, cap', pa, pc, ⟨?_, ?_, ?_, htB, Nat.le_trans hB (Nat.le_trans x1.size x2.size)⟩, (x0.wide (fun b _ h => .inr h)).trans ((x1.wide (fun b _ h => .inl (hpo b h))).trans (x2.wide (fun b _ h => .inl (.inl h)))), ?_⟩
  · rw [List.length_append, hs]; exact hT1.set 1 _
  · rw [List.length_append, hs, tkL_append]
    exact own_fx (by simpa using hown) x2 (fun g2 e => by have := (own_ge hown e).1; omega)
  · exact own_fx (own_fx hs2 x1 (fun g e e2 => hne g e2 e)) x2 (fun g e => by have := (own_ge hs2 e).1; omega)
  · intro b h
    rcases h with h | h | h
    · exact .inl (.inl (.inl h))
    · simp at h; subst h
      exact hg.elim (fun h => .inr (Nat.le_trans x0.size h)) (fun h => .inl (.inl (hpo _ h)))
    · exact .inl (.inl (.inr (.inr h)))
theorem later_1 {B t tc pc b c : Nat} {W : World} {wp : Value} {ta pa : Option Addr} {tasks : List Task} {pieces : List ByteArray} {x y z : Int} (h : TS B W t wp ta tc pa pc tasks pieces) (hb : Bl W b #[.int .i64 x, .int .i64 y, .int .i64 z] 72) (hnb : ¬ RW t ta pa b) (hp : tasks.length ≤ 2000) :
    Calls Tryd.prog 19 #[.pointer (some ⟨t, 0, none⟩), .slice (some ⟨b, 0, none⟩) 1 c] W (TSQ B t wp (fun x => RW t ta pa x ∨ x = b) W (tasks ++ [(x, y, z)]) pieces) :=
  later_at (qs := [(x, y, z)]) h hnb rfl (by decide) (by decide) hp (reverse_one.mono (fun e w' h => by obtain ⟨h1, rfl⟩ := h; exact ⟨h1, hb, Out.refl _ _ _⟩))
theorem later_2 {B t tc pc b c : Nat} {W : World} {wp : Value} {ta pa : Option Addr} {tasks : List Task} {pieces : List ByteArray} {a1 a2 a3 b1 b2 b3 : Int} (h : TS B W t wp ta tc pa pc tasks pieces) (hb : Bl W b #[.int .i64 a1, .int .i64 a2, .int .i64 a3, .int .i64 b1, .int .i64 b2, .int .i64 b3] 72) (hnb : ¬ RW t ta pa b) (hp : tasks.length ≤ 2000) :
    Calls Tryd.prog 19 #[.pointer (some ⟨t, 0, none⟩), .slice (some ⟨b, 0, none⟩) 2 c] W (TSQ B t wp (fun x => RW t ta pa x ∨ x = b) W (tasks ++ [(b1, b2, b3), (a1, a2, a3)]) pieces) :=
  later_at (qs := [(b1, b2, b3), (a1, a2, a3)]) h hnb rfl (by decide) (by decide) hp (reverse_two hb)
end Go.Proofs.YtmfnkhonghemeaaDoor
