/- package code: a wrong part gives up; bytes are put down -/
import Derived.Test.YtkghabmgofgclaaDoorUf
namespace Go.Proofs.YtkghabmgofgclaaDoor
open Go.RowKit
set_option linter.unusedVariables false
set_option linter.unusedSimpArgs false

/-- what a panic carries: an error and its place -/
def stopP (e a : Int) : PanicEntry := { v := .iface 113 (.agg #[.int .i64 e, .int .i64 a]), recovered := false }
theorem want_yes (e a : Int) (w : World) : Calls Tryd.prog 40 #[.bool true, .int .i64 e, .int .i64 a] w fun x w' => x = .returned (.tuple #[]) ∧ w' = w := by
  go_enter Tryd.func40, Tryd.ntmps40
  go_wp2
  exact bodyPost_end (results_none Tryd.results40 _ _ _) rfl ⟨rfl, rfl⟩
theorem want_no (e a : Int) (w : World) : Calls Tryd.prog 40 #[.bool false, .int .i64 e, .int .i64 a] w fun x w' => x = .panicked [stopP e a] ∧ w' = w := by
  go_enter Tryd.func40, Tryd.ntmps40
  go_wp2
  exact ⟨rfl, rfl, rfl⟩
theorem calls_stop {f : FuncId} {args : Array Value} {c : List PanicEntry} {w : World} {Q : Ending → World → Prop} (h : Calls Tryd.prog f args w (fun e w' => e = .panicked c ∧ w' = w)) (hq : Q (.panicked c) w) : Calls Tryd.prog f args w Q :=
  h.mono fun _ _ ⟨he, hw⟩ => by rw [he, hw]; exact hq
theorem may_yes (w : World) : Calls Tryd.prog 80 #[.bool true] w fun x w' => x = .returned (.tuple #[]) ∧ w' = w := by
  go_enter Tryd.func80, Tryd.ntmps80
  go_wp2_with (go_at_call 40; refine calls_same (want_yes _ _ _) ?_)
  exact bodyPost_end (results_none Tryd.results80 _ _ _) rfl ⟨rfl, rfl⟩
theorem may_no (w : World) : Calls Tryd.prog 80 #[.bool false] w fun x w' => x = .panicked [stopP 62 0] ∧ w' = w := by
  go_enter Tryd.func80, Tryd.ntmps80
  go_wp2_with (go_at_call 40; refine calls_stop (want_no _ _ _) ?_)
  exact ⟨rfl, rfl, rfl⟩
/-- one append of bytes in a plain region -/
theorem app_step {ops : Array Oper} {rest : List Oper} {o : Oper} {ac : Go.Act} {w : World} {Q : Exit → Go.Act → World → Prop} (hgd : o.guard = none) (sx xx : Operand)
    (ho : o.op = .call { callee := .builtin .append, args := #[sx, xx], argTypes := #[33, 33] }) {base K n cap c : Nat} {ta ra : Option Addr} {bs x : List Int} (hs : ac.eval sx = .slice ta K cap) (hxx : ac.eval xx = .slice ra n c)
    (hown : w.ownsRow base 5 1 (.slice ta K cap) K (bvs bs)) (hbs : base ≤ w.heap.size) (hx : BytesAt w ra x) (hn : x.length = n) (hK : K ≤ 1000000) (hn2 : n ≤ 1000000)
    (h : ∀ a' cap' w', w'.ownsRow base 5 1 (.slice a' (K + n) cap') (K + n) (bvs (bs ++ x)) → Fx (fun k => (Value.slice ta K cap).ownBlock = some k) w w' →
      ((Value.slice a' (K + n) cap').ownBlock = (Value.slice ta K cap).ownBlock ∨ ∃ g, (Value.slice a' (K + n) cap').ownBlock = some g ∧ w.heap.size ≤ g) → wpList Tryd.prog ops Q rest (ac.put o.dst (.slice a' (K + n) cap')) w') : wpList Tryd.prog ops Q (o :: rest) ac w :=
  wpList_plain hgd fun _ hK' => by
    obtain ⟨a', cap', w', hr, h2, h3, h4⟩ := app_run (c := c) o.type hown hbs hx hn hK hn2
    unfold Oper.wp execOp
    simp only [ho, resolve, invoke, builtin, Sem.run_bind, Sem.run_pure, Result.andThen_ok, List.map_toArray, List.map_cons, List.map_nil, hs, hxx, hr]
    exact hK' _ _ (h a' cap' w' h2 h3 h4)
set_option maxRecDepth 100000 in
theorem put_any {w : World} {p n c : Nat} {o : Option Nat} {F x : List Int} {ra : Option Addr} (h : WR w p o F) (hx : BytesAt w ra x) (hn : x.length = n) (hn2 : n ≤ 4096) :
    Calls Tryd.prog 61 #[.pointer (some ⟨p, 0, none⟩), .slice ra n c] w fun e w' => e = .returned (.tuple #[]) ∧ ∃ o', WR w' p o' (F ++ x) ∧ St p o w o' w' := by
  obtain ⟨ta, K, cap, bs, a1, a2, a3, a4, a5⟩ := h
  have hpl := a3.lt
  have c0 := a3.cell (i := 0) rfl
  by_cases hK : K ≤ 65536
  · have hd : decide ((K : Int) ≤ 65536) = true := by simp; omega
    have HA : Hid (Cut (F ++ x) (bs ++ x)) := hid_mk (a1.up (by omega) (by omega))
    have HX := hid_mk hx
    have HB := hid_mk a3
    have HO := hid_mk a4
    have hL : Hid (x.length = n) := hn
    have hL2 : Hid (bs.length = K) := a2
    have hb1 : Hid (K ≤ 1000000 ∧ n ≤ 1000000) := ⟨by omega, by omega⟩
    have hH := hid_mk hpl
    have H5 := hid_mk a5
    clear a1 a2 a3 a4 hx hn hn2 hK hpl a5
    go_enter Tryd.func61, Tryd.ntmps61
    go_wp2_with (at_builtin; refine app_step rfl _ _ rfl rfl rfl HO.out (by have := hH.out; omega) HX.out hL.out hb1.out.1 hb1.out.2 ?_)
    intro a' cap' w' q1 q2 q3
    have b1 := HB.out.fx q2 (fun q => by have := (own_ge HO.out q).1; omega)
    have c1 := b1.cell (i := 0) rfl
    have z1 := b1.frozen 0
    have H1 := hid_mk q1
    have H2 := hid_mk q2
    have H3 := hid_mk q3
    have HB1 := hid_mk b1
    clear q1 q2 q3 b1
    obtain ⟨M, hM⟩ : ∃ M, M = K + n := ⟨_, rfl⟩
    rw [← hM] at H1 H3 ⊢
    have HM := hid_mk hM
    clear hM
    go_wp2
    refine bodyPost_end (results_none Tryd.results61 _ _ _) rfl ⟨rfl, (Value.slice a' M cap').ownBlock, ⟨a', M, cap', bs ++ x, HA.out, ?_, HB1.out.set 0 _, ?_, rfl⟩, ?_, ?_⟩
    · rw [List.length_append, hL.out, hL2.out, HM.out]
    · refine own_fx (S := fun k => k = p) H1.out ((Fx.refl (fun k => k = p) _).set (p := ⟨p, 0, none⟩) (.inl rfl) _) ?_
      intro g hg e
      have := (own_ge H1.out hg).1
      omega
    · exact (H2.out.wide (fun k _ q => .inr (H5.out.symm.trans q))).set (.inl (.inl rfl)) _
    · rw [← H5.out]; exact H3.out
  · have hd : decide ((K : Int) ≤ 65536) = false := by simp; omega
    have HA : Hid (Cut (F ++ x) bs) := hid_mk (a1.full (by omega))
    have HB := hid_mk a3
    have HO := hid_mk a4
    have hL2 : Hid (bs.length = K) := a2
    have H5 := hid_mk a5
    clear a1 a2 a3 a4 hx hn hn2 hK hpl a5
    go_enter Tryd.func61, Tryd.ntmps61
    go_wp2
    exact bodyPost_end (results_none Tryd.results61 _ _ _) rfl ⟨rfl, o, ⟨ta, K, cap, bs, HA.out, hL2.out, HB.out, HO.out, H5.out⟩, St.refl _ _ _⟩
end Go.Proofs.YtkghabmgofgclaaDoor
