import Derived.Test.YtjbbkeoolodeaaaGreatDoorG07
namespace Go.Proofs.YtjbbkeoolodeaaaGreatDoor
open Go.RowKit
set_option linter.unusedVariables false
set_option linter.unusedSimpArgs false

theorem out_two {w w1 w2 : World} (h : Out 0 0 w w1) (g : Below w1.heap.size w1 w2) : Out 0 0 w w2 := h.trans (Out.of_below g _ _)
theorem calls_out {f : FuncId} {args : Array Value} {v : Value} {w : World} {w0 : World} (h : Calls Tryz.prog f args w (fun e w' => e = .returned v ∧ Below w.heap.size w w')) (h0 : Out 0 0 w0 w) : Calls Tryz.prog f args w (fun e w' => e = .returned v ∧ Out 0 0 w0 w') :=
  h.mono fun _ _ ⟨he, hb⟩ => ⟨he, out_two h0 hb⟩
theorem roomN_big {s : Int} (h : 32 < s) (h2 : s ≤ 1024) : ((roomN s : Nat) : Int) = pagesV s * 64 ∧ 0 < pagesV s ∧ pagesV s ≤ 16 := by
  unfold roomN pagesV
  rw [if_pos h, if_pos ⟨h, h2⟩]
  omega
theorem roomN_small {s : Int} (h1 : 1 ≤ s) (h : s ≤ 32) : ((roomN s : Nat) : Int) = wordsV (ofV s) ∧ pagesV s = 0 := by
  have := of_small h1 h
  unfold roomN wN pagesV
  rw [if_neg (by omega), if_neg (by omega)]
  omega
theorem room_any (s : Int) (h1 : 1 ≤ s) (h2 : s ≤ 1024) (w : World) : Calls Tryz.prog 75 #[.int .i64 s] w fun e w' => e = .returned (.int .i64 (roomN s : Nat)) ∧ Out 0 0 w w' := by
  have HP := hid_mk (calls_out (pages_any s w) (Out.refl 0 0 w))
  by_cases h : 32 < s
  · obtain ⟨e1, e2, e3⟩ := roomN_big h h2
    rw [e1]
    generalize pagesV s = k at *
    clear h h1 h2 e1
    go_enter Tryz.func75, Tryz.ntmps75
    go_wp2_with (go_at_call 93; refine HP.out.mono ?_; rintro e w1 ⟨rfl, ho⟩)
    go_ret
    exact ⟨rfl, ho⟩
  · obtain ⟨e1, e2⟩ := roomN_small h1 (by omega)
    rw [e1]
    rw [e2] at HP
    have HO := hid_mk (fun w' (h : Out 0 0 w w') => calls_out (of_any s w') h)
    have HW := hid_mk (fun w' (h : Out 0 0 w w') => calls_out (cwords_any (ofV s) w') h)
    generalize ofV s = c at *
    generalize wordsV c = k at *
    clear h h1 h2 e1 e2
    go_enter Tryz.func75, Tryz.ntmps75
    go_wp2_with (first
      | (go_at_call 93; refine HP.out.mono ?_; rintro e w1 ⟨rfl, ho⟩)
      | (go_at_call 96; refine (HO.out _ ho).mono ?_; rintro e w2 ⟨rfl, ho2⟩)
      | (go_at_call 123; refine (HW.out _ ho2).mono ?_; rintro e w3 ⟨rfl, ho3⟩))
    go_ret
    exact ⟨rfl, ho3⟩
section
variable {w : World} {lo hi n cap : Nat} {s : Nat → Nat} {r : Raw}
/-- what Check tells: the error, its place -/
def chkE (r : Raw) (a : Int) : Int := match r.M a with | none => 22 | some b => if r.W a.toNat = makeV a b.1 b.2.1 then 0 else 21
def chkA (r : Raw) (a : Int) : Int := match r.M a with | none => 0 | some b => if r.W a.toNat = makeV a b.1 b.2.1 then 0 else a
theorem flt_facts {w : World} {g : Nat} {x y : Int} {T : TypeId} (h : w.heap[g]? = some (.cells #[.int .i64 x, .int .i64 y] T (0, 0))) :
    w.cell? ⟨g, 0, none⟩ = some (.int .i64 x) ∧ w.cell? ⟨g, 1, none⟩ = some (.int .i64 y) ∧ w.frozen? ⟨g, 0, none⟩ = false ∧ w.frozen? ⟨g, 1, none⟩ = false := by
  refine ⟨?_, ?_, ?_, ?_⟩ <;> simp [World.cell?, World.frozen?, h]
theorem flt_set {w : World} {g : Nat} {x y x' y' : Int} {T : TypeId} (h : w.heap[g]? = some (.cells #[.int .i64 x, .int .i64 y] T (0, 0))) :
    ((w.setCell ⟨g, 0, none⟩ (.int .i64 x')).setCell ⟨g, 1, none⟩ (.int .i64 y')).heap[g]? = some (.cells #[.int .i64 x', .int .i64 y'] T (0, 0)) := by
  simp [World.setCell, Array.getElem?_modify, h]
theorem Out.set2 {lo hi : Nat} {a w : World} (h : Out lo hi a w) {b o o' : Nat} (hp : (lo ≤ b ∧ b < hi) ∨ a.heap.size ≤ b) (x y : Value) : Out lo hi a ((w.setCell ⟨b, o, none⟩ x).setCell ⟨b, o', none⟩ y) :=
  (h.setCell (p := ⟨b, o, none⟩) hp x).setCell (p := ⟨b, o', none⟩) hp y
def bo (a k z x t : Int) : Obj := .cells #[.int .i64 a, .int .i64 k, .int .i64 z, .int .i64 x, .int .i64 t] 92
theorem bo_facts {w : World} {g : Nat} {a k z x t : Int} (h : w.heap[g]? = some (bo a k z x t)) :
    w.cell? ⟨g, 0, none⟩ = some (.int .i64 a) ∧ w.cell? ⟨g, 1, none⟩ = some (.int .i64 k) ∧ w.cell? ⟨g, 2, none⟩ = some (.int .i64 z) ∧ w.cell? ⟨g, 3, none⟩ = some (.int .i64 x) ∧ w.cell? ⟨g, 4, none⟩ = some (.int .i64 t) := by
  unfold bo at h
  refine ⟨?_, ?_, ?_, ?_, ?_⟩ <;> simp [World.cell?, h]
end
end Go.Proofs.YtjbbkeoolodeaaaGreatDoor
