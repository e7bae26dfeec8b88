import Derived.Test.YtcpignkjlnjjmaaGreatDoorNa10
import Derived.Test.YtcpignkjlnjjmaaGreatDoorNa11
namespace Go.Proofs.YtcpignkjlnjjmaaGreatDoor
open Go.RowKit
set_option linter.unusedVariables false
set_option linter.unusedSimpArgs false

theorem out_two {w w1 w2 : World} (h : Out 0 0 w w1) (g : Below w1.heap.size w1 w2) : Out 0 0 w w2 := h.trans (Out.of_below g _ _)
theorem calls_out {f : FuncId} {args : Array Value} {v : Value} {w : World} {w0 : World} (h : Calls Tryz.prog f args w (fun e w' => e = .returned v ∧ Below w.heap.size w w')) (h0 : Out 0 0 w0 w) : Calls Tryz.prog f args w (fun e w' => e = .returned v ∧ Out 0 0 w0 w') :=
  h.mono fun _ _ ⟨he, hb⟩ => ⟨he, out_two h0 hb⟩
theorem roomN_big {s : Int} (h : 32 < s) (h2 : s ≤ 1024) : ((roomN s : Nat) : Int) = pagesV s * 64 ∧ 0 < pagesV s ∧ pagesV s ≤ 16 := by
  unfold roomN pagesV
  rw [if_pos h, if_pos ⟨h, h2⟩]
  omega
theorem roomN_small {s : Int} (h1 : 1 ≤ s) (h : s ≤ 32) : ((roomN s : Nat) : Int) = wordsV (ofV s) ∧ pagesV s = 0 := by
  have := of_small h1 h
  unfold roomN wN pagesV
  rw [if_neg (by omega), if_neg (by omega)]
  omega
theorem room_any (s : Int) (h1 : 1 ≤ s) (h2 : s ≤ 1024) (w : World) : Calls Tryz.prog 93 #[.int .i64 s] w fun e w' => e = .returned (.int .i64 (roomN s : Nat)) ∧ Out 0 0 w w' := by
  have HP := hid_mk (calls_out (pages_any s w) (Out.refl 0 0 w))
  by_cases h : 32 < s
  · obtain ⟨e1, e2, e3⟩ := roomN_big h h2
    rw [e1]
    generalize pagesV s = k at *
    clear h h1 h2 e1
    go_enter Tryz.func93, Tryz.ntmps93
    go_wp2_with (go_at_call 88; refine HP.out.mono ?_; rintro e w1 ⟨rfl, ho⟩)
    go_ret
    exact ⟨rfl, ho⟩
  · obtain ⟨e1, e2⟩ := roomN_small h1 (by omega)
    rw [e1]
    rw [e2] at HP
    have HO := hid_mk (fun w' (h : Out 0 0 w w') => calls_out (of_any s w') h)
    have HW := hid_mk (fun w' (h : Out 0 0 w w') => calls_out (cwords_any (ofV s) w') h)
    generalize ofV s = c at *
    generalize wordsV c = k at *
    clear h h1 h2 e1 e2
    go_enter Tryz.func93, Tryz.ntmps93
    go_wp2_with (first
      | (go_at_call 88; refine HP.out.mono ?_; rintro e w1 ⟨rfl, ho⟩)
      | (go_at_call 91; refine (HO.out _ ho).mono ?_; rintro e w2 ⟨rfl, ho2⟩)
      | (go_at_call 104; refine (HW.out _ ho2).mono ?_; rintro e w3 ⟨rfl, ho3⟩))
    go_ret
    exact ⟨rfl, ho3⟩
section
variable {w : World} {lo hi n cap : Nat} {s : Nat → Nat} {r : Raw}
/-- what Check tells: the error, its place -/
def chkE (r : Raw) (a : Int) : Int := match r.M a with | none => 22 | some b => if r.W a.toNat = makeV a b.1 b.2.1 then 0 else 21
def chkA (r : Raw) (a : Int) : Int := match r.M a with | none => 0 | some b => if r.W a.toNat = makeV a b.1 b.2.1 then 0 else a
/-- objects stand in the arena -/
def InArena (n : Nat) (r : Raw) : Prop := ∀ a b, r.M a = some b → 0 ≤ a ∧ a + b.2.1 ≤ 64 * n ∧ 1 ≤ b.2.1 ∧ b.2.1 ≤ 1024
theorem flt_facts {w : World} {g : Nat} {x y : Int} {T : TypeId} (h : w.heap[g]? = some (.cells #[.int .i64 x, .int .i64 y] T (0, 0))) :
    w.cell? ⟨g, 0, none⟩ = some (.int .i64 x) ∧ w.cell? ⟨g, 1, none⟩ = some (.int .i64 y) ∧ w.frozen? ⟨g, 0, none⟩ = false ∧ w.frozen? ⟨g, 1, none⟩ = false := by
  refine ⟨?_, ?_, ?_, ?_⟩ <;> simp [World.cell?, World.frozen?, h]
theorem flt_set {w : World} {g : Nat} {x y x' y' : Int} {T : TypeId} (h : w.heap[g]? = some (.cells #[.int .i64 x, .int .i64 y] T (0, 0))) :
    ((w.setCell ⟨g, 0, none⟩ (.int .i64 x')).setCell ⟨g, 1, none⟩ (.int .i64 y')).heap[g]? = some (.cells #[.int .i64 x', .int .i64 y'] T (0, 0)) := by
  simp [World.setCell, Array.getElem?_modify, h]
theorem Out.set2 {lo hi : Nat} {a w : World} (h : Out lo hi a w) {b o o' : Nat} (hp : (lo ≤ b ∧ b < hi) ∨ a.heap.size ≤ b) (x y : Value) : Out lo hi a ((w.setCell ⟨b, o, none⟩ x).setCell ⟨b, o', none⟩ y) :=
  (h.setCell (p := ⟨b, o, none⟩) hp x).setCell (p := ⟨b, o', none⟩) hp y
def bz : Obj := .cells #[.int .i64 0, .int .i64 0, .int .i64 0, .int .i64 0, .int .i64 0] 44
def bo (a k z x t : Int) : Obj := .cells #[.int .i64 a, .int .i64 k, .int .i64 z, .int .i64 x, .int .i64 t] 44
def fz : Obj := .cells #[.int .i64 0, .int .i64 0] 33
theorem bo_facts {w : World} {g : Nat} {a k z x t : Int} (h : w.heap[g]? = some (bo a k z x t)) :
    w.cell? ⟨g, 0, none⟩ = some (.int .i64 a) ∧ w.cell? ⟨g, 1, none⟩ = some (.int .i64 k) ∧ w.cell? ⟨g, 2, none⟩ = some (.int .i64 z) ∧ w.cell? ⟨g, 3, none⟩ = some (.int .i64 x) ∧ w.cell? ⟨g, 4, none⟩ = some (.int .i64 t) := by
  unfold bo at h
  refine ⟨?_, ?_, ?_, ?_, ?_⟩ <;> simp [World.cell?, h]
set_option maxHeartbeats 1000000 in
theorem check_any (h : RawAt w lo hi s n cap r) (hM : InArena n r) (a : Int) : Calls Tryz.prog 55 #[.pointer (some ⟨s 14, 0, none⟩), .int .i64 a] w fun e w' => e = .returned (fltV (chkE r a) (chkA r a)) ∧ Out 0 0 w w' := by
  have h0 : Out 0 0 w (w.alloc (.cells #[.int .i64 0, .int .i64 0] 33)) := (Out.refl 0 0 w).alloc _
  have hz : (w.alloc (.cells #[.int .i64 0, .int .i64 0] 33)).heap[w.heap.size]? = some (.cells #[.int .i64 0, .int .i64 0] 33 (0, 0)) := heap_alloc_new _ _
  have HZ := hid_mk hz
  have H0 := hid_mk h0
  cases hm : r.M a with
  | none =>
    have HB := hid_mk (block_none (h.quiet h0) hm)
    have e1 : chkE r a = 22 := by unfold chkE; rw [hm]
    have e2 : chkA r a = 0 := by unfold chkA; rw [hm]
    rw [e1, e2]
    clear h hM hm e1 e2 h0 hz
    go_enter Tryz.func55, Tryz.ntmps55
    go_wp2_with (go_at_call 40; refine HB.out.mono ?_; rintro e w1 ⟨rfl, ho⟩; obtain ⟨q0, q1, q2, q3⟩ := flt_facts ((ho.alloc (.cells #[.int .i64 0, .int .i64 0, .int .i64 0, .int .i64 0, .int .i64 0] 44)).heap HZ.out (.inr (Nat.zero_le _))); have HO := hid_mk ho; clear ho)
    refine retFlt Tryz.results55 rfl rfl (flt_set ((HO.out.alloc _).heap HZ.out (.inr (Nat.zero_le _)))) ⟨rfl, ((H0.out.trans HO.out).alloc _).set2 (.inr (Nat.le_refl _)) _ _⟩
  | some b =>
    obtain ⟨k, z, x, t⟩ := b
    obtain ⟨a0, a1', a2', a3'⟩ := hM a _ hm
    have a1 : a < 64 * n := by simp only at a1' a2'; omega
    clear a1' a2' a3'
    obtain ⟨c, rfl⟩ : ∃ c : Nat, a = c := ⟨a.toNat, by omega⟩
    have HB := hid_mk (block_some (h.quiet h0) hm)
    have HH := hid_mk (fun w' (o : Out 0 0 w w') => headed_any (h.quiet o) (a := c) (by omega) k z x t)
    have e1 : chkE r (c : Int) = if r.W c = makeV c k z then 0 else 21 := by unfold chkE; rw [hm]; rfl
    have e2 : chkA r (c : Int) = if r.W c = makeV c k z then 0 else (c : Int) := by unfold chkA; rw [hm]; rfl
    rw [e1, e2]
    have b0 : (0 : Int) ≤ (c : Int) := by omega
    generalize hcc : (c : Int) = a at *
    by_cases hv : r.W c = makeV a k z
    · rw [if_pos hv, if_pos hv]
      have hb : (r.W c == makeV a k z) = true := by simp [hv]
      rw [hb] at HH
      clear h hM hm e1 e2 h0 hz hv hb a1
      go_enter Tryz.func55, Tryz.ntmps55
      go_wp2_with (first
        | (go_at_call 40; refine HB.out.mono ?_; rintro e w1 ⟨rfl, ho⟩; obtain ⟨q0, q1, q2, q3⟩ := flt_facts ((ho.alloc (.cells #[.int .i64 a, .int .i64 k, .int .i64 z, .int .i64 x, .int .i64 t] 44)).heap HZ.out (.inr (Nat.zero_le _))); have HO := hid_mk (ho.alloc (.cells #[.int .i64 a, .int .i64 k, .int .i64 z, .int .i64 x, .int .i64 t] 44)); clear ho)
        | (go_at_call 77; refine (HH.out _ (H0.out.trans HO.out)).mono ?_; rintro e w2 ⟨rfl, ho⟩; obtain ⟨q4, q5, q6, q7⟩ := flt_facts ((HO.out.trans ho).heap HZ.out (.inr (Nat.zero_le _))); have HO2 := hid_mk (HO.out.trans ho); clear ho q0 q1 q2 q3))
      refine retFlt Tryz.results55 rfl rfl (flt_set (HO2.out.heap HZ.out (.inr (Nat.zero_le _)))) ⟨rfl, (H0.out.trans HO2.out).set2 (.inr (Nat.le_refl _)) _ _⟩
    · rw [if_neg hv, if_neg hv]
      have hb : (r.W c == makeV a k z) = false := by simp [hv]
      rw [hb] at HH
      clear h hM hm e1 e2 h0 hz hv hb a1
      go_enter Tryz.func55, Tryz.ntmps55
      go_wp2_with (first
        | (go_at_call 40; refine HB.out.mono ?_; rintro e w1 ⟨rfl, ho⟩; obtain ⟨q0, q1, q2, q3⟩ := flt_facts ((ho.alloc (.cells #[.int .i64 a, .int .i64 k, .int .i64 z, .int .i64 x, .int .i64 t] 44)).heap HZ.out (.inr (Nat.zero_le _))); have HO := hid_mk (ho.alloc (.cells #[.int .i64 a, .int .i64 k, .int .i64 z, .int .i64 x, .int .i64 t] 44)); clear ho)
        | (go_at_call 77; refine (HH.out _ (H0.out.trans HO.out)).mono ?_; rintro e w2 ⟨rfl, ho⟩; obtain ⟨q4, q5, q6, q7⟩ := flt_facts ((HO.out.trans ho).heap HZ.out (.inr (Nat.zero_le _))); have HO2 := hid_mk (HO.out.trans ho); clear ho q0 q1 q2 q3))
      refine retFlt Tryz.results55 rfl rfl (flt_set (HO2.out.heap HZ.out (.inr (Nat.zero_le _)))) ⟨rfl, (H0.out.trans HO2.out).set2 (.inr (Nat.le_refl _)) _ _⟩
def wrdE (r : Raw) (a i : Int) : Int := match r.M a with | none => 22 | some b => if r.W a.toNat = makeV a b.1 b.2.1 then (if i < 1 ∨ b.2.1 ≤ i then 23 else 0) else 21
end
end Go.Proofs.YtcpignkjlnjjmaaGreatDoor
namespace Go.Proofs.YtcpignkjlnjjmaaGreatDoor
open Go.RowKit
set_option linter.unusedVariables false
set_option linter.unusedSimpArgs false

theorem out_below {w w' : World} (h : Below w.heap.size w w') : Out 0 0 w w' := ⟨h.os, h.tape, h.output, h.size, fun k hk _ => h.block k hk⟩
theorem out_flt (w : World) (g : Nat) (y0 y1 : Value) : Out g (g + 1) w ((w.setCell ⟨g, 0, none⟩ y0).setCell ⟨g, 1, none⟩ y1) :=
  ((Out.refl _ _ _).setCell (p := ⟨g, 0, none⟩) (.inl ⟨Nat.le_refl _, Nat.lt_succ_self _⟩) _).setCell (p := ⟨g, 1, none⟩) (.inl ⟨Nat.le_refl _, Nat.lt_succ_self _⟩) _
theorem catchMake_idle {g : Nat} {x y : Int} {w : World} (hg : w.heap[g]? = some (.cells #[.int .i64 x, .int .i64 y] 33 (0, 0))) :
    CallsD Tryz.prog 47 #[.pointer (some ⟨g, 0, none⟩)] .returning w fun e u' w' => e = .returned (.tuple #[]) ∧ u' = .returning ∧ w'.heap[g]? = some (.cells #[.int .i64 0, .int .i64 0] 33 (0, 0)) ∧ Out g (g + 1) w w' := by
  refine callsD_of_wpS Tryz.func47 rfl fun c₀ cs hu => ?_
  apply wpS_region
  simp [wpOpsS, go_sem, recoverD, hu, Tryz.ntmps47, Exit.thenS]
  refine (caught_nil w).mono ?_
  rintro e w1 ⟨rfl, o1⟩
  have h1 := o1.heap hg (.inr (Nat.zero_le _))
  obtain ⟨a1, a2, a3, a4⟩ := flt_facts h1
  have h2 := flt_set (x' := 0) (y' := 0) h1
  have h3 := (o1.any g (g + 1)).trans (out_flt w1 g (.int .i64 0) (.int .i64 0))
  have c2 : (w1.setCell ⟨g, 0, none⟩ (.int .i64 0)).cell? ⟨g, 1, none⟩ = some (.int .i64 y) := by simp [World.cell?, World.setCell, Array.getElem?_modify, h1]
  have c3 : (w1.setCell ⟨g, 0, none⟩ (.int .i64 0)).frozen? ⟨g, 1, none⟩ = false := by simp [World.frozen?, World.setCell, Array.getElem?_modify, h1]
  simp [go_sem, storeCells, a1, a2, a3, a4, c2, c3, bodyPostS, results, Tryz.results47]
  cases c₀
  simp_all
theorem catchMake_stop {g : Nat} {x y e a : Int} {older : List PanicEntry} {w : World} (hg : w.heap[g]? = some (.cells #[.int .i64 x, .int .i64 y] 33 (0, 0))) :
    CallsD Tryz.prog 47 #[.pointer (some ⟨g, 0, none⟩)] (.panicking (stopP e a :: older)) w fun e' u' w' => e' = .returned (.tuple #[]) ∧ u' = .panicking ({ v := .iface 106 (.agg #[.int .i64 e, .int .i64 a]), recovered := true } :: older) ∧ w'.heap[g]? = some (.cells #[.int .i64 e, .int .i64 a] 33 (0, 0)) ∧ Out g (g + 1) w w' := by
  refine callsD_of_wpS Tryz.func47 rfl fun c₀ cs hu => ?_
  apply wpS_region
  unfold stopP at hu
  simp [wpOpsS, go_sem, recoverD, hu, Tryz.ntmps47, Exit.thenS]
  refine (caught_stop e a w).mono ?_
  rintro e' w1 ⟨rfl, o1⟩
  have h1 := o1.heap hg (.inr (Nat.zero_le _))
  obtain ⟨a1, a2, a3, a4⟩ := flt_facts h1
  have h2 := flt_set (x' := e) (y' := a) h1
  have h3 := (o1.any g (g + 1)).trans (out_flt w1 g (.int .i64 e) (.int .i64 a))
  have c2 : (w1.setCell ⟨g, 0, none⟩ (.int .i64 e)).cell? ⟨g, 1, none⟩ = some (.int .i64 y) := by simp [World.cell?, World.setCell, Array.getElem?_modify, h1]
  have c3 : (w1.setCell ⟨g, 0, none⟩ (.int .i64 e)).frozen? ⟨g, 1, none⟩ = false := by simp [World.frozen?, World.setCell, Array.getElem?_modify, h1]
  simp [go_sem, storeCells, a1, a2, a3, a4, c2, c3, bodyPostS, results, Tryz.results47]
  exact ⟨h2, h3⟩
theorem catchOpen_idle {g : Nat} {x y : Int} {w : World} (hg : w.heap[g]? = some (.cells #[.int .i64 x, .int .i64 y] 33 (0, 0))) :
    CallsD Tryz.prog 31 #[.pointer (some ⟨g, 0, none⟩)] .returning w fun e u' w' => e = .returned (.tuple #[]) ∧ u' = .returning ∧ w'.heap[g]? = some (.cells #[.int .i64 0, .int .i64 0] 33 (0, 0)) ∧ Out g (g + 1) w w' := by
  refine callsD_of_wpS Tryz.func31 rfl fun c₀ cs hu => ?_
  apply wpS_region
  simp [wpOpsS, go_sem, recoverD, hu, Tryz.ntmps31, Exit.thenS]
  refine (caught_nil w).mono ?_
  rintro e w1 ⟨rfl, o1⟩
  have h1 := o1.heap hg (.inr (Nat.zero_le _))
  obtain ⟨a1, a2, a3, a4⟩ := flt_facts h1
  have h2 := flt_set (x' := 0) (y' := 0) h1
  have h3 := (o1.any g (g + 1)).trans (out_flt w1 g (.int .i64 0) (.int .i64 0))
  have c2 : (w1.setCell ⟨g, 0, none⟩ (.int .i64 0)).cell? ⟨g, 1, none⟩ = some (.int .i64 y) := by simp [World.cell?, World.setCell, Array.getElem?_modify, h1]
  have c3 : (w1.setCell ⟨g, 0, none⟩ (.int .i64 0)).frozen? ⟨g, 1, none⟩ = false := by simp [World.frozen?, World.setCell, Array.getElem?_modify, h1]
  simp [go_sem, storeCells, a1, a2, a3, a4, c2, c3, bodyPostS, results, Tryz.results31]
  cases c₀
  simp_all
theorem catchOpen_stop {g : Nat} {x y e a : Int} {older : List PanicEntry} {w : World} (hg : w.heap[g]? = some (.cells #[.int .i64 x, .int .i64 y] 33 (0, 0))) :
    CallsD Tryz.prog 31 #[.pointer (some ⟨g, 0, none⟩)] (.panicking (stopP e a :: older)) w fun e' u' w' => e' = .returned (.tuple #[]) ∧ u' = .panicking ({ v := .iface 106 (.agg #[.int .i64 e, .int .i64 a]), recovered := true } :: older) ∧ w'.heap[g]? = some (.cells #[.int .i64 e, .int .i64 a] 33 (0, 0)) ∧ Out g (g + 1) w w' := by
  refine callsD_of_wpS Tryz.func31 rfl fun c₀ cs hu => ?_
  apply wpS_region
  unfold stopP at hu
  simp [wpOpsS, go_sem, recoverD, hu, Tryz.ntmps31, Exit.thenS]
  refine (caught_stop e a w).mono ?_
  rintro e' w1 ⟨rfl, o1⟩
  have h1 := o1.heap hg (.inr (Nat.zero_le _))
  obtain ⟨a1, a2, a3, a4⟩ := flt_facts h1
  have h2 := flt_set (x' := e) (y' := a) h1
  have h3 := (o1.any g (g + 1)).trans (out_flt w1 g (.int .i64 e) (.int .i64 a))
  have c2 : (w1.setCell ⟨g, 0, none⟩ (.int .i64 e)).cell? ⟨g, 1, none⟩ = some (.int .i64 y) := by simp [World.cell?, World.setCell, Array.getElem?_modify, h1]
  have c3 : (w1.setCell ⟨g, 0, none⟩ (.int .i64 e)).frozen? ⟨g, 1, none⟩ = false := by simp [World.frozen?, World.setCell, Array.getElem?_modify, h1]
  simp [go_sem, storeCells, a1, a2, a3, a4, c2, c3, bodyPostS, results, Tryz.results31]
  exact ⟨h2, h3⟩
theorem catchGet_idle {g : Nat} {x y : Int} {w : World} (hg : w.heap[g]? = some (.cells #[.int .i64 x, .int .i64 y] 33 (0, 0))) :
    CallsD Tryz.prog 33 #[.pointer (some ⟨g, 0, none⟩)] .returning w fun e u' w' => e = .returned (.tuple #[]) ∧ u' = .returning ∧ w'.heap[g]? = some (.cells #[.int .i64 0, .int .i64 0] 33 (0, 0)) ∧ Out g (g + 1) w w' := by
  refine callsD_of_wpS Tryz.func33 rfl fun c₀ cs hu => ?_
  apply wpS_region
  simp [wpOpsS, go_sem, recoverD, hu, Tryz.ntmps33, Exit.thenS]
  refine (caught_nil w).mono ?_
  rintro e w1 ⟨rfl, o1⟩
  have h1 := o1.heap hg (.inr (Nat.zero_le _))
  obtain ⟨a1, a2, a3, a4⟩ := flt_facts h1
  have h2 := flt_set (x' := 0) (y' := 0) h1
  have h3 := (o1.any g (g + 1)).trans (out_flt w1 g (.int .i64 0) (.int .i64 0))
  have c2 : (w1.setCell ⟨g, 0, none⟩ (.int .i64 0)).cell? ⟨g, 1, none⟩ = some (.int .i64 y) := by simp [World.cell?, World.setCell, Array.getElem?_modify, h1]
  have c3 : (w1.setCell ⟨g, 0, none⟩ (.int .i64 0)).frozen? ⟨g, 1, none⟩ = false := by simp [World.frozen?, World.setCell, Array.getElem?_modify, h1]
  simp [go_sem, storeCells, a1, a2, a3, a4, c2, c3, bodyPostS, results, Tryz.results33]
  cases c₀
  simp_all
theorem catchGet_stop {g : Nat} {x y e a : Int} {older : List PanicEntry} {w : World} (hg : w.heap[g]? = some (.cells #[.int .i64 x, .int .i64 y] 33 (0, 0))) :
    CallsD Tryz.prog 33 #[.pointer (some ⟨g, 0, none⟩)] (.panicking (stopP e a :: older)) w fun e' u' w' => e' = .returned (.tuple #[]) ∧ u' = .panicking ({ v := .iface 106 (.agg #[.int .i64 e, .int .i64 a]), recovered := true } :: older) ∧ w'.heap[g]? = some (.cells #[.int .i64 e, .int .i64 a] 33 (0, 0)) ∧ Out g (g + 1) w w' := by
  refine callsD_of_wpS Tryz.func33 rfl fun c₀ cs hu => ?_
  apply wpS_region
  unfold stopP at hu
  simp [wpOpsS, go_sem, recoverD, hu, Tryz.ntmps33, Exit.thenS]
  refine (caught_stop e a w).mono ?_
  rintro e' w1 ⟨rfl, o1⟩
  have h1 := o1.heap hg (.inr (Nat.zero_le _))
  obtain ⟨a1, a2, a3, a4⟩ := flt_facts h1
  have h2 := flt_set (x' := e) (y' := a) h1
  have h3 := (o1.any g (g + 1)).trans (out_flt w1 g (.int .i64 e) (.int .i64 a))
  have c2 : (w1.setCell ⟨g, 0, none⟩ (.int .i64 e)).cell? ⟨g, 1, none⟩ = some (.int .i64 y) := by simp [World.cell?, World.setCell, Array.getElem?_modify, h1]
  have c3 : (w1.setCell ⟨g, 0, none⟩ (.int .i64 e)).frozen? ⟨g, 1, none⟩ = false := by simp [World.frozen?, World.setCell, Array.getElem?_modify, h1]
  simp [go_sem, storeCells, a1, a2, a3, a4, c2, c3, bodyPostS, results, Tryz.results33]
  exact ⟨h2, h3⟩
theorem catchSet_idle {g : Nat} {x y : Int} {w : World} (hg : w.heap[g]? = some (.cells #[.int .i64 x, .int .i64 y] 33 (0, 0))) :
    CallsD Tryz.prog 38 #[.pointer (some ⟨g, 0, none⟩)] .returning w fun e u' w' => e = .returned (.tuple #[]) ∧ u' = .returning ∧ w'.heap[g]? = some (.cells #[.int .i64 0, .int .i64 0] 33 (0, 0)) ∧ Out g (g + 1) w w' := by
  refine callsD_of_wpS Tryz.func38 rfl fun c₀ cs hu => ?_
  apply wpS_region
  simp [wpOpsS, go_sem, recoverD, hu, Tryz.ntmps38, Exit.thenS]
  refine (caught_nil w).mono ?_
  rintro e w1 ⟨rfl, o1⟩
  have h1 := o1.heap hg (.inr (Nat.zero_le _))
  obtain ⟨a1, a2, a3, a4⟩ := flt_facts h1
  have h2 := flt_set (x' := 0) (y' := 0) h1
  have h3 := (o1.any g (g + 1)).trans (out_flt w1 g (.int .i64 0) (.int .i64 0))
  have c2 : (w1.setCell ⟨g, 0, none⟩ (.int .i64 0)).cell? ⟨g, 1, none⟩ = some (.int .i64 y) := by simp [World.cell?, World.setCell, Array.getElem?_modify, h1]
  have c3 : (w1.setCell ⟨g, 0, none⟩ (.int .i64 0)).frozen? ⟨g, 1, none⟩ = false := by simp [World.frozen?, World.setCell, Array.getElem?_modify, h1]
  simp [go_sem, storeCells, a1, a2, a3, a4, c2, c3, bodyPostS, results, Tryz.results38]
  cases c₀
  simp_all
theorem catchSet_stop {g : Nat} {x y e a : Int} {older : List PanicEntry} {w : World} (hg : w.heap[g]? = some (.cells #[.int .i64 x, .int .i64 y] 33 (0, 0))) :
    CallsD Tryz.prog 38 #[.pointer (some ⟨g, 0, none⟩)] (.panicking (stopP e a :: older)) w fun e' u' w' => e' = .returned (.tuple #[]) ∧ u' = .panicking ({ v := .iface 106 (.agg #[.int .i64 e, .int .i64 a]), recovered := true } :: older) ∧ w'.heap[g]? = some (.cells #[.int .i64 e, .int .i64 a] 33 (0, 0)) ∧ Out g (g + 1) w w' := by
  refine callsD_of_wpS Tryz.func38 rfl fun c₀ cs hu => ?_
  apply wpS_region
  unfold stopP at hu
  simp [wpOpsS, go_sem, recoverD, hu, Tryz.ntmps38, Exit.thenS]
  refine (caught_stop e a w).mono ?_
  rintro e' w1 ⟨rfl, o1⟩
  have h1 := o1.heap hg (.inr (Nat.zero_le _))
  obtain ⟨a1, a2, a3, a4⟩ := flt_facts h1
  have h2 := flt_set (x' := e) (y' := a) h1
  have h3 := (o1.any g (g + 1)).trans (out_flt w1 g (.int .i64 e) (.int .i64 a))
  have c2 : (w1.setCell ⟨g, 0, none⟩ (.int .i64 e)).cell? ⟨g, 1, none⟩ = some (.int .i64 y) := by simp [World.cell?, World.setCell, Array.getElem?_modify, h1]
  have c3 : (w1.setCell ⟨g, 0, none⟩ (.int .i64 e)).frozen? ⟨g, 1, none⟩ = false := by simp [World.frozen?, World.setCell, Array.getElem?_modify, h1]
  simp [go_sem, storeCells, a1, a2, a3, a4, c2, c3, bodyPostS, results, Tryz.results38]
  exact ⟨h2, h3⟩
theorem catchMakeText_idle {g : Nat} {x y : Int} {w : World} (hg : w.heap[g]? = some (.cells #[.int .i64 x, .int .i64 y] 33 (0, 0))) :
    CallsD Tryz.prog 22 #[.pointer (some ⟨g, 0, none⟩)] .returning w fun e u' w' => e = .returned (.tuple #[]) ∧ u' = .returning ∧ w'.heap[g]? = some (.cells #[.int .i64 0, .int .i64 0] 33 (0, 0)) ∧ Out g (g + 1) w w' := by
  refine callsD_of_wpS Tryz.func22 rfl fun c₀ cs hu => ?_
  apply wpS_region
  simp [wpOpsS, go_sem, recoverD, hu, Tryz.ntmps22, Exit.thenS]
  refine (caught_nil w).mono ?_
  rintro e w1 ⟨rfl, o1⟩
  have h1 := o1.heap hg (.inr (Nat.zero_le _))
  obtain ⟨a1, a2, a3, a4⟩ := flt_facts h1
  have h2 := flt_set (x' := 0) (y' := 0) h1
  have h3 := (o1.any g (g + 1)).trans (out_flt w1 g (.int .i64 0) (.int .i64 0))
  have c2 : (w1.setCell ⟨g, 0, none⟩ (.int .i64 0)).cell? ⟨g, 1, none⟩ = some (.int .i64 y) := by simp [World.cell?, World.setCell, Array.getElem?_modify, h1]
  have c3 : (w1.setCell ⟨g, 0, none⟩ (.int .i64 0)).frozen? ⟨g, 1, none⟩ = false := by simp [World.frozen?, World.setCell, Array.getElem?_modify, h1]
  simp [go_sem, storeCells, a1, a2, a3, a4, c2, c3, bodyPostS, results, Tryz.results22]
  cases c₀
  simp_all
theorem catchMakeText_stop {g : Nat} {x y e a : Int} {older : List PanicEntry} {w : World} (hg : w.heap[g]? = some (.cells #[.int .i64 x, .int .i64 y] 33 (0, 0))) :
    CallsD Tryz.prog 22 #[.pointer (some ⟨g, 0, none⟩)] (.panicking (stopP e a :: older)) w fun e' u' w' => e' = .returned (.tuple #[]) ∧ u' = .panicking ({ v := .iface 106 (.agg #[.int .i64 e, .int .i64 a]), recovered := true } :: older) ∧ w'.heap[g]? = some (.cells #[.int .i64 e, .int .i64 a] 33 (0, 0)) ∧ Out g (g + 1) w w' := by
  refine callsD_of_wpS Tryz.func22 rfl fun c₀ cs hu => ?_
  apply wpS_region
  unfold stopP at hu
  simp [wpOpsS, go_sem, recoverD, hu, Tryz.ntmps22, Exit.thenS]
  refine (caught_stop e a w).mono ?_
  rintro e' w1 ⟨rfl, o1⟩
  have h1 := o1.heap hg (.inr (Nat.zero_le _))
  obtain ⟨a1, a2, a3, a4⟩ := flt_facts h1
  have h2 := flt_set (x' := e) (y' := a) h1
  have h3 := (o1.any g (g + 1)).trans (out_flt w1 g (.int .i64 e) (.int .i64 a))
  have c2 : (w1.setCell ⟨g, 0, none⟩ (.int .i64 e)).cell? ⟨g, 1, none⟩ = some (.int .i64 y) := by simp [World.cell?, World.setCell, Array.getElem?_modify, h1]
  have c3 : (w1.setCell ⟨g, 0, none⟩ (.int .i64 e)).frozen? ⟨g, 1, none⟩ = false := by simp [World.frozen?, World.setCell, Array.getElem?_modify, h1]
  simp [go_sem, storeCells, a1, a2, a3, a4, c2, c3, bodyPostS, results, Tryz.results22]
  exact ⟨h2, h3⟩
theorem catchText_idle {g : Nat} {x y : Int} {w : World} (hg : w.heap[g]? = some (.cells #[.int .i64 x, .int .i64 y] 33 (0, 0))) :
    CallsD Tryz.prog 28 #[.pointer (some ⟨g, 0, none⟩)] .returning w fun e u' w' => e = .returned (.tuple #[]) ∧ u' = .returning ∧ w'.heap[g]? = some (.cells #[.int .i64 0, .int .i64 0] 33 (0, 0)) ∧ Out g (g + 1) w w' := by
  refine callsD_of_wpS Tryz.func28 rfl fun c₀ cs hu => ?_
  apply wpS_region
  simp [wpOpsS, go_sem, recoverD, hu, Tryz.ntmps28, Exit.thenS]
  refine (caught_nil w).mono ?_
  rintro e w1 ⟨rfl, o1⟩
  have h1 := o1.heap hg (.inr (Nat.zero_le _))
  obtain ⟨a1, a2, a3, a4⟩ := flt_facts h1
  have h2 := flt_set (x' := 0) (y' := 0) h1
  have h3 := (o1.any g (g + 1)).trans (out_flt w1 g (.int .i64 0) (.int .i64 0))
  have c2 : (w1.setCell ⟨g, 0, none⟩ (.int .i64 0)).cell? ⟨g, 1, none⟩ = some (.int .i64 y) := by simp [World.cell?, World.setCell, Array.getElem?_modify, h1]
  have c3 : (w1.setCell ⟨g, 0, none⟩ (.int .i64 0)).frozen? ⟨g, 1, none⟩ = false := by simp [World.frozen?, World.setCell, Array.getElem?_modify, h1]
  simp [go_sem, storeCells, a1, a2, a3, a4, c2, c3, bodyPostS, results, Tryz.results28]
  cases c₀
  simp_all
theorem catchText_stop {g : Nat} {x y e a : Int} {older : List PanicEntry} {w : World} (hg : w.heap[g]? = some (.cells #[.int .i64 x, .int .i64 y] 33 (0, 0))) :
    CallsD Tryz.prog 28 #[.pointer (some ⟨g, 0, none⟩)] (.panicking (stopP e a :: older)) w fun e' u' w' => e' = .returned (.tuple #[]) ∧ u' = .panicking ({ v := .iface 106 (.agg #[.int .i64 e, .int .i64 a]), recovered := true } :: older) ∧ w'.heap[g]? = some (.cells #[.int .i64 e, .int .i64 a] 33 (0, 0)) ∧ Out g (g + 1) w w' := by
  refine callsD_of_wpS Tryz.func28 rfl fun c₀ cs hu => ?_
  apply wpS_region
  unfold stopP at hu
  simp [wpOpsS, go_sem, recoverD, hu, Tryz.ntmps28, Exit.thenS]
  refine (caught_stop e a w).mono ?_
  rintro e' w1 ⟨rfl, o1⟩
  have h1 := o1.heap hg (.inr (Nat.zero_le _))
  obtain ⟨a1, a2, a3, a4⟩ := flt_facts h1
  have h2 := flt_set (x' := e) (y' := a) h1
  have h3 := (o1.any g (g + 1)).trans (out_flt w1 g (.int .i64 e) (.int .i64 a))
  have c2 : (w1.setCell ⟨g, 0, none⟩ (.int .i64 e)).cell? ⟨g, 1, none⟩ = some (.int .i64 y) := by simp [World.cell?, World.setCell, Array.getElem?_modify, h1]
  have c3 : (w1.setCell ⟨g, 0, none⟩ (.int .i64 e)).frozen? ⟨g, 1, none⟩ = false := by simp [World.frozen?, World.setCell, Array.getElem?_modify, h1]
  simp [go_sem, storeCells, a1, a2, a3, a4, c2, c3, bodyPostS, results, Tryz.results28]
  exact ⟨h2, h3⟩
end Go.Proofs.YtcpignkjlnjjmaaGreatDoor
