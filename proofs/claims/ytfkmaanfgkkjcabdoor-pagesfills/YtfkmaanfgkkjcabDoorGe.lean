/- pages: TakeRun, Give -/
import Derived.Test.YtfkmaanfgkkjcabDoorGd
namespace Go.Proofs.YtfkmaanfgkkjcabDoor
open Go.RowKit
set_option linter.unusedVariables false
set_option linter.unusedSimpArgs false

theorem elem_pages : Tryd.prog.elem 33 = 37 := by kernel_rfl
theorem size_page (w : World) : (sizeOf 37).run Tryd.prog w = .ok 3 w := by kernel_rfl
/-- a piece of a list: where it begins counts for nothing if it is empty -/
theorem slice_at (bw n cap lo hi : Nat) (h1 : lo ≤ hi) (h2 : hi ≤ cap) : ∃ o cp : Nat, (∀ wx, (Instr.slice 33 (.slice (some ⟨bw, 0, none⟩) n cap) (some (.int .i64 (lo : Int))) (some (.int .i64 (hi : Int))) none).run Tryd.prog wx = .ok (.slice (some ⟨bw, o, none⟩) (hi - lo) cp) wx) ∧ (0 < hi - lo → o = lo * 3) := by
  by_cases e : cap = lo
  · refine ⟨0, cap - lo, fun wx => ?_, fun h => by omega⟩
    rw [run_slice_lh wx 33 _ n cap (by rw [elem_pages]; exact Tryd.underlying33) .i64 .i64 (lo : Int) (hi : Int) (by omega) (by omega) (by omega), elem_pages, size_page]
    simp [Result.andThen, sliced, e]
  · refine ⟨lo * 3, cap - lo, fun wx => ?_, fun h => rfl⟩
    rw [run_slice_lh wx 33 _ n cap (by rw [elem_pages]; exact Tryd.underlying33) .i64 .i64 (lo : Int) (hi : Int) (by omega) (by omega) (by omega), elem_pages, size_page]
    have e2 : (⟨bw, 0, none⟩ : Addr).add (lo * 3) = ⟨bw, lo * 3, none⟩ := by rw [Addr.add_lit, Nat.zero_add]
    simp [Result.andThen, sliced, e, e2]
theorem fill_zero {w : World} {a : Option Addr} {cap : Nat} (x y z : Int) :
    Calls Tryd.prog 14 #[.slice a 0 cap, .agg #[.int .i64 x, .int .i64 y, .int .i64 z]] w fun e w' => e = .returned (.tuple #[]) ∧ Out 0 0 w w' := by
  go_enter Tryd.func14, Tryd.ntmps14
  go_wp2_with fail
  go_loopw [7] (fun u wr => u = .int .i64 0 ∧ Out 0 0 w wr) (fun u _ => 0)
  case atStart => exact ⟨rfl, (Out.refl _ _ _).alloc _⟩
  case round =>
    obtain ⟨rfl, ho⟩ := hrel
    have HO := hid_mk ho
    clear ho
    go_wp2
    exact bodyPost_end (results_none Tryd.results14 _ _ _) rfl ⟨rfl, HO.out⟩
theorem fill_at {w : World} {bw n p k o cap : Nat} {S : Nat → Int × Int × Int} (hr : PRow w bw n S) (hpk : p + k ≤ n) (hn : n ≤ 4096) (ho : 0 < k → o = p * 3) (x y z : Int) :
    Calls Tryd.prog 14 #[.slice (some ⟨bw, o, none⟩) k cap, .agg #[.int .i64 x, .int .i64 y, .int .i64 z]] w fun e w' => e = .returned (.tuple #[]) ∧ PRow w' bw n (putA S p k (x, y, z)) ∧ Out bw (bw + 1) w w' := by
  by_cases h0 : 0 < k
  · rw [ho h0]; exact fill_any hr hpk hn x y z
  · have : k = 0 := by omega
    subst this
    rw [putA_zero]
    exact (fill_zero x y z).mono fun e w' ⟨h1, h2⟩ => ⟨h1, hr.kept h2 (.inr (Nat.zero_le _)), h2.any _ _⟩
set_option maxRecDepth 100000 in
set_option maxHeartbeats 4000000 in
theorem takeRun_some {w : World} {b bw n : Nat} {S : Nat → Int × Int × Int} (h : TblAt 35 w b bw n S) (hT : Tab w) (k : Nat) (h1 : 1 ≤ k) (h2 : k ≤ 16) (p : Nat) (hf : rowF S n k = some p) :
    Calls Tryd.prog 8 #[.pointer (some ⟨b, 0, none⟩), .int .i64 k] w fun e w' => e = .returned (.tuple #[.int .i64 p, .int .i64 0]) ∧ TblAt 35 w' b bw n (setR S p k) ∧ Out bw (bw + 1) w w' := by
  have hn := h.nums
  have HH := hid_mk h
  have HT := hid_mk hT
  have HR : Hid (Calls Tryd.prog 13 #[.pointer (some ⟨b, 0, none⟩), .int .i64 k] w fun e w' => e = .returned (.tuple #[.int .i64 p, .bool true]) ∧ Out 0 0 w w') := by
    obtain ⟨cap, c0, _⟩ := HH.out.cell
    have := row_any c0 HT.out ⟨hn.1, hn.2.1⟩ HH.out.row HH.out.good k h1 h2
    rw [hf] at this
    exact this
  obtain ⟨p1, p2, p3⟩ := rowF_pages HH.out.good hf
  have p4 := p3 p (Nat.le_refl _) (by omega)
  have HG := hid_mk (good_setR HH.out.good p3 h1 h2 p2)
  have b0 : (0 : Int) ≤ (p : Int) := by omega
  have b1 : (p : Int) < (n : Int) := by omega
  have b2 : (n : Int) ≤ 4096 := by omega
  have b3 : (1 : Int) ≤ (k : Int) := by omega
  have b4 : (k : Int) ≤ 16 := by omega
  have b5 : (p : Int) + (k : Int) ≤ (n : Int) := by omega
  have HP := hid_mk p1
  have HP4 := hid_mk p4
  have HB : Hid (2 ≤ b ∧ 2 ≤ bw ∧ bw ≠ b) := ⟨hn.2.2.1, hn.2.2.2.1, hn.2.2.2.2.1⟩
  clear hn h hT hf p1 p2 p3 p4
  go_enter Tryd.func8, Tryd.ntmps8
  go_wp2_with (go_at_call 13; refine HR.out.mono ?_; rintro e w2 ⟨rfl, ho⟩; obtain ⟨cap, c0, hcap⟩ := (HH.out.quiet ho).cell; obtain ⟨q0, q1, q2⟩ := (HH.out.quiet ho).row.page HP.out HP4.out; have fz0 := Row.frozen (HH.out.quiet ho).row (p * 3); have fz1 := Row.frozen (HH.out.quiet ho).row (p * 3 + 1); have fz2 := Row.frozen (HH.out.quiet ho).row (p * 3 + 2); have HO2 := hid_mk ho; clear ho)
  have hr3 := (HH.out.quiet HO2.out).row.set p 2 0 k
  have ho3 : Out bw (bw + 1) w (((w2.setCell ⟨bw, p * 3, none⟩ (.int .i64 2)).setCell ⟨bw, p * 3 + 1, none⟩ (.int .i64 0)).setCell ⟨bw, p * 3 + 2, none⟩ (.int .i64 k)) := (HO2.out.any _ _).set3 (.inl ⟨Nat.le_refl _, Nat.lt_succ_self _⟩) _ _ _
  have d0 := ((Out.refl bw (bw + 1) w2).set3 (b := bw) (o := p * 3) (.inl ⟨Nat.le_refl _, Nat.lt_succ_self _⟩) (.int .i64 2) (.int .i64 0) (.int .i64 k)).cell c0 (by have := HB.out; omega)
  obtain ⟨W3, hW3⟩ : ∃ W3, ((w2.setCell ⟨bw, p * 3, none⟩ (.int .i64 2)).setCell ⟨bw, p * 3 + 1, none⟩ (.int .i64 0)).setCell ⟨bw, p * 3 + 2, none⟩ (.int .i64 k) = W3 := ⟨_, rfl⟩
  rw [hW3] at hr3 ho3 d0 ⊢
  have hT3 := HT.out.kept ho3 (.inl HB.out.2.1)
  obtain ⟨r0, r1, r2⟩ := hT3.r
  have HR3 := hid_mk hr3
  have HO3 := hid_mk ho3
  obtain ⟨l, hl⟩ : ∃ l : Nat, p + 1 = l := ⟨_, rfl⟩
  obtain ⟨u, hu⟩ : ∃ u : Nat, p + k = u := ⟨_, rfl⟩
  obtain ⟨o, cp, hsl, hoo⟩ := slice_at bw n cap l u (by omega) (by omega)
  obtain ⟨ln, hln⟩ : ∃ ln : Nat, u - l = ln := ⟨_, rfl⟩
  rw [hln] at hsl hoo
  have x1 : IntKind.i64.wrap ((p : Int) + 1) = (l : Int) := by simp [IntKind.wrap, IntKind.signed, IntKind.bits]; omega
  have x2 : IntKind.i64.wrap ((p : Int) + (k : Int)) = (u : Int) := by simp [IntKind.wrap, IntKind.signed, IntKind.bits]; omega
  have HF : Hid (∀ w', PRow w' bw n (setP S p (2, 0, (k : Int))) → Calls Tryd.prog 14 #[.slice (some ⟨bw, o, none⟩) ln cp, .agg #[.int .i64 3, .int .i64 0, .int .i64 0]] w' fun e w'' => e = .returned (.tuple #[]) ∧ PRow w'' bw n (setR S p k) ∧ Out bw (bw + 1) w' w'') := fun w' hr => by
    rw [setR_eq S p k h1, show k - 1 = ln from by omega]
    exact fill_at hr (by omega) (by omega) (fun h => by rw [hoo h, hl]) 3 0 0
  clear hr3 ho3 hT3 q0 q1 q2 fz0 fz1 fz2 c0 hW3 hl hu hln hoo
  go_region_held3 (fun w' => w'.cell? ⟨b, 0, none⟩ = some (.slice (some ⟨bw, 0, none⟩) n cap) ∧ w'.cell? ⟨0, 0, none⟩ = some (.int .i64 3) ∧ w'.cell? ⟨0, 1, none⟩ = some (.int .i64 0) ∧ w'.cell? ⟨0, 2, none⟩ = some (.int .i64 0)) (first | go_keep | (refine ⟨?_, ?_, ?_, ?_⟩ <;> exact hOO.cell (by assumption) (by have := HB.out; omega)))
    (first | (go_at_call 14; refine (HF.out _ (by exact HR3.out)).mono ?_; rintro e w4 ⟨rfl, hp4, hOO⟩))
  all_goals (try go_wp2)
  all_goals go_ret2
  all_goals exact ⟨rfl, HH.out.turn (HO3.out.trans ((Out.refl _ _ _).drew.trans hOO)) hp4 HG.out, HO3.out.trans ((Out.refl _ _ _).drew.trans hOO)⟩
theorem takeRun_none {w : World} {b bw n : Nat} {S : Nat → Int × Int × Int} (h : TblAt 35 w b bw n S) (hT : Tab w) (k : Nat) (h1 : 1 ≤ k) (h2 : k ≤ 16) (hf : rowF S n k = none) :
    Calls Tryd.prog 8 #[.pointer (some ⟨b, 0, none⟩), .int .i64 k] w fun e w' => e = .returned (.tuple #[.int .i64 0, .int .i64 20]) ∧ Out 0 0 w w' := by
  have hn := h.nums
  have HR : Hid (Calls Tryd.prog 13 #[.pointer (some ⟨b, 0, none⟩), .int .i64 k] w fun e w' => e = .returned (.tuple #[.int .i64 0, .bool false]) ∧ Out 0 0 w w') := by
    obtain ⟨cap, c0, _⟩ := h.cell
    have := row_any c0 hT ⟨hn.1, hn.2.1⟩ h.row h.good k h1 h2
    rw [hf] at this
    exact this
  have b3 : (1 : Int) ≤ (k : Int) := by omega
  have b4 : (k : Int) ≤ 16 := by omega
  clear hn h hT hf h1 h2
  go_enter Tryd.func8, Tryd.ntmps8
  go_wp2_with (go_at_call 13; refine HR.out.mono ?_; rintro e w2 ⟨rfl, ho⟩)
  go_ret2
  exact ⟨rfl, ho⟩
theorem takeRun_any {w : World} {b bw n : Nat} {S : Nat → Int × Int × Int} (h : TblAt 35 w b bw n S) (hT : Tab w) (c : Int) :
    Calls Tryd.prog 8 #[.pointer (some ⟨b, 0, none⟩), .int .i64 c] w fun e w' => e = .returned (.tuple #[.int .i64 (trP S n c : Nat), .int .i64 (trE S n c)]) ∧ TblAt 35 w' b bw n (trS S n c) ∧ Out bw (bw + 1) w w' := by
  unfold trP trE trS
  by_cases hc : runB c = true
  · rw [if_pos hc, if_pos hc, if_pos hc]
    unfold runB at hc
    simp at hc
    obtain ⟨k, rfl⟩ : ∃ k : Nat, c = k := ⟨c.toNat, by omega⟩
    rw [show ((k : Nat) : Int).toNat = k from by omega]
    cases hf : rowF S n k with
    | none => exact (takeRun_none h hT k (by omega) (by omega) hf).mono fun e w' ⟨a, o⟩ => ⟨a, h.quiet o, o.any _ _⟩
    | some p => exact takeRun_some h hT k (by omega) (by omega) p hf
  · rw [if_neg hc, if_neg hc, if_neg hc]
    unfold runB at hc
    simp at hc
    have H := hid_mk h
    by_cases h1 : 1 ≤ c
    · have h2 : 16 < c := by omega
      clear h hT hc
      go_enter Tryd.func8, Tryd.ntmps8
      go_wp2
      go_ret2
      exact ⟨rfl, H.out, Out.refl _ _ _⟩
    · have h2 : c < 1 := by omega
      clear h hT hc h1
      go_enter Tryd.func8, Tryd.ntmps8
      go_wp2
      go_ret2
      exact ⟨rfl, H.out, Out.refl _ _ _⟩
set_option maxRecDepth 100000 in
set_option maxHeartbeats 4000000 in
theorem give_yes {w : World} {b bw n : Nat} {S : Nat → Int × Int × Int} (h : TblAt 35 w b bw n S) (hT : Tab w) (p : Nat) (hp : p < n) (hk : (S p).1 = 1 ∨ (S p).1 = 2) :
    Calls Tryd.prog 10 #[.pointer (some ⟨b, 0, none⟩), .int .i64 p] w fun e w' => e = .returned (.int .i64 0) ∧ TblAt 35 w' b bw n (setF S p (lenP (S p))) ∧ Out bw (bw + 1) w w' := by
  have hn := h.nums
  have HH := hid_mk h
  have HT := hid_mk hT
  obtain ⟨l1, l2, l3, _, hkind⟩ := give_cases h.good hp hk
  have HG := hid_mk (good_give h.good hp hk)
  have e1 : inB n (p : Int) = true := by unfold inB; simp; omega
  have e2 : stP S n (p : Int) = S p := by unfold stP; rw [e1]; rfl
  obtain ⟨x, y, z, hxyz⟩ := page_of (S p)
  have HS : Hid (∀ w', Out 0 0 w w' → Calls Tryd.prog 11 #[.pointer (some ⟨b, 0, none⟩), .int .i64 p] w' fun e w' => e = .returned (.tuple #[.agg #[.int .i64 x, .int .i64 y, .int .i64 z], .bool true]) ∧ Out 0 0 w w') := fun w' ho => by
    have := state_any (h.quiet ho) (p : Int)
    rw [e1, e2, hxyz] at this
    exact this.mono fun e w' ⟨a, b⟩ => ⟨a, ho.trans b⟩
  obtain ⟨L, hL⟩ : ∃ L, lenP (S p) = L := ⟨_, rfl⟩
  rw [hL] at l1 l2 l3 hkind HG ⊢
  rw [hxyz] at hkind
  have hx0 : (x == 0) = false := by rcases hkind with ⟨a, _⟩ | ⟨a, _⟩ <;> (simp at a; subst a; rfl)
  have hx3 : (x == 3) = false := by rcases hkind with ⟨a, _⟩ | ⟨a, _⟩ <;> (simp at a; subst a; rfl)
  have HZ : Hid (max z 1 = (L : Int) ∧ 0 ≤ z ∧ z ≤ 16) := by
    show _ ∧ _
    rcases hkind with ⟨a, b, c⟩ | ⟨a, b⟩
    · simp at c; subst c; subst b; decide
    · simp at b; subst b; omega
  have b0 : (0 : Int) ≤ (p : Int) := by omega
  have b1 : (p : Int) < (n : Int) := by omega
  have b2 : (n : Int) ≤ 4096 := by omega
  have HB : Hid (2 ≤ b ∧ 2 ≤ bw ∧ bw ≠ b ∧ p + L ≤ n ∧ n ≤ 4096) := ⟨hn.2.2.1, hn.2.2.2.1, hn.2.2.2.2.1, l3, hn.2.1⟩
  clear hn h hT l1 l2 l3 hkind e1 e2 hL hxyz hk
  go_enter Tryd.func10, Tryd.ntmps10
  go_wp2_with (go_at_call 11; refine (HS.out _ (by first | exact Out.refl 0 0 _ | exact (Out.refl 0 0 _).alloc _)).mono ?_; rintro e w2 ⟨rfl, ho'⟩; have HX : Hid (w.heap.size ≤ w2.heap.size) := ho'.size; have ho := ho'.alloc (.cells #[.int .i64 x, .int .i64 y, .int .i64 z] 37); have HO2 := hid_mk ho; obtain ⟨f0, f1, f2⟩ := (HT.out.quiet ho).f; obtain ⟨r0, r1, r2⟩ := (HT.out.quiet ho).r; obtain ⟨cap, c0, hcap⟩ := (HH.out.quiet ho).cell; clear ho ho')
  obtain ⟨x0, x1', x2'⟩ := box3 (heap_alloc_new w2 (.cells #[.int .i64 x, .int .i64 y, .int .i64 z] 37))
  obtain ⟨W3, hW3⟩ : ∃ W3, w2.alloc (.cells #[.int .i64 x, .int .i64 y, .int .i64 z] 37) = W3 := ⟨_, rfl⟩
  obtain ⟨X, hX⟩ : ∃ X, w2.heap.size = X := ⟨_, rfl⟩
  have hXw : w.heap.size ≤ X := hX ▸ HX.out
  rw [hW3] at HO2 f0 f1 f2 r0 r1 r2 c0 x2' ⊢
  rw [hX] at x2' ⊢
  obtain ⟨u, hu⟩ : ∃ u : Nat, p + L = u := ⟨_, rfl⟩
  obtain ⟨o, cp, hsl, hoo⟩ := slice_at bw n cap p u (by omega) (by have := HB.out; omega)
  obtain ⟨ln, hln⟩ : ∃ ln : Nat, u - p = ln := ⟨_, rfl⟩
  rw [hln] at hsl hoo
  have hmx : (if (1 : Int) > z then (1 : Int) else z) = (L : Int) := by have := HZ.out; split <;> omega
  have hmx2 : (if z < 1 then (1 : Int) else z) = (L : Int) := by have := HZ.out; split <;> omega
  have y2 : IntKind.i64.wrap ((p : Int) + (L : Int)) = (u : Int) := by have := HB.out; simp [IntKind.wrap, IntKind.signed, IntKind.bits]; omega
  have HF : Hid (∀ w', PRow w' bw n S → Calls Tryd.prog 14 #[.slice (some ⟨bw, o, none⟩) ln cp, .agg #[.int .i64 0, .int .i64 0, .int .i64 0]] w' fun e w'' => e = .returned (.tuple #[]) ∧ PRow w'' bw n (setF S p L) ∧ Out bw (bw + 1) w' w'') := fun w' hr => by
    rw [setF_eq S p L, show L = ln from by omega]
    exact fill_at hr (by have := HB.out; omega) (by have := HB.out; omega) hoo 0 0 0
  have HR3 := hid_mk (HH.out.quiet HO2.out).row
  have HX2 : Hid (bw < X) := by show bw < X; have := HH.out.nums; omega
  clear hu hln hoo hW3 hX x0 x1' hXw r0 r1 r2
  go_region_held3 (fun w' => w'.cell? ⟨b, 0, none⟩ = some (.slice (some ⟨bw, 0, none⟩) n cap) ∧ w'.cell? ⟨X, 2, none⟩ = some (.int .i64 z) ∧ w'.cell? ⟨1, 0, none⟩ = some (.int .i64 0) ∧ w'.cell? ⟨1, 1, none⟩ = some (.int .i64 0) ∧ w'.cell? ⟨1, 2, none⟩ = some (.int .i64 0)) (first | go_keep | (refine ⟨?_, ?_, ?_, ?_, ?_⟩ <;> exact hOO.cell (by assumption) (by have := HB.out; have := HX2.out; omega)))
    (first | (go_at_call 14; refine (HF.out _ (by exact HR3.out)).mono ?_; rintro e w4 ⟨rfl, hp4, hOO⟩))
  all_goals (try go_wp2)
  all_goals go_ret
  all_goals exact ⟨rfl, HH.out.turn ((HO2.out.any _ _).trans ((Out.refl _ _ _).drew.trans hOO)) hp4 HG.out, (HO2.out.any _ _).trans ((Out.refl _ _ _).drew.trans hOO)⟩
end Go.Proofs.YtfkmaanfgkkjcabDoor
