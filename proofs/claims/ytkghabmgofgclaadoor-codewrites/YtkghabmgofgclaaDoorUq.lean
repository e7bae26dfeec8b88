/- package code: a reader takes bytes -/
import Derived.Test.YtkghabmgofgclaaDoorUp
namespace Go.Proofs.YtkghabmgofgclaaDoor
open Go.RowKit
set_option linter.unusedVariables false
set_option linter.unusedSimpArgs false

/-- the reader at r, which stands at a place of its bytes -/
def RD (w : World) (r B : Nat) (ba : Option Addr) (n cap : Nat) (bs : List Int) (a : Nat) : Prop := Bl w r #[.slice ba n cap, .int .i64 a] 86 ∧ ByIn w B ba bs ∧ bs.length = n ∧ B ≤ r ∧ a ≤ n ∧ n ≤ cap ∧ n ≤ 65536
theorem want_any (b : Bool) (x y : Int) {w : World} {Q : Ending → World → Prop} (hy : b = true → Q (.returned (.tuple #[])) w) (hn : b = false → Q (.panicked [stopP x y]) w) : Calls Tryd.prog 40 #[.bool b, .int .i64 x, .int .i64 y] w Q := by
  cases b
  · exact calls_stop (want_no _ _ _) (hn rfl)
  · exact calls_same (want_yes _ _ _) (hy rfl)
theorem wrap_sub {n a : Nat} (h : n ≤ 65536) (ha : a ≤ 65536) : IntKind.i64.wrap ((n : Int) - (a : Int)) = (n : Int) - (a : Int) := by simp [IntKind.wrap, IntKind.signed, IntKind.bits]; omega
theorem slice_run (ba : Option Addr) (n cap a k : Nat) (h : a + k ≤ cap) : ∃ A' C', (∀ W, (Instr.sliceAt 33 (.slice ba n cap) (some (.int .i64 (a : Int))) (some (.int .i64 ((a : Int) + (k : Int)))) none).run Tryd.prog W = .ok (.slice A' k C') W) ∧ k ≤ C' ∧ (A' = ba ∧ cap = a ∨ A' = ba.map (·.add a)) := by
  obtain ⟨i0, hi, hz0, hz1, hz2⟩ := info_p info_u8
  have hu : Tryd.prog.underlying 33 = some (.slice (Tryd.prog.elem 33)) := by kernel_rfl
  have he : Tryd.prog.elem 33 = 5 := by kernel_rfl
  have key : ∀ W, (Instr.sliceAt 33 (.slice ba n cap) (some (.int .i64 (a : Int))) (some (.int .i64 ((a : Int) + (k : Int)))) none).run Tryd.prog W = .ok (sliced ba a (a + k) cap 1) W := by
    intro W
    rw [run_sliceAt_slice W _ _ _ _ _ hu, run_slice_lh W _ _ _ _ hu _ _ _ _ (by omega) (by omega) (by omega), he]
    rw [show ((a : Int) + (k : Int)).toNat = a + k by omega]
    simp [sizeOf, typeInfo, hi, hz1, Result.andThen]
  refine ⟨if cap = a then ba else ba.map (·.add (a * 1)), cap - a, fun W => ?_, by omega, ?_⟩
  · rw [key W]
    unfold sliced
    rw [Nat.add_sub_cancel_left]
  · by_cases hc : cap = a
    · exact .inl ⟨if_pos hc, hc⟩
    · right; rw [if_neg hc, Nat.mul_one]
theorem piece_in {w : World} {B n cap a k : Nat} {ba A' : Option Addr} {bs : List Int} (h : ByIn w B ba bs) (hn : bs.length = n) (hk : a + k ≤ n) (hc : n ≤ cap) (hA : A' = ba ∧ cap = a ∨ A' = ba.map (·.add a)) : ByIn w B A' ((bs.drop a).take k) := by
  refine ⟨(h.1.drop a).take k, ?_⟩
  by_cases hk0 : k = 0
  · left; rw [hk0]; rfl
  · right
    rcases h.2 with h0 | ⟨g, off, rfl, h2, h3⟩
    · rw [h0] at hn; simp at hn; omega
    · rcases hA with ⟨_, q⟩ | rfl
      · omega
      · refine ⟨g, off + a, by simp [Addr.add], h2, fun j x hj => ?_⟩
        rw [List.getElem?_take] at hj
        split at hj
        · rw [List.getElem?_drop] at hj
          rw [Nat.add_assoc]; exact h3 _ _ hj
        · cases hj
theorem wrap_nat (a : Nat) (h : a ≤ 65536) : IntKind.i64.wrap (a : Int) = (a : Int) := by simp [IntKind.wrap, IntKind.signed, IntKind.bits]; omega
theorem wrap_back (a k : Nat) (h : a + k ≤ 65536) : IntKind.i64.wrap ((a : Int) + (k : Int) - (k : Int)) = (a : Int) := by simp [IntKind.wrap, IntKind.signed, IntKind.bits]; omega
set_option maxRecDepth 100000 in
set_option maxHeartbeats 1000000 in
theorem take_end {w : World} {r B n cap : Nat} {ba : Option Addr} {bs : List Int} {a : Nat} (h : RD w r B ba n cap bs a) (k : Nat) (hk : n < a + k) :
    Calls Tryd.prog 85 #[.pointer (some ⟨r, 0, none⟩), .int .i64 k] w fun e w' => e = .panicked [stopP 61 n] ∧ Out 0 0 w w' := by
  obtain ⟨h1, h2, h3, h4, h5, h6, h7⟩ := h
  have c0 := h1.cell (i := 0) rfl
  have c1 := h1.cell (i := 1) rfl
  have hd : decide ((k : Int) ≤ (n : Int) - (a : Int)) = false := by simp; omega
  have hw := wrap_sub h7 (Nat.le_trans h5 h7)
  clear h1 h2 h3 h4 h5 h6 h7 hk
  go_enter Tryd.func85, Tryd.ntmps85
  go_wp2
  refine wp_region_held_drew (S := fun w' => w'.cell? ⟨r, 0, none⟩ = some (.slice ba n cap) ∧ w'.cell? ⟨r, 1, none⟩ = some (.int .i64 a)) (by kernel_rfl) ⟨c0, c1⟩ (fun hHeld => ?_)
  refine tk 0 ?_
  refine tk 1 ?_
  refine tk 2 ?_
  refine tk 3 ?_
  refine tk 4 ?_
  refine tk 5 ?_
  refine tk 6 ?_
  refine tk 7 ?_
  refine tk 8 ?_
  refine tk 9 ?_
  refine tk 10 ?_
  refine tk 11 ?_
  refine tk 12 ?_
  refine tk 13 ?_
  refine tk 14 ?_
  refine tk 15 ?_
  refine tk 16 ?_
  refine wpAnyH_ready (rs := [17]) (by kernel_rfl) (by simp) ?_
  refine AllReadyH.cons rfl (fun KK hK => ?_) AllReadyH.nil
  simp only [xa, xb, xc]
  go_simp
  refine calls_stop (want_no _ _ _) ?_
  exact ⟨rfl, rfl, (Out.refl 0 0 w).drew⟩
set_option maxRecDepth 100000 in
set_option maxHeartbeats 1000000 in
theorem take_go {w : World} {r B n cap : Nat} {ba : Option Addr} {bs : List Int} {a : Nat} (h : RD w r B ba n cap bs a) (k : Nat) (hk : a + k ≤ n) :
    Calls Tryd.prog 85 #[.pointer (some ⟨r, 0, none⟩), .int .i64 k] w fun e w' => ∃ A' C', e = .returned (.slice A' k C') ∧ k ≤ C' ∧ ByIn w' B A' ((bs.drop a).take k) ∧ RD w' r B ba n cap bs (a + k) ∧ Out r (r + 1) w w' := by
  obtain ⟨h1, h2, h3, h4, h5, h6, h7⟩ := h
  have c0 := h1.cell (i := 0) rfl
  have c1 := h1.cell (i := 1) rfl
  have hd : decide ((k : Int) ≤ (n : Int) - (a : Int)) = true := by simp; omega
  have hw := wrap_sub h7 (Nat.le_trans h5 h7)
  have hD : Bl w.drew r #[.slice ba n cap, .int .i64 a] 86 := h1
  have z1 := hD.frozen 1
  have d1 := hD.cell (i := 1) rfl
  have b2 := hD.set 1 (.int .i64 ((a : Int) + (k : Int)))
  have e0 := b2.cell (i := 0) rfl
  have e1 := b2.cell (i := 1) rfl
  obtain ⟨A', C', hsl, hC, hA⟩ := slice_run ba n cap a k (by omega)
  have hwb := wrap_nat a (by omega)
  have HX := hid_mk (And.intro hk (And.intro h3 (And.intro h6 hA)))
  have HB := hid_mk b2
  have HI := hid_mk h2
  have HR := hid_mk (And.intro h4 h7)
  have HO := hid_mk (((Out.refl r (r + 1) w).drew).setCell (p := ⟨r, 1, none⟩) (.inl ⟨Nat.le_refl _, Nat.lt_succ_self _⟩) (.int .i64 ((a : Int) + (k : Int))))
  have HC := hid_mk hC
  clear h1 h2 h3 h4 h6 hD b2 hA hC
  go_enter Tryd.func85, Tryd.ntmps85
  go_wp2
  refine wp_region_held_drew (S := fun w' => w'.cell? ⟨r, 0, none⟩ = some (.slice ba n cap) ∧ w'.cell? ⟨r, 1, none⟩ = some (.int .i64 a)) (by kernel_rfl) ⟨c0, c1⟩ (fun hHeld => ?_)
  refine tk 0 ?_
  refine tk 1 ?_
  refine tk 2 ?_
  refine tk 3 ?_
  refine tk 4 ?_
  refine tk 5 ?_
  refine tk 6 ?_
  refine tk 7 ?_
  refine tk 8 ?_
  refine tk 9 ?_
  refine tk 10 ?_
  refine tk 11 ?_
  refine tk 12 ?_
  refine tk 13 ?_
  refine tk 14 ?_
  refine tk 15 ?_
  refine tk 16 ?_
  refine wpAnyH_ready (rs := [17]) (by kernel_rfl) (by simp) ?_
  refine AllReadyH.cons rfl (fun KK hK => ?_) AllReadyH.nil
  simp only [xa, xb, xc]
  go_simp
  refine calls_same (want_yes _ _ _) ?_
  refine hK.out _ _ hHeld (fun hHeld2 => ?_)
  refine wpAnyH_done (by kernel_rfl) ?_ _
  clear hHeld hHeld2
  go_wp2
  refine wp_region_held_drew (S := fun w' => w'.cell? ⟨r, 0, none⟩ = some (.slice ba n cap) ∧ w'.cell? ⟨r, 1, none⟩ = some (.int .i64 ((a : Int) + (k : Int)))) (by kernel_rfl) ⟨e0, e1⟩ (fun hHeld => ?_)
  refine tk 0 ?_
  refine tk 1 ?_
  refine tk 2 ?_
  refine tk 3 ?_
  refine tk 4 ?_
  refine tk 5 ?_
  refine tk 6 ?_
  refine tk 7 ?_
  refine tk 8 ?_
  refine tk 9 ?_
  refine tk 10 ?_
  refine tk 11 ?_
  refine tk 12 ?_
  refine tk 13 ?_
  refine tk 14 ?_
  refine tk 15 ?_
  refine wpAnyH_done (by kernel_rfl) ?_ _
  clear hHeld
  go_wp2
  go_ret
  have hin : ByIn ((w.drew.setCell ⟨r, 1, none⟩ (.int .i64 ((a : Int) + (k : Int))))) B A' ((bs.drop a).take k) := by
    have := HI.out.kept (Lo.of_out (B := B) ((Out.refl 0 0 w).drew)) (Nat.le_refl _)
    refine (piece_in (HI.out.kept (C := r) (B := B) ?_ HR.out.1) HX.out.2.1 HX.out.1 HX.out.2.2.1 HX.out.2.2.2)
    exact ⟨HO.out.1, HO.out.2.1, HO.out.2.2.1, HO.out.size, fun q h1 h2 => HO.out.block h1 (by omega)⟩
  have hbs : ByIn ((w.drew.setCell ⟨r, 1, none⟩ (.int .i64 ((a : Int) + (k : Int))))) B ba bs := HI.out.kept (C := r) ⟨HO.out.1, HO.out.2.1, HO.out.2.2.1, HO.out.size, fun q h1 h2 => HO.out.block h1 (by omega)⟩ HR.out.1
  exact ⟨A', C', rfl, HC.out, hin.kept (Lo.of_out ((Out.refl 0 0 _).drew)) (Nat.le_refl _), ⟨HB.out, hbs.kept (Lo.of_out ((Out.refl 0 0 _).drew)) (Nat.le_refl _), HX.out.2.1, HR.out.1, HX.out.1, HX.out.2.2.1, HR.out.2⟩, HO.out.drew⟩
end Go.Proofs.YtkghabmgofgclaaDoor
