import Derived.Test.YtapjfokkcgdhhaaDoorQae
namespace Go.Proofs.YtapjfokkcgdhhaaDoor
open Go.RowKit
set_option linter.unusedVariables false
set_option linter.unusedSimpArgs false

/-- the reader at r, which stands at a place of its bytes -/
def RD (w : World) (r B : Nat) (ba : Option Addr) (n cap : Nat) (bs : List Int) (a : Nat) : Prop := Bl w r #[.slice ba n cap, .int .i64 a] 69 ∧ ByIn w B ba bs ∧ bs.length = n ∧ B ≤ r ∧ a ≤ n ∧ n ≤ cap ∧ n ≤ 65536
theorem want_any (b : Bool) (x y : Int) {w : World} {Q : Ending → World → Prop} (hy : b = true → Q (.returned (.tuple #[])) w) (hn : b = false → Q (.panicked [stopP x y]) w) : Calls Tryd.prog 26 #[.bool b, .int .i64 x, .int .i64 y] w Q := by
  cases b
  · exact calls_stop (want_no _ _ _) (hn rfl)
  · exact calls_same (want_yes _ _ _) (hy rfl)
theorem wrap_sub {n a : Nat} (h : n ≤ 65536) (ha : a ≤ 65536) : IntKind.i64.wrap ((n : Int) - (a : Int)) = (n : Int) - (a : Int) := by simp [IntKind.wrap, IntKind.signed, IntKind.bits]; omega
theorem slice_run (ba : Option Addr) (n cap a k : Nat) (h : a + k ≤ cap) : ∃ A' C', (∀ W, (Instr.sliceAt 22 (.slice ba n cap) (some (.int .i64 (a : Int))) (some (.int .i64 ((a : Int) + (k : Int)))) none).run Tryd.prog W = .ok (.slice A' k C') W) ∧ k ≤ C' ∧ (A' = ba ∧ cap = a ∨ A' = ba.map (·.add a)) := by
  obtain ⟨i0, hi, hz0, hz1, hz2⟩ := info_p info_u8
  have hu : Tryd.prog.underlying 22 = some (.slice (Tryd.prog.elem 22)) := by kernel_rfl
  have he : Tryd.prog.elem 22 = 5 := by kernel_rfl
  have key : ∀ W, (Instr.sliceAt 22 (.slice ba n cap) (some (.int .i64 (a : Int))) (some (.int .i64 ((a : Int) + (k : Int)))) none).run Tryd.prog W = .ok (sliced ba a (a + k) cap 1) W := by
    intro W
    rw [run_sliceAt_slice W _ _ _ _ _ hu, run_slice_lh W _ _ _ _ hu _ _ _ _ (by omega) (by omega) (by omega), he]
    rw [show ((a : Int) + (k : Int)).toNat = a + k by omega]
    simp [sizeOf, typeInfo, hi, hz1, Result.andThen]
  refine ⟨if cap = a then ba else ba.map (·.add (a * 1)), cap - a, fun W => ?_, by omega, ?_⟩
  · rw [key W]
    unfold sliced
    rw [Nat.add_sub_cancel_left]
  · by_cases hc : cap = a
    · exact .inl ⟨if_pos hc, hc⟩
    · right; rw [if_neg hc, Nat.mul_one]
theorem piece_in {w : World} {B n cap a k : Nat} {ba A' : Option Addr} {bs : List Int} (h : ByIn w B ba bs) (hn : bs.length = n) (hk : a + k ≤ n) (hc : n ≤ cap) (hA : A' = ba ∧ cap = a ∨ A' = ba.map (·.add a)) : ByIn w B A' ((bs.drop a).take k) := by
  refine ⟨(h.1.drop a).take k, ?_⟩
  by_cases hk0 : k = 0
  · left; rw [hk0]; rfl
  · right
    rcases h.2 with h0 | ⟨g, off, rfl, h2, h3⟩
    · rw [h0] at hn; simp at hn; omega
    · rcases hA with ⟨_, q⟩ | rfl
      · omega
      · refine ⟨g, off + a, by simp [Addr.add], h2, fun j x hj => ?_⟩
        rw [List.getElem?_take] at hj
        split at hj
        · rw [List.getElem?_drop] at hj
          rw [Nat.add_assoc]; exact h3 _ _ hj
        · cases hj
theorem wrap_nat (a : Nat) (h : a ≤ 65536) : IntKind.i64.wrap (a : Int) = (a : Int) := by simp [IntKind.wrap, IntKind.signed, IntKind.bits]; omega
theorem wrap_back (a k : Nat) (h : a + k ≤ 65536) : IntKind.i64.wrap ((a : Int) + (k : Int) - (k : Int)) = (a : Int) := by simp [IntKind.wrap, IntKind.signed, IntKind.bits]; omega
set_option maxRecDepth 100000 in
set_option maxHeartbeats 1000000 in
theorem take_end {w : World} {r B n cap : Nat} {ba : Option Addr} {bs : List Int} {a : Nat} (h : RD w r B ba n cap bs a) (k : Nat) (hk : n < a + k) :
    Calls Tryd.prog 55 #[.pointer (some ⟨r, 0, none⟩), .int .i64 k] w fun e w' => e = .panicked [stopP 61 n] ∧ Out 0 0 w w' := by
  obtain ⟨h1, h2, h3, h4, h5, h6, h7⟩ := h
  have c0 := h1.cell (i := 0) rfl
  have c1 := h1.cell (i := 1) rfl
  have hd : decide ((k : Int) ≤ (n : Int) - (a : Int)) = false := by simp; omega
  have hw := wrap_sub h7 (Nat.le_trans h5 h7)
  clear h1 h2 h3 h4 h5 h6 h7 hk
  go_enter Tryd.func55, Tryd.ntmps55
  go_wp2
  refine wp_region_held_drew (S := fun w' => w'.cell? ⟨r, 0, none⟩ = some (.slice ba n cap) ∧ w'.cell? ⟨r, 1, none⟩ = some (.int .i64 a)) (by kernel_rfl) ⟨c0, c1⟩ (fun hHeld => ?_)
  refine tk 0 ?_
  refine tk 1 ?_
  refine tk 2 ?_
  refine tk 3 ?_
  refine tk 4 ?_
  refine tk 5 ?_
  refine tk 6 ?_
  refine tk 7 ?_
  refine tk 8 ?_
  refine tk 9 ?_
  refine tk 10 ?_
  refine tk 11 ?_
  refine tk 12 ?_
  refine tk 13 ?_
  refine tk 14 ?_
  refine tk 15 ?_
  refine tk 16 ?_
  refine wpAnyH_ready (rs := [17]) (by kernel_rfl) (by simp) ?_
  refine AllReadyH.cons rfl (fun KK hK => ?_) AllReadyH.nil
  simp only [xa, xb, xc]
  go_simp
  refine calls_stop (want_no _ _ _) ?_
  exact ⟨rfl, rfl, (Out.refl 0 0 w).drew⟩
set_option maxRecDepth 100000 in
set_option maxHeartbeats 1000000 in
theorem take_go {w : World} {r B n cap : Nat} {ba : Option Addr} {bs : List Int} {a : Nat} (h : RD w r B ba n cap bs a) (k : Nat) (hk : a + k ≤ n) :
    Calls Tryd.prog 55 #[.pointer (some ⟨r, 0, none⟩), .int .i64 k] w fun e w' => ∃ A' C', e = .returned (.slice A' k C') ∧ k ≤ C' ∧ ByIn w' B A' ((bs.drop a).take k) ∧ RD w' r B ba n cap bs (a + k) ∧ Out r (r + 1) w w' := by
  obtain ⟨h1, h2, h3, h4, h5, h6, h7⟩ := h
  have c0 := h1.cell (i := 0) rfl
  have c1 := h1.cell (i := 1) rfl
  have hd : decide ((k : Int) ≤ (n : Int) - (a : Int)) = true := by simp; omega
  have hw := wrap_sub h7 (Nat.le_trans h5 h7)
  have hD : Bl w.drew r #[.slice ba n cap, .int .i64 a] 69 := h1
  have z1 := hD.frozen 1
  have d1 := hD.cell (i := 1) rfl
  have b2 := hD.set 1 (.int .i64 ((a : Int) + (k : Int)))
  have e0 := b2.cell (i := 0) rfl
  have e1 := b2.cell (i := 1) rfl
  obtain ⟨A', C', hsl, hC, hA⟩ := slice_run ba n cap a k (by omega)
  have hwb := wrap_nat a (by omega)
  have HX := hid_mk (And.intro hk (And.intro h3 (And.intro h6 hA)))
  have HB := hid_mk b2
  have HI := hid_mk h2
  have HR := hid_mk (And.intro h4 h7)
  have HO := hid_mk (((Out.refl r (r + 1) w).drew).setCell (p := ⟨r, 1, none⟩) (.inl ⟨Nat.le_refl _, Nat.lt_succ_self _⟩) (.int .i64 ((a : Int) + (k : Int))))
  have HC := hid_mk hC
  clear h1 h2 h3 h4 h6 hD b2 hA hC
  go_enter Tryd.func55, Tryd.ntmps55
  go_wp2
  refine wp_region_held_drew (S := fun w' => w'.cell? ⟨r, 0, none⟩ = some (.slice ba n cap) ∧ w'.cell? ⟨r, 1, none⟩ = some (.int .i64 a)) (by kernel_rfl) ⟨c0, c1⟩ (fun hHeld => ?_)
  refine tk 0 ?_
  refine tk 1 ?_
  refine tk 2 ?_
  refine tk 3 ?_
  refine tk 4 ?_
  refine tk 5 ?_
  refine tk 6 ?_
  refine tk 7 ?_
  refine tk 8 ?_
  refine tk 9 ?_
  refine tk 10 ?_
  refine tk 11 ?_
  refine tk 12 ?_
  refine tk 13 ?_
  refine tk 14 ?_
  refine tk 15 ?_
  refine tk 16 ?_
  refine wpAnyH_ready (rs := [17]) (by kernel_rfl) (by simp) ?_
  refine AllReadyH.cons rfl (fun KK hK => ?_) AllReadyH.nil
  simp only [xa, xb, xc]
  go_simp
  refine calls_same (want_yes _ _ _) ?_
  refine hK.out _ _ hHeld (fun hHeld2 => ?_)
  refine wpAnyH_done (by kernel_rfl) ?_ _
  clear hHeld hHeld2
  go_wp2
  refine wp_region_held_drew (S := fun w' => w'.cell? ⟨r, 0, none⟩ = some (.slice ba n cap) ∧ w'.cell? ⟨r, 1, none⟩ = some (.int .i64 ((a : Int) + (k : Int)))) (by kernel_rfl) ⟨e0, e1⟩ (fun hHeld => ?_)
  refine tk 0 ?_
  refine tk 1 ?_
  refine tk 2 ?_
  refine tk 3 ?_
  refine tk 4 ?_
  refine tk 5 ?_
  refine tk 6 ?_
  refine tk 7 ?_
  refine tk 8 ?_
  refine tk 9 ?_
  refine tk 10 ?_
  refine tk 11 ?_
  refine tk 12 ?_
  refine tk 13 ?_
  refine tk 14 ?_
  refine tk 15 ?_
  refine wpAnyH_done (by kernel_rfl) ?_ _
  clear hHeld
  go_wp2
  go_ret
  have hin : ByIn ((w.drew.setCell ⟨r, 1, none⟩ (.int .i64 ((a : Int) + (k : Int))))) B A' ((bs.drop a).take k) := by
    have := HI.out.kept (Lo.of_out (B := B) ((Out.refl 0 0 w).drew)) (Nat.le_refl _)
    refine (piece_in (HI.out.kept (C := r) (B := B) ?_ HR.out.1) HX.out.2.1 HX.out.1 HX.out.2.2.1 HX.out.2.2.2)
    exact ⟨HO.out.1, HO.out.2.1, HO.out.2.2.1, HO.out.size, fun q h1 h2 => HO.out.block h1 (by omega)⟩
  have hbs : ByIn ((w.drew.setCell ⟨r, 1, none⟩ (.int .i64 ((a : Int) + (k : Int))))) B ba bs := HI.out.kept (C := r) ⟨HO.out.1, HO.out.2.1, HO.out.2.2.1, HO.out.size, fun q h1 h2 => HO.out.block h1 (by omega)⟩ HR.out.1
  exact ⟨A', C', rfl, HC.out, hin.kept (Lo.of_out ((Out.refl 0 0 _).drew)) (Nat.le_refl _), ⟨HB.out, hbs.kept (Lo.of_out ((Out.refl 0 0 _).drew)) (Nat.le_refl _), HX.out.2.1, HR.out.1, HX.out.1, HX.out.2.2.1, HR.out.2⟩, HO.out.drew⟩
end Go.Proofs.YtapjfokkcgdhhaaDoor
namespace Go.Proofs.YtapjfokkcgdhhaaDoor
open Go.RowKit
set_option linter.unusedVariables false
set_option linter.unusedSimpArgs false

theorem slice_from (ba : Option Addr) (n cap a : Nat) (h : a ≤ n) (hc : n ≤ cap) : ∃ A' C', (∀ W, (Instr.sliceAt 22 (.slice ba n cap) (some (.int .i64 (a : Int))) none none).run Tryd.prog W = .ok (.slice A' (n - a) C') W) ∧ (A' = ba ∧ cap = a ∨ A' = ba.map (·.add a)) := by
  obtain ⟨i0, hi, hz0, hz1, hz2⟩ := info_p info_u8
  have hu : Tryd.prog.underlying 22 = some (.slice (Tryd.prog.elem 22)) := by kernel_rfl
  have he : Tryd.prog.elem 22 = 5 := by kernel_rfl
  have key : ∀ W, (Instr.sliceAt 22 (.slice ba n cap) (some (.int .i64 (a : Int))) none none).run Tryd.prog W = .ok (sliced ba a n cap 1) W := by
    intro W
    rw [run_sliceAt_slice W _ _ _ _ _ hu, run_slice_l W _ _ _ _ hu _ _ (by omega) (by omega), he]
    simp [sizeOf, typeInfo, hi, hz1, Result.andThen]
  refine ⟨if cap = a then ba else ba.map (·.add (a * 1)), cap - a, fun W => ?_, ?_⟩
  · rw [key W]
    unfold sliced
    rfl
  · by_cases hc : cap = a
    · exact .inl ⟨if_pos hc, hc⟩
    · right; rw [if_neg hc, Nat.mul_one]
theorem lead_up {L : List Int} {i : Nat} {b : Int} (h : i ≤ lead 9 L) (h9 : i < 9) (hb : L[i]? = some b) (hb2 : 128 ≤ b) : i + 1 ≤ lead 9 L := by
  rcases Nat.lt_or_ge i (lead 9 L) with q | q
  · omega
  · have e : lead 9 L = i := by omega
    have := lead_at 9 L b (by omega) (by rw [e]; exact hb)
    omega
theorem lead_stop {L : List Int} {i : Nat} {b : Int} (h : i ≤ lead 9 L) (hb : L[i]? = some b) (hb2 : b < 128) : lead 9 L = i := by
  rcases Nat.lt_or_ge i (lead 9 L) with q | q
  · have := lead_ge 9 L i b q hb
    omega
  · omega
set_option maxRecDepth 100000 in
set_option maxHeartbeats 1000000 in
theorem size_any {w : World} {r B n cap : Nat} {ba : Option Addr} {bs : List Int} {a : Nat} (h : RD w r B ba n cap bs a) :
    Calls Tryd.prog 63 #[.pointer (some ⟨r, 0, none⟩)] w fun e w' => Out 0 0 w w' ∧ ((lead 9 (bs.drop a) < 9 ∧ lead 9 (bs.drop a) < n - a) ∧ e = .returned (.int .i64 ((lead 9 (bs.drop a) + 1 : Nat) : Int)) ∨ ¬ (lead 9 (bs.drop a) < 9 ∧ lead 9 (bs.drop a) < n - a) ∧ (n - a < 9 ∧ e = .panicked [stopP 61 n] ∨ 9 ≤ n - a ∧ e = .panicked [stopP 60 a])) := by
  obtain ⟨h1, h2, h3, h4, h5, h6, h7⟩ := h
  have c0 := h1.cell (i := 0) rfl
  have c1 := h1.cell (i := 1) rfl
  obtain ⟨A', C', hsl, hA⟩ := slice_from ba n cap a h5 h6
  obtain ⟨L, hL⟩ : ∃ L, bs.drop a = L := ⟨_, rfl⟩
  obtain ⟨m, hm⟩ : ∃ m, n - a = m := ⟨_, rfl⟩
  have hlm : L.length = m := by rw [← hL, List.length_drop, h3, hm]
  have hin : ByIn w B A' L := by
    have := piece_in (k := m) h2 h3 (by omega) h6 hA
    rwa [hL, List.take_of_length_le (by omega)] at this
  rw [hL, hm]
  rw [hm] at hsl
  have HI := hid_mk hin
  have HL := hid_mk hlm
  have hd0 := (show Bl w.drew r _ _ from h1).cell (i := 0) rfl
  have hd1 := (show Bl w.drew r _ _ from h1).cell (i := 1) rfl
  clear h1 h2 h3 h4 h5 h6 h7 hA hL hm hlm hin
  go_enter Tryd.func63, Tryd.ntmps63
  go_wp2
  refine wp_region_held_drew (S := fun w' => w'.cell? ⟨r, 0, none⟩ = some (.slice ba n cap) ∧ w'.cell? ⟨r, 1, none⟩ = some (.int .i64 a)) (by kernel_rfl) ⟨c0, c1⟩ (fun hHeld => ?_)
  refine tk 0 ?_
  refine tk 1 ?_
  refine tk 2 ?_
  refine tk 3 ?_
  refine tk 4 ?_
  refine tk 5 ?_
  refine tk 6 ?_
  refine tk 7 ?_
  refine tk 8 ?_
  refine tk 9 ?_
  refine wpAnyH_done (by kernel_rfl) ?_ _
  clear hHeld
  by_cases hm9 : 9 < m
  · have g9 : (9 : Int) < (m : Int) := by omega
    go_wp2
    go_loopw [17] (fun x wr => ∃ i : Nat, x = .int .i64 i ∧ i ≤ 9 ∧ i ≤ lead 9 L ∧ wr = w.drew) (fun x _ => 9 - (intOf x).toNat)
    case atStart => exact ⟨0, rfl, Nat.zero_le _, Nat.zero_le _, rfl⟩
    case round =>
      obtain ⟨i, rfl, hiM, hil, rfl⟩ := hrel
      by_cases hgo : i < 9
      · have g1 : (i : Int) < (9 : Int) := by omega
        obtain ⟨b, hb⟩ : ∃ b, L[i]? = some b := ⟨_, List.getElem?_eq_getElem (by have := HL.out; omega)⟩
        have HX := hid_mk hb
        have HB0 := hid_mk (HI.out.1 b (List.mem_of_getElem? hb))
        rcases HI.out.2 with h0 | ⟨g, off, rfl, hg, hc⟩
        · rw [h0] at hb; cases hb
        have d0 : w.drew.cell? ⟨g, off + i, none⟩ = some (.int .u8 b) := hc i b hb
        have g2 : (i : Int) < (m : Int) := by omega
        clear hb hc hg
        by_cases hb2 : b < 128
        · have hlt : decide (b < 128) = true := by simpa using hb2
          have Hil := hid_mk hil
          have Hb2 := hid_mk hb2
          clear hil hb2
          go_wp2
          go_ret
          exact ⟨(Out.refl 0 0 w).drew, .inl ⟨by rw [lead_stop Hil.out HX.out Hb2.out]; omega, by rw [lead_stop Hil.out HX.out Hb2.out]; rfl⟩⟩
        · have hlt : decide (b < 128) = false := by simpa using hb2
          have Hil := hid_mk hil
          have Hb2 := hid_mk hb2
          clear hil hb2
          go_wp2
          go_roundw
          case rel => exact ⟨i + 1, by go_num, by omega, lead_up Hil.out (by omega) HX.out (by have := Hb2.out; omega), trivial⟩
          case measure => simp [intOf]; omega
      · have hiE : i = 9 := by omega
        have g1 : ¬ ((i : Int) < (9 : Int)) := by omega
        have HN : Hid (¬ (lead 9 L < 9 ∧ lead 9 L < m)) := hid_mk (by omega)
        clear hgo hil hiM
        subst hiE
        have hd9 : decide ((9 : Int) ≤ (m : Int)) = true := by simp; omega
        have H9 : Hid (9 ≤ m) := hid_mk (by omega)
        go_wp2_with (go_at_call 26; refine calls_same (want_yes _ _ _) ?_)
        exact ⟨rfl, (Out.refl 0 0 w).drew, .inr ⟨HN.out, .inr ⟨H9.out, rfl⟩⟩⟩
  · have g9 : (m : Int) ≤ 9 := by omega
    go_wp2
    go_loopw [17] (fun x wr => ∃ i : Nat, x = .int .i64 i ∧ i ≤ m ∧ i ≤ lead 9 L ∧ wr = w.drew) (fun x _ => m - (intOf x).toNat)
    case atStart => exact ⟨0, rfl, Nat.zero_le _, Nat.zero_le _, rfl⟩
    case round =>
      obtain ⟨i, rfl, hiM, hil, rfl⟩ := hrel
      by_cases hgo : i < m
      · have g1 : (i : Int) < (m : Int) := by omega
        obtain ⟨b, hb⟩ : ∃ b, L[i]? = some b := ⟨_, List.getElem?_eq_getElem (by have := HL.out; omega)⟩
        have HX := hid_mk hb
        have HB0 := hid_mk (HI.out.1 b (List.mem_of_getElem? hb))
        rcases HI.out.2 with h0 | ⟨g, off, rfl, hg, hc⟩
        · rw [h0] at hb; cases hb
        have d0 : w.drew.cell? ⟨g, off + i, none⟩ = some (.int .u8 b) := hc i b hb
        have g2 : (i : Int) < (m : Int) := by omega
        clear hb hc hg
        by_cases hb2 : b < 128
        · have hlt : decide (b < 128) = true := by simpa using hb2
          have Hil := hid_mk hil
          have Hb2 := hid_mk hb2
          clear hil hb2
          go_wp2
          go_ret
          exact ⟨(Out.refl 0 0 w).drew, .inl ⟨by rw [lead_stop Hil.out HX.out Hb2.out]; omega, by rw [lead_stop Hil.out HX.out Hb2.out]; rfl⟩⟩
        · have hlt : decide (b < 128) = false := by simpa using hb2
          have Hil := hid_mk hil
          have Hb2 := hid_mk hb2
          clear hil hb2
          go_wp2
          go_roundw
          case rel => exact ⟨i + 1, by go_num, by omega, lead_up Hil.out (by omega) HX.out (by have := Hb2.out; omega), trivial⟩
          case measure => simp [intOf]; omega
      · have hiE : i = m := by omega
        have g1 : ¬ ((i : Int) < (m : Int)) := by omega
        have HN : Hid (¬ (lead 9 L < 9 ∧ lead 9 L < m)) := hid_mk (by omega)
        clear hgo hil hiM
        subst hiE
        by_cases he9 : 9 ≤ i
        · have hd9 : decide ((9 : Int) ≤ (i : Int)) = true := by simp; omega
          have H9 : Hid (9 ≤ i) := hid_mk (by omega)
          go_wp2_with (go_at_call 26; refine calls_same (want_yes _ _ _) ?_)
          exact ⟨rfl, (Out.refl 0 0 w).drew, .inr ⟨HN.out, .inr ⟨H9.out, rfl⟩⟩⟩
        · have hd9 : decide ((9 : Int) ≤ (i : Int)) = false := by simp; omega
          have H9 : Hid (i < 9) := hid_mk (by omega)
          go_wp2_with (go_at_call 26; refine calls_stop (want_no _ _ _) ?_)
          exact ⟨rfl, (Out.refl 0 0 w).drew, .inr ⟨HN.out, .inl ⟨H9.out, rfl⟩⟩⟩
end Go.Proofs.YtapjfokkcgdhhaaDoor
namespace Go.Proofs.YtapjfokkcgdhhaaDoor
open Go.RowKit
set_option linter.unusedVariables false
set_option linter.unusedSimpArgs false

theorem RD.out {w w' : World} {r B n cap : Nat} {ba : Option Addr} {bs : List Int} {a : Nat} (h : RD w r B ba n cap bs a) (o : Out 0 0 w w') : RD w' r B ba n cap bs a :=
  ⟨h.1.kept o (.inr (Nat.zero_le _)), h.2.1.kept (Lo.of_out o) (Nat.le_refl _), h.2.2⟩
theorem RD.alloc {w : World} {r B n cap : Nat} {ba : Option Addr} {bs : List Int} {a : Nat} (h : RD w r B ba n cap bs a) (x : Obj) : RD (w.alloc x) r B ba n cap bs a := h.out ((Out.refl 0 0 w).alloc x)
theorem RD.lt {w : World} {r B n cap : Nat} {ba : Option Addr} {bs : List Int} {a : Nat} (h : RD w r B ba n cap bs a) : r < w.heap.size := h.1.lt
/-- what another block than the reader's keeps -/
theorem RD.off {w w' : World} {r B n cap : Nat} {ba : Option Addr} {bs : List Int} {a : Nat} (h : RD w r B ba n cap bs a) {lo hi : Nat} (o : Out lo hi w w') (hl : r < lo) : RD w' r B ba n cap bs a := by
  refine ⟨h.1.kept o (.inl hl), h.2.1.kept (C := lo) ⟨o.1, o.2.1, o.2.2.1, o.size, fun q h1 h2 => o.block h1 (by omega)⟩ (by have := h.2.2.2.1; omega), h.2.2⟩
theorem valN_up {row : List Int} {i : Nat} {b : Int} (h : row[i]? = some b) : valN (row.take (i + 1)) = valN (row.take i) + (b % 128).toNat * 128 ^ i := by
  induction row generalizing i with
  | nil => simp at h
  | cons c r ih =>
    cases i with
    | zero => simp at h; subst h; simp [valN]
    | succ i =>
      have := ih (i := i) (by simpa using h)
      simp only [List.take_succ_cons, valN]
      rw [this, Nat.mul_add, Nat.pow_succ, Nat.add_assoc, Nat.mul_left_comm]
      rw [Nat.mul_comm 128 (128 ^ i)]
theorem valN_lt (row : List Int) (hB : Byt row) : valN row < 128 ^ row.length := by
  induction row with
  | nil => simp [valN]
  | cons c r ih =>
    have := ih (fun x hx => hB x (List.mem_cons_of_mem _ hx))
    have hc := hB c (by simp)
    simp only [valN, List.length_cons, Nat.pow_succ]
    omega
/-- one digit more -/
theorem or_up {t b : Nat} {i : Nat} (h9 : i < 9) (ht : t < 128 ^ i) (hb : b < 128) : bits .or .i64 (t : Int) (IntKind.i64.wrap ((b : Int) * 2 ^ (7 * i))) = ((t + b * 128 ^ i : Nat) : Int) := by
  have hp : (128 : Nat) ^ i = 2 ^ (7 * i) := by rw [Nat.pow_mul]
  rw [hp] at ht ⊢
  have hle : (2 : Nat) ^ (7 * i) ≤ 72057594037927936 := by
    have : i = 0 ∨ i = 1 ∨ i = 2 ∨ i = 3 ∨ i = 4 ∨ i = 5 ∨ i = 6 ∨ i = 7 ∨ i = 8 := by omega
    rcases this with rfl | rfl | rfl | rfl | rfl | rfl | rfl | rfl | rfl <;> decide
  have hb2 : b * 2 ^ (7 * i) ≤ 127 * 72057594037927936 := Nat.mul_le_mul (by omega) hle
  have hc : (b : Int) * 2 ^ (7 * i) = ((b * 2 ^ (7 * i) : Nat) : Int) := by simp
  have hw : IntKind.i64.wrap ((b * 2 ^ (7 * i) : Nat) : Int) = ((b * 2 ^ (7 * i) : Nat) : Int) := by
    generalize b * 2 ^ (7 * i) = z at hb2
    simp [IntKind.wrap, IntKind.signed, IntKind.bits]; omega
  rw [hc, hw]
  have e : bits .or .i64 (t : Int) ((b * 2 ^ (7 * i) : Nat) : Int) = IntKind.wrap .i64 ((BitVec.ofInt 64 (t : Int) ||| BitVec.ofInt 64 ((b * 2 ^ (7 * i) : Nat) : Int)).toNat : Nat) := rfl
  have h : (BitVec.ofInt 64 (t : Int) ||| BitVec.ofInt 64 ((b * 2 ^ (7 * i) : Nat) : Int)).toNat = t + b * 2 ^ (7 * i) := by
    rw [BitVec.or_comm, BitVec.toNat_or, BitVec.ofInt_natCast, BitVec.ofInt_natCast, BitVec.toNat_ofNat, BitVec.toNat_ofNat, Nat.mod_eq_of_lt (by omega), Nat.mod_eq_of_lt (by omega), Nat.mul_comm, ← Nat.two_pow_add_eq_or_of_lt ht, Nat.add_comm]
  rw [e, h]
  generalize b * 2 ^ (7 * i) = z at *
  generalize (2 : Nat) ^ (7 * i) = y at *
  simp [IntKind.wrap, IntKind.signed, IntKind.bits]
  omega
theorem wrap64_i (x : Int) : wrap64 x = IntKind.i64.wrap x := by
  simp [wrap64, IntKind.wrap, IntKind.signed, IntKind.bits]
  split <;> omega
theorem or_val {row : List Int} {i : Nat} {b : Int} (hB : Byt row) (hb : row[i]? = some b) (h9 : i < 9) :
    Value.int .i64 (bits .or .i64 ((valN (row.take i) : Nat) : Int) (wrap64 (b % 128 * 2 ^ (7 * i)))) = .int .i64 ((valN (row.take (i + 1)) : Nat) : Int) := by
  have hbb := hB b (List.mem_of_getElem? hb)
  have hi := (List.getElem?_eq_some_iff.1 hb).1
  have hl := valN_lt (row.take i) (hB.take i)
  rw [List.length_take, Nat.min_eq_left (by omega)] at hl
  have e : b % 128 = (((b % 128).toNat : Nat) : Int) := by omega
  rw [wrap64_i, e, or_up h9 hl (by omega), valN_up hb]
end Go.Proofs.YtapjfokkcgdhhaaDoor
