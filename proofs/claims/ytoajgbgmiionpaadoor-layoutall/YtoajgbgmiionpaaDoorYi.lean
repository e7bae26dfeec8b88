/- the document's own Fields -/
import Derived.Test.YtoajgbgmiionpaaDoorYh
namespace Go.Proofs.YtoajgbgmiionpaaDoor
open Go.RowKit
set_option linter.unusedVariables false
set_option linter.unusedSimpArgs false

set_option maxHeartbeats 1000000 in
theorem refFields_any (k s : Int) (w : World) (s1 : -9223372036854775808 ≤ s) (s2 : s ≤ 9223372036854775807) :
    Calls Tryd.prog 14 #[.int .i64 k, .int .i64 s] w fun e w' => ∃ v, e = .returned v ∧ ListIs w' w.heap.size v (flds k s) ∧ Out 0 0 w w' := by
  have HF := hid_mk (fun w => refFits_any k s w s1 s2)
  have HR := hid_mk (fun i w => refRole_any k s i w s1 s2)
  clear s1 s2
  cases hf : fitsB k s
  · rw [hf] at HF
    have e : flds k s = [] := by unfold flds; rw [hf]; rfl
    rw [e]
    clear e hf
    go_enter Tryd.func14, Tryd.ntmps14
    go_wp2_with fail
    go_loopw [5, 6] (fun o x wr => o = .slice none 0 0 ∧ x = .int .i64 1 ∧ wr = w) (fun _ x _ => 0)
    case atStart => exact ⟨rfl, rfl, rfl⟩
    case round =>
      obtain ⟨rfl, rfl, rfl⟩ := hrel
      by_cases h1 : 1 < s
      · go_wp2_with (go_at_call 26; refine (HF.out _).mono ?_; rintro e w1 ⟨rfl, ho⟩)
        go_ret
        exact ⟨_, rfl, ListIs.nil _ _, ho⟩
      · go_wp2
        go_ret
        exact ⟨_, rfl, ListIs.nil _ _, Out.refl _ _ _⟩
  · rw [hf] at HF
    obtain ⟨b1, b2⟩ := fits_le hf
    have e : flds k s = fl k s.toNat := by unfold flds; rw [hf]; rfl
    rw [e]
    have HV : Hid (∀ i, 1 ≤ i → i < s → roleV k s i = roleW k i) := fun i h1 h2 => by unfold roleV; rw [if_pos ⟨hf, h1, h2⟩]
    obtain ⟨q, rfl⟩ : ∃ q : Nat, s = q := ⟨s.toNat, by omega⟩
    rw [show ((q : Nat) : Int).toNat = q from by omega]
    obtain ⟨i0, hi0, hz0, hz1, hz2⟩ := info_parts info_int
    have HQ : Hid (1 ≤ q ∧ q ≤ 1024) := by show _ ∧ _; omega
    clear e hf b1 b2
    go_enter Tryd.func14, Tryd.ntmps14
    go_wp2_with fail
    go_loopw [5, 6] (fun o x wr => ∃ p : Nat, 1 ≤ p ∧ p ≤ q ∧ x = .int .i64 p ∧ ListIs wr w.heap.size o (fl k p) ∧ Out 0 0 w wr) (fun _ x _ => q - (intOf x).toNat)
    case atStart => exact ⟨1, Nat.le_refl _, HQ.out.1, rfl, by rw [fl_one]; exact ListIs.nil _ _, Out.refl _ _ _⟩
    case round =>
      obtain ⟨p, p1, p2, rfl, hl, ho⟩ := hrel
      have HL := hid_mk hl
      have HO := hid_mk ho
      have p0 : (0 : Int) ≤ (p : Int) := by omega
      have HP := hid_mk p1
      clear hl ho p1
      by_cases hgo : p < q
      · have g1 : (p : Int) < (q : Int) := by omega
        have g2 : (q : Int) ≤ 1024 := by have := HQ.out; omega
        obtain ⟨r, hr⟩ : ∃ r, roleW k p = r := ⟨_, rfl⟩
        have HRp := hid_mk (HR.out p)
        rw [HV.out p (by have := HP.out; omega) g1, hr] at HRp
        by_cases h1 : r = 1
        · have hn : (r != 1) = false := by simp [h1]
          have HE := hid_mk (fl_out (h1 ▸ hr))
          clear hr h1
          go_wp2_with (first | (go_at_call 26; refine (HF.out _).mono ?_; rintro e w1 ⟨rfl, ho1⟩; have HO1 := hid_mk ho1; clear ho1) | (go_at_call 27; refine (HRp.out _).mono ?_; rintro e w2 ⟨rfl, ho2⟩; have HO2 := hid_mk ho2; clear ho2))
          go_roundw
          case rel => exact ⟨p + 1, by omega, by omega, by go_num, by rw [HE.out]; exact HL.out.kept (HO1.out.trans HO2.out) (Nat.zero_le _), HO.out.trans (HO1.out.trans HO2.out)⟩
          case measure => simp [intOf]; omega
        · have hn : (r != 1) = true := by simp [h1]
          have HE := hid_mk (fl_in HP.out (by rw [hr]; exact h1))
          clear hr h1
          go_wp2_with (first | (go_at_call 26; refine (HF.out _).mono ?_; rintro e w1 ⟨rfl, ho1⟩; have HO1 := hid_mk ho1; clear ho1) | (go_at_call 27; refine (HRp.out _).mono ?_; rintro e w2 ⟨rfl, ho2⟩; have HO2 := hid_mk (HO.out.trans (HO1.out.trans ho2)); have HL2 := hid_mk (HL.out.kept (HO1.out.trans ho2) (Nat.zero_le _)); have HW : Hid (w.heap.size ≤ w2.heap.size) := HO2.out.size; clear ho2) | (at_builtin; refine wpList_append_lies _ rfl _ _ 26 rfl w.heap.size 3 i0 (.int .i64 0) 1 8 Tryd.underlying26 hi0 hz0 hz1 hz2 rfl (by decide) _ _ _ rfl (HL2.out.kept ((Out.refl 0 0 _).alloc _) (Nat.zero_le _)) ⟨w2.heap.size, 0, none⟩ 1 1 [.int .i64 p] rfl rfl (cell_one_new _ _ _) ?c2 (by decide) ?c3 ?c4 ?c5 _ rfl ?_))
          case c2 => intro u hu; simp at hu; subst hu; rfl
          case c3 => unfold maxLen; have := fl_len k p; omega
          case c4 => have := fl_len k p; omega
          case c5 => have := HW.out; simp; omega
          intro g cap w3 hown hgrow hat hlt
          have hO1 := own_out (HL2.out.kept ((Out.refl 0 0 _).alloc _) (Nat.zero_le _)) hgrow
          have HO3 : Hid (Out 0 0 w w3) := (HO2.out.trans ((Out.refl 0 0 _).alloc _)).past hO1 (Nat.le_refl _)
          have HL1 : Hid (ListIs w3 w.heap.size (.slice (some ⟨g, 0, none⟩) ((fl k p).length + 1) cap) (fl k (p + 1))) := by
            show World.ownsRow _ _ _ _ _ _ _
            rw [HE.out, List.length_append]
            have : ints (fl k p ++ [p]) = ints (fl k p) ++ [.int .i64 p] := by simp [ints]
            rw [this]
            exact hown
          generalize (fl k p).length + 1 = ln at *
          clear hown hgrow hat hlt hO1
          go_wp2
          go_roundw
          case rel => exact ⟨p + 1, by omega, by omega, by go_num, HL1.out, HO3.out⟩
          case measure => simp [intOf]; omega
      · have g1 : (q : Int) ≤ (p : Int) := by omega
        have : p = q := by omega
        subst this
        clear hgo
        go_wp2
        go_ret
        exact ⟨_, rfl, HL.out, HO.out⟩
end Go.Proofs.YtoajgbgmiionpaaDoor
