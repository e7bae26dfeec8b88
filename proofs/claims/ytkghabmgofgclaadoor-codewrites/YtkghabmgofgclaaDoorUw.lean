/- package code: copies of bytes; the first bytes are read -/
import Derived.Test.YtkghabmgofgclaaDoorUv
namespace Go.Proofs.YtkghabmgofgclaaDoor
open Go.RowKit
set_option linter.unusedVariables false
set_option linter.unusedSimpArgs false

set_option maxRecDepth 100000 in
theorem clone_any {w : World} {B n C : Nat} {A : Option Addr} {t : List Int} (h : ByIn w B A t) (hn : t.length = n) (hn2 : n ≤ 1000000) (hA : A = none → n = 0) :
    Calls Tryd.prog 84 #[.slice A n C] w fun e w' => ∃ A' C', e = .returned (.slice A' n C') ∧ w'.ownsRow w.heap.size 5 1 (.slice A' n C') n (bvs t) ∧ Out 0 0 w w' := by
  cases A with
  | none =>
    have h0 := hA rfl
    subst h0
    have ht : t = [] := List.eq_nil_of_length_eq_zero hn
    subst ht
    have hq : ∀ W, (binOp .eql 33 (.slice none 0 C) (.slice none 0 0)).run Tryd.prog W = .ok (.bool true) W := fun W => by kernel_rfl
    clear h hn hn2 hA
    go_enter Tryd.func84, Tryd.ntmps84
    go_wp2
    go_ret
    exact ⟨none, 0, rfl, World.ownsRow_nil _ _ _ 1, Out.refl _ _ _⟩
  | some ad =>
    have HX := hid_mk (h.kept (Lo.of_out ((Out.refl 0 0 w).alloc (.cells #[] 5))) (Nat.le_refl _)).bytes
    have HN := hid_mk (And.intro hn hn2)
    have HO : Hid ((w.alloc (.cells #[] 5)).ownsRow w.heap.size 5 1 (.slice (some ⟨w.heap.size, 0, none⟩) 0 0) 0 (bvs [])) := hid_mk ⟨rfl, .inr ⟨w.heap.size, 0, #[], rfl, Nat.le_refl _, Bl.new w #[] _, Nat.le_refl _, by decide, rfl, rfl⟩⟩
    have hq : ∀ W, (binOp .eql 33 (.slice (some ad) n C) (.slice none 0 0)).run Tryd.prog W = .ok (.bool false) W := fun W => by kernel_rfl
    clear h hn hn2 hA
    go_enter Tryd.func84, Tryd.ntmps84
    go_wp2_with (at_builtin; refine app_step rfl _ _ rfl rfl rfl HO.out (by simp) HX.out HN.out.1 (by omega) HN.out.2 ?_)
    intro a' cap' w' q1 q2 q3
    (try rw [Nat.zero_add, List.nil_append] at q1)
    (try rw [Nat.zero_add])
    have H1 := hid_mk q1
    have H2 := hid_mk q2
    clear q1 q2 q3
    go_wp2
    go_ret
    refine ⟨a', cap', rfl, H1.out, ?_⟩
    have o1 : Out 0 0 w (w.alloc (.cells #[] 5)) := (Out.refl 0 0 w).alloc _
    exact ⟨H2.out.1.trans o1.1, H2.out.2.1.trans o1.2.1, H2.out.2.2.1.trans o1.2.2.1, Nat.le_trans o1.size H2.out.size, fun k h1 h2 => (H2.out.2.2.2.2 k (by rw [size_alloc]; omega) (by intro q; cases q; exact Nat.lt_irrefl _ h1)).trans (o1.block h1 h2)⟩
theorem mag_ok {bs l : List Int} {a : Nat} {b : Int} (h : bs[a]? = some b) : magR (b :: l) bs a = magR l bs (a + 1) := by
  have hl := (List.getElem?_eq_some_iff.1 h).1
  have h0 : takeR 1 bs a = .inr ([b], a + 1) := by rw [take_ok (by omega), take_one h]
  have h1 : chkR (takeR 1) (· = [b]) bs a = .inr ([b], a + 1) := chk_ok h0 rfl
  exact bnd_ok h1
theorem mag_no {bs l : List Int} {a : Nat} {b c : Int} (h : bs[a]? = some b) (hc : b ≠ c) : magR (c :: l) bs a = .inl (60, a) := by
  have hl := (List.getElem?_eq_some_iff.1 h).1
  have h0 : takeR 1 bs a = .inr ([b], a + 1) := by rw [take_ok (by omega), take_one h]
  have h1 : chkR (takeR 1) (· = [c]) bs a = .inl (60, a) := chk_no h0 (by intro q; cases q; exact hc rfl)
  exact bnd_err h1
theorem mag_end {bs l : List Int} {a : Nat} {c : Int} (h : bs.length = a) : magR (c :: l) bs a = .inl (61, a) := by
  have h0 : takeR 1 bs a = .inl (61, a) := by rw [take_err (by omega) (by omega), h]
  have h1 : chkR (takeR 1) (· = [c]) bs a = .inl (61, a) := chk_err h0
  exact bnd_err h1
set_option maxRecDepth 100000 in
set_option maxHeartbeats 2000000 in
theorem rmagic_any {w : World} {r B n cap : Nat} {ba : Option Addr} {bs : List Int} {a : Nat} (h : RD w r B ba n cap bs a) :
    Calls Tryd.prog 82 #[.pointer (some ⟨r, 0, none⟩)] w fun e w' => Out r (r + 1) w w' ∧ ((∃ c, magR [104, 116, 104, 1] bs a = .inr ((), c) ∧ e = .returned (.tuple #[]) ∧ RD w' r B ba n cap bs c) ∨ ∃ x q, magR [104, 116, 104, 1] bs a = .inl (x, q) ∧ e = .panicked [stopP x (q : Int)]) := by
  have HR := hid_mk h
  have hlen : Hid (bs.length = n) := h.2.2.1
  clear h
  go_enter Tryd.func82, Tryd.ntmps82
  go_wp2
  go_loopw [4] (fun x wr => ∃ i : Nat, x = .int .i64 i ∧ i ≤ 4 ∧ magR [104, 116, 104, 1] bs a = magR (([104, 116, 104, 1] : List Int).drop i) bs (a + i) ∧ RD wr r B ba n cap bs (a + i) ∧ Out r (r + 1) w wr) (fun x _ => 4 - (intOf x).toNat)
  case atStart => exact ⟨0, rfl, Nat.zero_le _, rfl, HR.out, Out.refl _ _ _⟩
  case round =>
    obtain ⟨i, rfl, hi, hm, hrd, ho⟩ := hrel
    have HM := hid_mk hm
    have HRD := hid_mk hrd
    have HO := hid_mk ho
    have c1 := hrd.1.cell (i := 1) rfl
    have hal : Hid (a + i ≤ n) := hid_mk hrd.2.2.2.2.1
    clear hm hrd ho
    by_cases hgo : i < 4
    · have hcase : i = 0 ∨ i = 1 ∨ i = 2 ∨ i = 3 := by omega
      clear hi hgo
      rcases hcase with rfl | rfl | rfl | rfl
      · obtain ⟨l, hl⟩ : ∃ l, ([104, 116, 104, 1] : List Int).drop 0 = 104 :: l := ⟨_, rfl⟩
        have hE : ∀ h, (((⟨#[104, 116, 104, 1]⟩ : ByteArray)[0]'h).toNat : Nat) = 104 := fun _ => rfl
        rw [hl] at HM
        have HL := hid_mk hl
        have hl2 : Hid (([104, 116, 104, 1] : List Int).drop (0 + 1) = l) := hid_mk (by have := congrArg List.tail hl; simpa using this)
        clear hl
        go_wp2
        refine wp_region_held_drew (S := fun _ => True) (by kernel_rfl) trivial (fun hHeld => ?_)
        refine tk 0 ?_
        refine tk 4 ?_
        refine tk 5 ?_
        refine tk 7 ?_
        refine wpAnyH_ready (rs := [1]) (by kernel_rfl) (by simp) ?_
        refine AllReadyH.cons rfl (fun KK hK => ?_) AllReadyH.nil
        simp only [xa, xb, xc]
        go_simp
        have HRZ := hid_mk (HRD.out.out ((Out.refl 0 0 wr).drew))
        by_cases hj : a + 0 + 1 ≤ n
        · obtain ⟨b, hb⟩ : ∃ b, bs[a + 0]? = some b := ⟨_, List.getElem?_eq_getElem (by have := hlen.out; omega)⟩
          refine (take_go HRZ.out 1 hj).mono ?_
          rintro e w3 ⟨A', C', rfl, _, h2, h3, h4⟩
          rw [take_one hb] at h2
          obtain ⟨q1, q2⟩ := h2
          rcases q2 with q2 | ⟨g, off, rfl, _, q3⟩
          · cases q2
          have d0 : w3.cell? ⟨g, off, none⟩ = some (.int .u8 b) := q3 0 b rfl
          have HO3 := hid_mk (HO.out.trans (((Out.refl r (r + 1) wr).drew).trans h4))
          have HR3 := hid_mk h3
          have HB := hid_mk hb
          clear q3 h3 h4 hb q1
          refine hK.out _ _ trivial (fun _ => ?_)
          refine tk 2 ?_
          refine wpAnyH_ready (rs := [3]) (by kernel_rfl) (by simp) ?_
          refine AllReadyH.cons rfl (fun KK hK => ?_) AllReadyH.nil
          simp only [xa, xb, xc]
          go_simp
          refine hK.out _ _ trivial (fun _ => ?_)
          refine tk 6 ?_
          refine wpAnyH_ready (rs := [8]) (by kernel_rfl) (by simp) ?_
          refine AllReadyH.cons rfl (fun KK hK => ?_) AllReadyH.nil
          simp only [xa, xb, xc]
          go_simp
          refine want_any _ _ _ ?_ ?_
          · intro hh
            have hbc : b = 104 := by simpa [hE] using hh
            subst hbc
            refine hK.out _ _ trivial (fun _ => ?_)
            refine wpAnyH_done (by kernel_rfl) ?_ _
            go_wp2
            go_roundw
            case rel => exact ⟨0 + 1, by first | rfl | go_num, by omega, by rw [HM.out, mag_ok HB.out, hl2.out, Nat.add_assoc], by have := HR3.out; rwa [Nat.add_assoc] at this, HO3.out⟩
            case measure => first | decide | (simp [intOf])
          · intro hh
            have hbc : b ≠ 104 := by simpa [hE] using hh
            exact ⟨rfl, HO3.out, .inr ⟨60, a + 0, by rw [HM.out, mag_no HB.out hbc], rfl⟩⟩
        · refine (take_end HRZ.out 1 (by omega)).mono ?_
          rintro e w3 ⟨rfl, ho3⟩
          have hae : a + 0 = n := by have := hal.out; omega
          exact ⟨rfl, HO.out.trans (((Out.refl r (r + 1) wr).drew).trans (ho3.any _ _)), .inr ⟨61, n, by rw [HM.out, mag_end (by rw [hlen.out, hae]), hae], rfl⟩⟩
      · obtain ⟨l, hl⟩ : ∃ l, ([104, 116, 104, 1] : List Int).drop 1 = 116 :: l := ⟨_, rfl⟩
        have hE : ∀ h, (((⟨#[104, 116, 104, 1]⟩ : ByteArray)[1]'h).toNat : Nat) = 116 := fun _ => rfl
        rw [hl] at HM
        have HL := hid_mk hl
        have hl2 : Hid (([104, 116, 104, 1] : List Int).drop (1 + 1) = l) := hid_mk (by have := congrArg List.tail hl; simpa using this)
        clear hl
        go_wp2
        refine wp_region_held_drew (S := fun _ => True) (by kernel_rfl) trivial (fun hHeld => ?_)
        refine tk 0 ?_
        refine tk 4 ?_
        refine tk 5 ?_
        refine tk 7 ?_
        refine wpAnyH_ready (rs := [1]) (by kernel_rfl) (by simp) ?_
        refine AllReadyH.cons rfl (fun KK hK => ?_) AllReadyH.nil
        simp only [xa, xb, xc]
        go_simp
        have HRZ := hid_mk (HRD.out.out ((Out.refl 0 0 wr).drew))
        by_cases hj : a + 1 + 1 ≤ n
        · obtain ⟨b, hb⟩ : ∃ b, bs[a + 1]? = some b := ⟨_, List.getElem?_eq_getElem (by have := hlen.out; omega)⟩
          refine (take_go HRZ.out 1 hj).mono ?_
          rintro e w3 ⟨A', C', rfl, _, h2, h3, h4⟩
          rw [take_one hb] at h2
          obtain ⟨q1, q2⟩ := h2
          rcases q2 with q2 | ⟨g, off, rfl, _, q3⟩
          · cases q2
          have d0 : w3.cell? ⟨g, off, none⟩ = some (.int .u8 b) := q3 0 b rfl
          have HO3 := hid_mk (HO.out.trans (((Out.refl r (r + 1) wr).drew).trans h4))
          have HR3 := hid_mk h3
          have HB := hid_mk hb
          clear q3 h3 h4 hb q1
          refine hK.out _ _ trivial (fun _ => ?_)
          refine tk 2 ?_
          refine wpAnyH_ready (rs := [3]) (by kernel_rfl) (by simp) ?_
          refine AllReadyH.cons rfl (fun KK hK => ?_) AllReadyH.nil
          simp only [xa, xb, xc]
          go_simp
          refine hK.out _ _ trivial (fun _ => ?_)
          refine tk 6 ?_
          refine wpAnyH_ready (rs := [8]) (by kernel_rfl) (by simp) ?_
          refine AllReadyH.cons rfl (fun KK hK => ?_) AllReadyH.nil
          simp only [xa, xb, xc]
          go_simp
          refine want_any _ _ _ ?_ ?_
          · intro hh
            have hbc : b = 116 := by simpa [hE] using hh
            subst hbc
            refine hK.out _ _ trivial (fun _ => ?_)
            refine wpAnyH_done (by kernel_rfl) ?_ _
            go_wp2
            go_roundw
            case rel => exact ⟨1 + 1, by first | rfl | go_num, by omega, by rw [HM.out, mag_ok HB.out, hl2.out, Nat.add_assoc], by have := HR3.out; rwa [Nat.add_assoc] at this, HO3.out⟩
            case measure => first | decide | (simp [intOf])
          · intro hh
            have hbc : b ≠ 116 := by simpa [hE] using hh
            exact ⟨rfl, HO3.out, .inr ⟨60, a + 1, by rw [HM.out, mag_no HB.out hbc], rfl⟩⟩
        · refine (take_end HRZ.out 1 (by omega)).mono ?_
          rintro e w3 ⟨rfl, ho3⟩
          have hae : a + 1 = n := by have := hal.out; omega
          exact ⟨rfl, HO.out.trans (((Out.refl r (r + 1) wr).drew).trans (ho3.any _ _)), .inr ⟨61, n, by rw [HM.out, mag_end (by rw [hlen.out, hae]), hae], rfl⟩⟩
      · obtain ⟨l, hl⟩ : ∃ l, ([104, 116, 104, 1] : List Int).drop 2 = 104 :: l := ⟨_, rfl⟩
        have hE : ∀ h, (((⟨#[104, 116, 104, 1]⟩ : ByteArray)[2]'h).toNat : Nat) = 104 := fun _ => rfl
        rw [hl] at HM
        have HL := hid_mk hl
        have hl2 : Hid (([104, 116, 104, 1] : List Int).drop (2 + 1) = l) := hid_mk (by have := congrArg List.tail hl; simpa using this)
        clear hl
        go_wp2
        refine wp_region_held_drew (S := fun _ => True) (by kernel_rfl) trivial (fun hHeld => ?_)
        refine tk 0 ?_
        refine tk 4 ?_
        refine tk 5 ?_
        refine tk 7 ?_
        refine wpAnyH_ready (rs := [1]) (by kernel_rfl) (by simp) ?_
        refine AllReadyH.cons rfl (fun KK hK => ?_) AllReadyH.nil
        simp only [xa, xb, xc]
        go_simp
        have HRZ := hid_mk (HRD.out.out ((Out.refl 0 0 wr).drew))
        by_cases hj : a + 2 + 1 ≤ n
        · obtain ⟨b, hb⟩ : ∃ b, bs[a + 2]? = some b := ⟨_, List.getElem?_eq_getElem (by have := hlen.out; omega)⟩
          refine (take_go HRZ.out 1 hj).mono ?_
          rintro e w3 ⟨A', C', rfl, _, h2, h3, h4⟩
          rw [take_one hb] at h2
          obtain ⟨q1, q2⟩ := h2
          rcases q2 with q2 | ⟨g, off, rfl, _, q3⟩
          · cases q2
          have d0 : w3.cell? ⟨g, off, none⟩ = some (.int .u8 b) := q3 0 b rfl
          have HO3 := hid_mk (HO.out.trans (((Out.refl r (r + 1) wr).drew).trans h4))
          have HR3 := hid_mk h3
          have HB := hid_mk hb
          clear q3 h3 h4 hb q1
          refine hK.out _ _ trivial (fun _ => ?_)
          refine tk 2 ?_
          refine wpAnyH_ready (rs := [3]) (by kernel_rfl) (by simp) ?_
          refine AllReadyH.cons rfl (fun KK hK => ?_) AllReadyH.nil
          simp only [xa, xb, xc]
          go_simp
          refine hK.out _ _ trivial (fun _ => ?_)
          refine tk 6 ?_
          refine wpAnyH_ready (rs := [8]) (by kernel_rfl) (by simp) ?_
          refine AllReadyH.cons rfl (fun KK hK => ?_) AllReadyH.nil
          simp only [xa, xb, xc]
          go_simp
          refine want_any _ _ _ ?_ ?_
          · intro hh
            have hbc : b = 104 := by simpa [hE] using hh
            subst hbc
            refine hK.out _ _ trivial (fun _ => ?_)
            refine wpAnyH_done (by kernel_rfl) ?_ _
            go_wp2
            go_roundw
            case rel => exact ⟨2 + 1, by first | rfl | go_num, by omega, by rw [HM.out, mag_ok HB.out, hl2.out, Nat.add_assoc], by have := HR3.out; rwa [Nat.add_assoc] at this, HO3.out⟩
            case measure => first | decide | (simp [intOf])
          · intro hh
            have hbc : b ≠ 104 := by simpa [hE] using hh
            exact ⟨rfl, HO3.out, .inr ⟨60, a + 2, by rw [HM.out, mag_no HB.out hbc], rfl⟩⟩
        · refine (take_end HRZ.out 1 (by omega)).mono ?_
          rintro e w3 ⟨rfl, ho3⟩
          have hae : a + 2 = n := by have := hal.out; omega
          exact ⟨rfl, HO.out.trans (((Out.refl r (r + 1) wr).drew).trans (ho3.any _ _)), .inr ⟨61, n, by rw [HM.out, mag_end (by rw [hlen.out, hae]), hae], rfl⟩⟩
      · obtain ⟨l, hl⟩ : ∃ l, ([104, 116, 104, 1] : List Int).drop 3 = 1 :: l := ⟨_, rfl⟩
        have hE : ∀ h, (((⟨#[104, 116, 104, 1]⟩ : ByteArray)[3]'h).toNat : Nat) = 1 := fun _ => rfl
        rw [hl] at HM
        have HL := hid_mk hl
        have hl2 : Hid (([104, 116, 104, 1] : List Int).drop (3 + 1) = l) := hid_mk (by have := congrArg List.tail hl; simpa using this)
        clear hl
        go_wp2
        refine wp_region_held_drew (S := fun _ => True) (by kernel_rfl) trivial (fun hHeld => ?_)
        refine tk 0 ?_
        refine tk 4 ?_
        refine tk 5 ?_
        refine tk 7 ?_
        refine wpAnyH_ready (rs := [1]) (by kernel_rfl) (by simp) ?_
        refine AllReadyH.cons rfl (fun KK hK => ?_) AllReadyH.nil
        simp only [xa, xb, xc]
        go_simp
        have HRZ := hid_mk (HRD.out.out ((Out.refl 0 0 wr).drew))
        by_cases hj : a + 3 + 1 ≤ n
        · obtain ⟨b, hb⟩ : ∃ b, bs[a + 3]? = some b := ⟨_, List.getElem?_eq_getElem (by have := hlen.out; omega)⟩
          refine (take_go HRZ.out 1 hj).mono ?_
          rintro e w3 ⟨A', C', rfl, _, h2, h3, h4⟩
          rw [take_one hb] at h2
          obtain ⟨q1, q2⟩ := h2
          rcases q2 with q2 | ⟨g, off, rfl, _, q3⟩
          · cases q2
          have d0 : w3.cell? ⟨g, off, none⟩ = some (.int .u8 b) := q3 0 b rfl
          have HO3 := hid_mk (HO.out.trans (((Out.refl r (r + 1) wr).drew).trans h4))
          have HR3 := hid_mk h3
          have HB := hid_mk hb
          clear q3 h3 h4 hb q1
          refine hK.out _ _ trivial (fun _ => ?_)
          refine tk 2 ?_
          refine wpAnyH_ready (rs := [3]) (by kernel_rfl) (by simp) ?_
          refine AllReadyH.cons rfl (fun KK hK => ?_) AllReadyH.nil
          simp only [xa, xb, xc]
          go_simp
          refine hK.out _ _ trivial (fun _ => ?_)
          refine tk 6 ?_
          refine wpAnyH_ready (rs := [8]) (by kernel_rfl) (by simp) ?_
          refine AllReadyH.cons rfl (fun KK hK => ?_) AllReadyH.nil
          simp only [xa, xb, xc]
          go_simp
          refine want_any _ _ _ ?_ ?_
          · intro hh
            have hbc : b = 1 := by simpa [hE] using hh
            subst hbc
            refine hK.out _ _ trivial (fun _ => ?_)
            refine wpAnyH_done (by kernel_rfl) ?_ _
            go_wp2
            go_roundw
            case rel => exact ⟨3 + 1, by first | rfl | go_num, by omega, by rw [HM.out, mag_ok HB.out, hl2.out, Nat.add_assoc], by have := HR3.out; rwa [Nat.add_assoc] at this, HO3.out⟩
            case measure => first | decide | (simp [intOf])
          · intro hh
            have hbc : b ≠ 1 := by simpa [hE] using hh
            exact ⟨rfl, HO3.out, .inr ⟨60, a + 3, by rw [HM.out, mag_no HB.out hbc], rfl⟩⟩
        · refine (take_end HRZ.out 1 (by omega)).mono ?_
          rintro e w3 ⟨rfl, ho3⟩
          have hae : a + 3 = n := by have := hal.out; omega
          exact ⟨rfl, HO.out.trans (((Out.refl r (r + 1) wr).drew).trans (ho3.any _ _)), .inr ⟨61, n, by rw [HM.out, mag_end (by rw [hlen.out, hae]), hae], rfl⟩⟩
    · have hiE : i = 4 := by omega
      subst hiE
      go_wp2
      exact bodyPost_end (results_none Tryd.results82 _ _ _) rfl ⟨HO.out, .inl ⟨_, HM.out, rfl, HRD.out⟩⟩
end Go.Proofs.YtkghabmgofgclaaDoor
