/- apart -/
import Derived.Test.YtfkmaanfgkkjcaaDoorGn
import Derived.Deep.RegionLaw
import Derived.Deep.RegionLawGrows
namespace Go.Proofs.YtfkmaanfgkkjcaaDoor
open Go.RowKit
set_option linter.unusedVariables false
set_option linter.unusedSimpArgs false

theorem row_open {w : World} {B n : Nat} {T : TypeId} {v : Value} {xs : List Value} (h : w.ownsRow B T 1 v n xs) : ∃ a cap, v = .slice a n cap ∧ (0 < n → ∃ g, a = some ⟨g, 0, none⟩ ∧ ∀ (j : Nat) u, xs[j]? = some u → w.cell? ⟨g, j, none⟩ = some u) := by
  have h' := h
  rcases h.2 with ⟨e, h0⟩ | ⟨g, cap, cur, e, _⟩
  · exact ⟨none, 0, by rw [e, h0], fun h => by omega⟩
  · refine ⟨_, _, e, fun _ => ⟨g, rfl, fun j u hu => ?_⟩⟩
    subst e
    exact row_cell h' hu
theorem Keep.take {B : Nat} {w : World} {b : Nat} {vT vR vL vW vS vM : Value} {L Wr Ls : List Value} {Mk : List Nat} {C : Nat → List (Int × Int × Int)} {col : Nat → Nat} {p : Nat}
    (h : Keep B w b vT vR vL vW vS vM L Wr Ls Mk C col none p false) {v : Value} (hv : L[p]? = some v) :
    ∃ col', (∀ x, col x = 7 → col' x = 7) ∧ Keep B w b vT vR vL vW vS vM L Wr Ls Mk C col' none (p + 1) false ∧ ListIs w B v (C p) ∧ (C p).length ≤ 64 ∧ ∀ x, v.ownBlock = some x → col' x = 8 := by
  obtain ⟨q1, q2, q3⟩ := h.q p v (Nat.le_refl _) hv
  have drop : Keep B w b vT vR vL vW vS vM L Wr Ls Mk C col none (p + 1) false := { h with q := fun i u hi hu => h.q i u (by omega) hu }
  cases hb : v.ownBlock with
  | none => exact ⟨col, fun _ h => h, drop, q1, q2, fun x hx => by cases hx⟩
  | some g =>
    have hg := q3 g hb
    have e : ∀ x c, col x = c → c ≠ 20 + p → upd col g 8 x = c := fun x c hx hc => by
      rw [upd_other (by intro e; subst e; omega)]; exact hx
    have k2 : Keep B w b vT vR vL vW vS vM L Wr Ls Mk C (upd col g 8) none (p + 1) false := by
      refine { drop with lo := ?_, cb := ?_, cL := ?_, cW := ?_, cS := ?_, cM := ?_, q := ?_, wr := ?_, f := ?_ }
      · intro k hk; exact e _ _ (h.lo k hk) (by omega)
      · exact e _ _ h.cb (by omega)
      · intro x hx; exact e _ _ (h.cL x hx) (by omega)
      · intro x hx; exact e _ _ (h.cW x hx) (by omega)
      · intro x hx; exact e _ _ (h.cS x hx) (by omega)
      · intro x hx; exact e _ _ (h.cM x hx) (by omega)
      · intro i u hi hu
        obtain ⟨r1, r2, r3⟩ := h.q i u (by omega) hu
        exact ⟨r1, r2, fun x hx => e _ _ (r3 x hx) (by omega)⟩
      · intro hu; cases hu
      · intro i u x h1 h2
        obtain ⟨a, n, cap, e1, hn, r⟩ := h.f i u x h1 h2
        refine ⟨a, n, cap, e1, hn, fun h0 => ?_⟩
        obtain ⟨y, y0, y1⟩ := r h0
        refine ⟨y, y0, ?_⟩
        rcases y1 with ⟨y1, y2, y3⟩ | y1
        · exact .inl ⟨y1, e _ _ y2 (by omega), y3⟩
        · exact .inr y1
    exact ⟨upd col g 8, fun x hx => e _ _ hx (by omega), k2, q1, q2, fun x hx => by cases hx; exact upd_self _ _ _⟩
theorem Keep.noWere {B : Nat} {w : World} {b : Nat} {vT vR vL vW vS vM : Value} {L Wr Ls : List Value} {Mk : List Nat} {C : Nat → List (Int × Int × Int)} {col : Nat → Nat} {cur : Option (Nat × Nat × Nat)} {p : Nat} {u : Bool}
    (h : Keep B w b vT vR vL vW vS vM L Wr Ls Mk C col cur p u) : Keep B w b vT vR vL vW vS vM L Wr Ls Mk C col cur p false := { h with wr := fun hu => by cases hu }
/-- its list of lists is forgotten -/
theorem Keep.forget {B : Nat} {w : World} {b : Nat} {vT vR vL vW vS vM : Value} {L Wr Ls : List Value} {Mk : List Nat} {C : Nat → List (Int × Int × Int)} {col : Nat → Nat} {p : Nat}
    (h : Keep B w b vT vR vL vW vS vM L Wr Ls Mk C col none p false) : Fix col col w (w.setCell ⟨b, 2, none⟩ (.slice none 0 0)) ∧ Keep B (w.setCell ⟨b, 2, none⟩ (.slice none 0 0)) b vT vR (.slice none 0 0) vW vS vM [] Wr Ls Mk C col none 0 false := by
  have ch : Chg col (fun c => c = 0) w (w.setCell ⟨b, 2, none⟩ (.slice none 0 0)) := (Chg.of_out (Out.refl 0 0 _) _ _).setCell h.cb _
  refine ⟨Fix.of ch (by decide) (fun _ _ h => h), { h with hB := Nat.le_trans h.hB ch.size, hb := keep_set h.hb 2 (by decide) _, oL := World.ownsRow_nil _ _ _ _, oW := ?_, oS := ?_, oM := ?_, cL := (fun x hx => by cases hx), q := (fun i v _ hv => by simp at hv), wr := (fun hu => by cases hu), f := ?_ }⟩
  · exact ch.own h.oW fun x hx => by rw [h.cW x hx]; decide
  · exact ch.own h.oS fun x hx => by rw [h.cS x hx]; decide
  · exact ch.own h.oM fun x hx => by rw [h.cM x hx]; decide
  · intro k u x h1 h2; exact ch.full (h.f k u x h1 h2) (by decide)
/-- what apart leaves -/
def ApartEnd (B b : Nat) (vT vR : Value) (K : Nat) (col0 : Nat → Nat) (w w' : World) : Prop :=
  ∃ vL vW vS vM Wr Ls Mk C col, Keep B w' b vT vR vL vW vS vM [] Wr Ls Mk C col none 0 false ∧ Ls.length = Mk.length ∧ Mk.length = K ∧ Fix col0 col w w'
theorem Fix.out {c0 c1 : Nat → Nat} {a b c : World} (h : Fix c0 c1 a b) (o : Out 0 0 b c) : Fix c0 c1 a c := h.trans (Fix.of (P := fun c => c = 8) (Chg.of_out o _ _) (by decide) (fun _ _ h => h))
theorem Fix.table {T : TypeId} {c0 c1 : Nat → Nat} {a b : World} (h : Fix c0 c1 a b) {t tw n : Nat} {S : Nat → Int × Int × Int} (ht : TblAt T a t tw n S) (h1 : c0 t = 7) (h2 : c0 tw = 7) : TblAt T b t tw n S := by
  obtain ⟨cap, hb, k1, k2, k3, k4, k5, k6, k7, hr⟩ := ht
  exact ⟨cap, h.heap hb h1, k1, k2, k3, k4, k5, k6, k7, Row.of_block hr (h.1.2.2.2.2 tw (Row.lt hr) (fun q => q h2))⟩
set_option maxRecDepth 100000 in
set_option maxHeartbeats 8000000 in
theorem apart_any {B b bt bwt br bwr n : Nat} {S : Nat → Int × Int × Int} {vL vW : Value} {L Wr : List Value} {C : Nat → List (Int × Int × Int)} {w : World} {vS vM : Value} {Ls : List Value} {Mk : List Nat} {col : Nat → Nat} {u : Bool}
    (h : Keep B w b (.pointer (some ⟨bt, 0, none⟩)) (.pointer (some ⟨br, 0, none⟩)) vL vW vS vM L Wr Ls Mk C col none 0 u) (hu : L.length = 0 ∨ (u = true ∧ Wr.length = L.length)) (hK : L.length ≤ 68) (hlen2 : Ls.length = Mk.length) (hM : Mk.length + 18 * L.length ≤ 1836)
    (ht : TblAt 70 w bt bwt n S) (hr : TblAt 61 w br bwr n S) (h7 : col bt = 7 ∧ col bwt = 7 ∧ col br = 7 ∧ col bwr = 7) :
    Calls Tryd.prog 12 #[.pointer (some ⟨b, 0, none⟩)] w fun e w' => e = .returned (.bool true) ∧ ApartEnd B b (.pointer (some ⟨bt, 0, none⟩)) (.pointer (some ⟨br, 0, none⟩)) (Mk.length + 18 * L.length) col w w' := by
  obtain ⟨aL, capL, rfl, rL⟩ := row_open h.oL
  obtain ⟨aW, capW, rfl, rW⟩ := row_open h.oW
  obtain ⟨_, _, c0, c1, _, _, _⟩ := keep_cells h.hb
  have HK := hid_mk h
  have HU := hid_mk hu
  have HL2 := hid_mk hK
  have HLn2 := hid_mk hlen2
  have HM := hid_mk hM
  have RL := hid_mk rL
  have RW := hid_mk rW
  have HTt := hid_mk ht
  have HTr := hid_mk hr
  have H7 := hid_mk h7
  obtain ⟨nL, hnL⟩ : ∃ nL, L.length = nL := ⟨_, rfl⟩
  have HnL := hid_mk hnL
  obtain ⟨nM, hnM⟩ : ∃ nM, Mk.length = nM := ⟨_, rfl⟩
  have HnM := hid_mk hnM
  obtain ⟨nW, hnW⟩ : ∃ nW, Wr.length = nW := ⟨_, rfl⟩
  have HnW := hid_mk hnW
  rw [hnL] at c0 RL HL2 HM HU ⊢
  rw [hnM] at HM ⊢
  rw [hnW] at c1 RW HU
  have n2 : (nL : Int) ≤ 68 := by have := HL2.out; omega
  clear h hu hK hlen2 hM rL rW hnL hnM hnW ht hr h7
  go_enter Tryd.func12, Tryd.ntmps12
  go_wp2_with fail
  go_loopw [3] (fun y wr => ∃ i : Nat, i ≤ nL ∧ y = .int .i64 i ∧ Out 0 0 w wr) (fun y _ => nL - (intOf y).toNat)
  case atStart => exact ⟨0, Nat.zero_le _, rfl, Out.refl _ _ _⟩
  case round =>
    obtain ⟨i, i1, rfl, ho⟩ := hrel
    have HO := hid_mk ho
    have d0 := ho.cell c0 (.inr (Nat.zero_le _))
    have d1 := ho.cell c1 (.inr (Nat.zero_le _))
    have b0 : (0 : Int) ≤ (i : Int) := by omega
    by_cases hi : i < nL
    · have b1 : (i : Int) < (nL : Int) := by omega
      have hWn : nW = nL ∧ u = true := by
        rcases HU.out with h | h
        · omega
        · exact ⟨h.2, h.1⟩
      obtain ⟨rfl, rfl⟩ := hWn
      obtain ⟨gL, rfl, rl⟩ := RL.out (by omega)
      obtain ⟨gW, rfl, rw'⟩ := RW.out (by omega)
      obtain ⟨v, hv⟩ : ∃ v, L[i]? = some v := ⟨_, List.getElem?_eq_getElem (by have := HnL.out; omega)⟩
      obtain ⟨x, hx⟩ : ∃ x, Wr[i]? = some x := ⟨_, List.getElem?_eq_getElem (by have := HnW.out; omega)⟩
      obtain ⟨q1, q2, q3⟩ := HK.out.q i v (Nat.zero_le _) hv
      have q4 := HK.out.wr rfl i x hx
      have d4 := ho.cell (rl i v hv) (.inr (Nat.zero_le _))
      have d5 := ho.cell (rw' i x hx) (.inr (Nat.zero_le _))
      have HS := hid_mk (same_any ((q1.slice.kept ho).kept (Out.refl 0 0 wr).drew) ((q4.slice.kept ho).kept (Out.refl 0 0 wr).drew) (by omega))
      obtain ⟨av, cv, rfl⟩ := own_shape q1
      obtain ⟨ax, cx, rfl, hr4⟩ := q4
      clear hr4
      generalize (C i).length = nn at *
      clear ho q1 q3 rl rw' hv hx
      go_wp2_with fail
      go_region_held3 (fun w' => w'.cell? ⟨b, 2, none⟩ = some (.slice (some ⟨gL, 0, none⟩) nW capL) ∧ w'.cell? ⟨gL, i, none⟩ = some (.slice av nn cv) ∧ w'.cell? ⟨b, 3, none⟩ = some (.slice (some ⟨gW, 0, none⟩) nW capW) ∧ w'.cell? ⟨gW, i, none⟩ = some (.slice ax nn cx)) (first | go_keep | (refine ⟨?_, ?_, ?_, ?_⟩ <;> exact hOO.cell (by assumption) (.inr (Nat.zero_le _))))
        (first | (go_at_call 21; refine HS.out.mono ?_; rintro e w3 ⟨rfl, hOO⟩))
      have HO3 := hid_mk (HO.out.trans ((Out.refl 0 0 wr).drew.trans hOO))
      clear hOO
      all_goals go_wp2
      all_goals go_roundw
      case rel => exact ⟨i + 1, by omega, by go_num, HO3.out⟩
      case measure => simp [intOf]; omega
    · have : nL = i := by omega
      subst this
      have HK0 : Hid (Keep B wr b (.pointer (some ⟨bt, 0, none⟩)) (.pointer (some ⟨br, 0, none⟩)) (.slice aL L.length capL) (.slice aW Wr.length capW) vS vM L Wr Ls Mk C col none 0 false) := (HK.out.quiet ho).noWere
      have HF0 : Hid (Fix col col w wr) := (Fix.refl _ _).out ho
      clear ho hi d1
      go_wp2_with fail
      clear c0 c1 d0
      go_loopw [4] (fun y wr => ∃ (i : Nat) (vS' vM' : Value) (Ls' : List Value) (Mk' : List Nat) (col' : Nat → Nat), i ≤ nL ∧ y = .int .i64 i ∧ Keep B wr b (.pointer (some ⟨bt, 0, none⟩)) (.pointer (some ⟨br, 0, none⟩)) (.slice aL L.length capL) (.slice aW Wr.length capW) vS' vM' L Wr Ls' Mk' C col' none i false ∧ Ls'.length = Mk'.length ∧ Mk'.length = nM + 18 * i ∧ Fix col col' w wr) (fun y _ => nL - (intOf y).toNat)
      case atStart => exact ⟨0, vS, vM, Ls, Mk, col, Nat.zero_le _, rfl, HK0.out, HLn2.out, by have := HnM.out; omega, HF0.out⟩
      case round =>
        clear HK0 HF0 HO
        obtain ⟨i, vS', vM', Ls', Mk', col', i1, rfl, hk, hl1, hl2, hbl⟩ := hrel
        have HK1 := hid_mk hk
        have HB1 := hid_mk hbl
        have HL1 := hid_mk hl1
        have HL3 := hid_mk hl2
        have b0 : (0 : Int) ≤ (i : Int) := by omega
        obtain ⟨_, _, d0, _, _, _, df⟩ := keep_cells hk.hb
        have df2 := df 2
        rw [HnL.out] at d0
        by_cases hi : i < nL
        · have b1 : (i : Int) < (nL : Int) := by omega
          obtain ⟨gL, rfl, rl⟩ := RL.out (by omega)
          obtain ⟨v, hv⟩ : ∃ v, L[i]? = some v := ⟨_, List.getElem?_eq_getElem (by have := HnL.out; omega)⟩
          have d4 := row_cell hk.oL hv
          obtain ⟨col3, e3, k3, l3, l4, l5⟩ := hk.take hv
          have HH := hid_mk (mark_any k3 l3 l5 hl1 (by have := HM.out; have := HL2.out; omega) l4)
          have HF3 : Hid (Fix col' col3 wr wr) := ⟨Chg.of_out (Out.refl 0 0 _) _ _, fun k _ h => e3 k h⟩
          obtain ⟨av, cv, rfl⟩ := own_shape l3
          rw [hl2] at HH
          generalize (C i).length = nn at *
          clear hk hl1 hl2 hbl rl hv k3 l3 l4 l5 e3 HL1 HL3
          go_wp2_with (go_at_call 29; refine HH.out.mono ?_; rintro e w2 ⟨rfl, he⟩)
          obtain ⟨xS, xM, xLs, xMk, xcol, k1, k2, k3, k4⟩ := he
          have HE := hid_mk k1
          have HE2 := hid_mk k2
          have HE3 := hid_mk k3
          have HE4 := hid_mk (HB1.out.trans (HF3.out.trans k4))
          clear k1 k2 k3 k4
          go_roundw
          case rel => exact ⟨i + 1, xS, xM, xLs, xMk, xcol, by omega, by go_num, HE.out, HE2.out, by have := HE3.out; omega, HE4.out⟩
          case measure => simp [intOf]; omega
        · have : nL = i := by omega
          subst this
          obtain ⟨fx, kf⟩ := hk.forget
          have HKF := hid_mk kf
          have HFX := hid_mk (hbl.trans fx)
          obtain ⟨W4, hW4⟩ : ∃ W4, wr.setCell ⟨b, 2, none⟩ (.slice none 0 0) = W4 := ⟨_, rfl⟩
          rw [hW4] at HKF HFX
          obtain ⟨aS, capS, rfl, rS⟩ := row_open HKF.out.oS
          obtain ⟨aM2, capM2, rfl, rM⟩ := row_open HKF.out.oM
          obtain ⟨z0, z1, _, _, z2, z3, _⟩ := keep_cells HKF.out.hb
          obtain ⟨nS, hnS⟩ : ∃ nS, Mk'.length = nS := ⟨_, rfl⟩
          have hfull := HKF.out.f
          rw [hl1, hnS] at z2 rS
          rw [hnS] at z3 rM
          have HZ0 := hid_mk z0
          have HZ1 := hid_mk z1
          have HZ2 := hid_mk z2
          have HZ3 := hid_mk z3
          have HRS := hid_mk rS
          have HRM := hid_mk rM
          have HFu := hid_mk hfull
          have HnS : Hid (Mk'.length = nS ∧ Ls'.length = nS ∧ nS ≤ 1836 ∧ nS = nM + 18 * nL) := by show _ ∧ _ ∧ _ ∧ _; have := HM.out; have := HL2.out; omega
          have s1 : (nS : Int) ≤ 1836 := by have := HnS.out; omega
          have HTt4 := hid_mk (HFX.out.table HTt.out H7.out.1 H7.out.2.1)
          have HTr4 := hid_mk (HFX.out.table HTr.out H7.out.2.2.1 H7.out.2.2.2)
          clear hi hk hl1 hl2 hbl rS rM hfull hnS z0 z1 z3 HL1 HL3 fx kf df HK1 HB1
          go_wp2_with fail
          clear d0 z2 df2 hW4
          go_loopw [5] (fun y wr => ∃ i : Nat, i ≤ nS ∧ y = .int .i64 i ∧ Out 0 0 W4 wr) (fun y _ => nS - (intOf y).toNat)
          case atStart => exact ⟨0, Nat.zero_le _, rfl, Out.refl _ _ _⟩
          case round =>
            obtain ⟨i, i1, rfl, ho⟩ := hrel
            have HO4 := hid_mk ho
            have d2 := ho.cell HZ2.out (.inr (Nat.zero_le _))
            have b0 : (0 : Int) ≤ (i : Int) := by omega
            by_cases hi : i < nS
            · have b1 : (i : Int) < (nS : Int) := by omega
              obtain ⟨gS, rfl, rs⟩ := HRS.out (by omega)
              obtain ⟨gM, rfl, rm⟩ := HRM.out (by omega)
              obtain ⟨v, hv⟩ : ∃ v, Ls'[i]? = some v := ⟨_, List.getElem?_eq_getElem (by have := HnS.out; omega)⟩
              obtain ⟨x, hx⟩ : ∃ x, Mk'[i]? = some x := ⟨_, List.getElem?_eq_getElem (by have := HnS.out; omega)⟩
              have hx2 : (ints Mk')[i]? = some (.int .i64 (x : Nat)) := by simp [ints, hx]
              obtain ⟨a, nn, cap, rfl, hn, hr⟩ := HFu.out i v x hv hx
              have HS0 : Hid (∀ w', Out 0 0 W4 w' → w'.cell? ⟨gS, i, none⟩ = some (.slice a nn cap)) := fun w' o => o.cell (rs i _ hv) (.inr (Nat.zero_le _))
              have HM0 : Hid (∀ w', Out 0 0 W4 w' → w'.cell? ⟨gM, i, none⟩ = some (.int .i64 (x : Nat))) := fun w' o => o.cell (rm i _ hx2) (.inr (Nat.zero_le _))
              have HR := hid_mk hr
              have d4 := HS0.out wr ho
              have n4 : (nn : Int) ≤ 200 := by omega
              have x4 : (x : Int) ≤ 3000 := by omega
              clear ho hr rs rm hv hx hx2 hn
              go_wp2_with fail
              clear d2 d4
              go_loopw [6] (fun y wr => ∃ j : Nat, j ≤ nn ∧ y = .int .i64 j ∧ Out 0 0 W4 wr) (fun y _ => nn - (intOf y).toNat)
              case atStart => exact ⟨0, Nat.zero_le _, rfl, HO4.out⟩
              case round =>
                clear HO4
                obtain ⟨j, j1, rfl, ho⟩ := hrel
                have HO4 := hid_mk ho
                have d2 := ho.cell HZ2.out (.inr (Nat.zero_le _))
                have d3 := ho.cell HZ3.out (.inr (Nat.zero_le _))
                have d4 := HS0.out wr ho
                have d5 := HM0.out wr ho
                have a0 : (0 : Int) ≤ (j : Int) := by omega
                by_cases hj : j < nn
                · have a1 : (j : Int) < (nn : Int) := by omega
                  obtain ⟨g, rfl, hg⟩ := HR.out (by omega)
                  have d6 : wr.cell? ⟨g, j * 3, none⟩ = some (.int .i64 (-(x : Int))) := by
                    rcases hg with ⟨_, _, hc⟩ | ⟨N, e, _⟩
                    · exact ho.cell (hc j hj).1 (.inr (Nat.zero_le _))
                    · cases e
                  have x5 : (0 : Int) ≤ (x : Int) := by omega
                  have hw : IntKind.i64.wrap (-(x : Int)) = -(x : Int) := by simp [IntKind.wrap, IntKind.signed, IntKind.bits]; omega
                  have ex : ((-(x : Int)) != (-(x : Int))) = false := by simp
                  clear ho hg
                  go_wp2_with fail
                  go_region_held3 (fun w' => w'.cell? ⟨b, 4, none⟩ = some (.slice (some ⟨gS, 0, none⟩) nS capS) ∧ w'.cell? ⟨gS, i, none⟩ = some (.slice (some ⟨g, 0, none⟩) nn cap) ∧ w'.cell? ⟨g, j * 3, none⟩ = some (.int .i64 (-(x : Int))) ∧ w'.cell? ⟨b, 5, none⟩ = some (.slice (some ⟨gM, 0, none⟩) nS capM2) ∧ w'.cell? ⟨gM, i, none⟩ = some (.int .i64 (x : Nat))) (go_keep) (fail)
                  all_goals go_wp2
                  all_goals go_roundw
                  case rel => exact ⟨j + 1, by omega, by go_num, HO4.out.drew⟩
                  case measure => simp [intOf]; omega
                · have : nn = j := by omega
                  subst this
                  clear ho
                  go_wp2
                  go_roundw
                  case rel => exact ⟨i + 1, by omega, by go_num, HO4.out⟩
                  case measure => simp [intOf]; omega
            · have : nS = i := by omega
              subst this
              have d7 := ho.cell HZ0.out (.inr (Nat.zero_le _))
              have d8 := ho.cell HZ1.out (.inr (Nat.zero_le _))
              obtain ⟨capr, d9, _⟩ := (HTr4.out.quiet ho).cell
              have HA : Hid (∀ w', Out 0 0 W4 w' → Calls Tryd.prog 17 #[.pointer (some ⟨bt, 0, none⟩)] w' fun e w'' => ∃ g cap', e = .returned (.slice (some ⟨g, 0, none⟩) n cap') ∧ SliceIs w'' (.slice (some ⟨g, 0, none⟩) n cap') (pgl S n) ∧ Out 0 0 w' w'') := fun w' o => (all_any (HTt4.out.quiet o)).mono fun e w'' ⟨g, cap', a1, a2, a3⟩ => ⟨g, cap', a1, a2.slice, a3⟩
              have HS2 : Hid (∀ w' g cap', Out 0 0 W4 w' → SliceIs w' (.slice (some ⟨g, 0, none⟩) n cap') (pgl S n) → Calls Tryd.prog 21 #[.slice (some ⟨g, 0, none⟩) n cap', .slice (some ⟨bwr, 0, none⟩) n capr] w' fun e w'' => e = .returned (.bool true) ∧ Out 0 0 w' w'') := fun w' g cap' o hs => same_any hs (HTr4.out.quiet o).row.slice (by rw [pgl_len]; exact HTr4.out.nums.2.1)
              clear ho hi
              go_wp2_with fail
              go_region_held3 (fun w' => w'.cell? ⟨b, 0, none⟩ = some (.pointer (some ⟨bt, 0, none⟩)) ∧ w'.cell? ⟨b, 1, none⟩ = some (.pointer (some ⟨br, 0, none⟩)) ∧ w'.cell? ⟨br, 0, none⟩ = some (.slice (some ⟨bwr, 0, none⟩) n capr)) (first | go_keep | (refine ⟨?_, ?_, ?_⟩ <;> first | exact (hOO.trans hOO2).cell (by assumption) (.inr (Nat.zero_le _)) | exact hOO.cell (by assumption) (.inr (Nat.zero_le _))))
                (first | (go_at_call 17; refine (HA.out _ (by exact HO4.out.drew)).mono ?_; rintro e w5 ⟨g5, cap5, rfl, hs5, hOO⟩) | (go_at_call 21; refine (HS2.out _ _ _ (by exact HO4.out.drew.trans hOO) (by exact hs5)).mono ?_; rintro e w6 ⟨rfl, hOO2⟩))
              all_goals (try go_wp2)
              all_goals go_ret
              all_goals have hEnd := HO4.out.drew.trans (hOO.trans hOO2)
              all_goals exact ⟨rfl, _, _, _, _, _, _, _, _, _, HKF.out.quiet hEnd, by have := HnS.out; omega, by have := HnS.out; omega, HFX.out.out hEnd⟩
end Go.Proofs.YtfkmaanfgkkjcaaDoor
