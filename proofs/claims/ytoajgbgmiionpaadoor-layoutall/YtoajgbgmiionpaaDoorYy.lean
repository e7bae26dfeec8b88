/- apart: its steps -/
import Derived.Test.YtoajgbgmiionpaaDoorYx
namespace Go.Proofs.YtoajgbgmiionpaaDoor
open Go.RowKit
set_option linter.unusedVariables false
set_option linter.unusedSimpArgs false

theorem row_open {w : World} {B n : Nat} {T : TypeId} {v : Value} {xs : List Value} (h : w.ownsRow B T 1 v n xs) : ∃ a cap, v = .slice a n cap ∧ (0 < n → ∃ g, a = some ⟨g, 0, none⟩ ∧ ∀ (j : Nat) u, xs[j]? = some u → w.cell? ⟨g, j, none⟩ = some u) := by
  have h' := h
  rcases h.2 with ⟨e, h0⟩ | ⟨g, cap, cur, e, _⟩
  · exact ⟨none, 0, by rw [e, h0], fun h => by omega⟩
  · refine ⟨_, _, e, fun _ => ⟨g, rfl, fun j u hu => ?_⟩⟩
    subst e
    have := own_cells h' j u hu
    rw [Addr.add_lit, Nat.zero_add] at this
    exact this
theorem Keep.write {B : Nat} {w : World} {b : Nat} {vL vW vS vM : Value} {L Wr Ls : List Value} {Mk : List Nat} {C : Nat → List Nat} {col : Nat → Nat} {p : Nat}
    (h : Keep B w b vL vW vS vM L Wr Ls Mk C col none p false) {i j m g : Nat} {v : Value} (hp : p ≤ i) (hv : L[i]? = some v) (hg : v.ownBlock = some g) (hj : j < (C i).length) :
    Below B w (w.setCell ⟨g, j, none⟩ (.int .i64 (m : Nat))) ∧ Keep B (w.setCell ⟨g, j, none⟩ (.int .i64 (m : Nat))) b vL vW vS vM L Wr Ls Mk (fun k => if k = i then (C i).set j m else C k) col none p false := by
  obtain ⟨q1, q2, q3⟩ := h.q i v hp hv
  have hgc := q3 g hg
  have ch : Chg col (fun c => c = 10 + i) w (w.setCell ⟨g, j, none⟩ (.int .i64 (m : Nat))) := (Chg.of_out (Out.refl 0 0 _) _ _).setCell hgc _
  refine ⟨h.below ch (by omega), { h with hB := Nat.le_trans h.hB ch.size, hb := ?_, oL := ?_, oW := ?_, oS := ?_, oM := ?_, q := ?_, wr := ?_, f := ?_ }⟩
  · exact ch.heap h.hb (by rw [h.cb]; omega)
  · exact ch.own h.oL fun x hx => by rw [h.cL x hx]; omega
  · exact ch.own h.oW fun x hx => by rw [h.cW x hx]; omega
  · exact ch.own h.oS fun x hx => by rw [h.cS x hx]; omega
  · exact ch.own h.oM fun x hx => by rw [h.cM x hx]; omega
  · intro k u hk hu
    by_cases e : k = i
    · subst e
      rw [hv] at hu
      cases hu
      rw [if_pos rfl]
      exact ⟨list_set q1 hg hj m, by rw [List.length_set]; exact q2, q3⟩
    · rw [if_neg e]
      obtain ⟨r1, r2, r3⟩ := h.q k u hk hu
      exact ⟨ch.list r1 fun x hx => by rw [r3 x hx]; omega, r2, r3⟩
  · intro hu; cases hu
  · intro k u x h1 h2; exact ch.full (h.f k u x h1 h2) (by omega)
theorem Keep.take {B : Nat} {w : World} {b : Nat} {vL vW vS vM : Value} {L Wr Ls : List Value} {Mk : List Nat} {C : Nat → List Nat} {col : Nat → Nat} {p : Nat}
    (h : Keep B w b vL vW vS vM L Wr Ls Mk C col none p false) {v : Value} {n m : Nat} (hv : L[p]? = some v) (hC : C p = List.replicate n m) :
    ∃ col', HoldSt B b vL vW L Wr C (p + 1) false m w v n vS vM Ls Mk col' := by
  obtain ⟨q1, q2, q3⟩ := h.q p v (Nat.le_refl _) hv
  rw [hC] at q1
  have drop : Keep B w b vL vW vS vM L Wr Ls Mk C col none (p + 1) false := { h with q := fun i u hi hu => h.q i u (by omega) hu }
  cases hb : v.ownBlock with
  | none => exact ⟨col, drop.opened _, q1, fun x hx => by rw [hb] at hx; cases hx⟩
  | some g =>
    have hg := q3 g hb
    have e : ∀ x c, col x = c → c ≠ 10 + p → upd col g 8 x = c := fun x c hx hc => by
      rw [upd_other (by intro e; subst e; omega)]; exact hx
    have k2 : Keep B w b vL vW vS vM L Wr Ls Mk C (upd col g 8) none (p + 1) false := by
      refine { drop with lo := ?_, cb := ?_, cL := ?_, cW := ?_, cS := ?_, cM := ?_, q := ?_, wr := ?_, f := ?_ }
      · intro k hk; exact e _ _ (h.lo k hk) (by omega)
      · exact e _ _ h.cb (by omega)
      · intro x hx; exact e _ _ (h.cL x hx) (by omega)
      · intro x hx; exact e _ _ (h.cW x hx) (by omega)
      · intro x hx; exact e _ _ (h.cS x hx) (by omega)
      · intro x hx; exact e _ _ (h.cM x hx) (by omega)
      · intro i u hi hu
        obtain ⟨r1, r2, r3⟩ := h.q i u (by omega) hu
        exact ⟨r1, r2, fun x hx => e _ _ (r3 x hx) (by omega)⟩
      · intro hu; cases hu
      · intro i u x h1 h2
        obtain ⟨a, n, cap, e1, hn, r⟩ := h.f i u x h1 h2
        refine ⟨a, n, cap, e1, hn, fun h0 => ?_⟩
        obtain ⟨y, y0, y1⟩ := r h0
        refine ⟨y, y0, ?_⟩
        rcases y1 with ⟨y1, y2, y3⟩ | y1
        · exact .inl ⟨y1, e _ _ y2 (by omega), y3⟩
        · exact .inr y1
    exact ⟨upd col g 8, k2.opened _, q1, fun x hx => by rw [hb] at hx; cases hx; exact upd_self _ _ _⟩
theorem Keep.noWere {B : Nat} {w : World} {b : Nat} {vL vW vS vM : Value} {L Wr Ls : List Value} {Mk : List Nat} {C : Nat → List Nat} {col : Nat → Nat} {cur : Option (Nat × Nat × Nat)} {p : Nat} {u : Bool}
    (h : Keep B w b vL vW vS vM L Wr Ls Mk C col cur p u) : Keep B w b vL vW vS vM L Wr Ls Mk C col cur p false := { h with wr := fun hu => by cases hu }
theorem Keep.congrC {B : Nat} {w : World} {b : Nat} {vL vW vS vM : Value} {L Wr Ls : List Value} {Mk : List Nat} {C C' : Nat → List Nat} {col : Nat → Nat} {cur : Option (Nat × Nat × Nat)} {p : Nat}
    (h : Keep B w b vL vW vS vM L Wr Ls Mk C col cur p false) (e : ∀ i, i < L.length → C' i = C i) : Keep B w b vL vW vS vM L Wr Ls Mk C' col cur p false := by
  refine { h with q := ?_, wr := fun hu => by cases hu }
  intro i v hp hv
  rw [e i (List.getElem?_eq_some_iff.1 hv).1]
  exact h.q i v hp hv
theorem row_cell {w : World} {B n g cap : Nat} {T : TypeId} {xs : List Value} (h : w.ownsRow B T 1 (.slice (some ⟨g, 0, none⟩) n cap) n xs) {j : Nat} {u : Value} (hu : xs[j]? = some u) : w.cell? ⟨g, j, none⟩ = some u := by
  have := own_cells h j u hu
  rw [Addr.add_lit, Nat.zero_add] at this
  exact this
/-- the first i lists are full of their marks -/
def C2 (C : Nat → List Nat) (f i k : Nat) : List Nat := if k < i then List.replicate (C k).length (2000000 + f + k) else C k
theorem C2_zero (C : Nat → List Nat) (f : Nat) : C2 C f 0 = C := by funext k; unfold C2; rw [if_neg (by omega)]
theorem C2_here (C : Nat → List Nat) (f i : Nat) : C2 C f i i = C i := by unfold C2; rw [if_neg (by omega)]
/-- list i is full up to j -/
def C3 (C : Nat → List Nat) (f i j k : Nat) : List Nat := if k = i then List.replicate j (2000000 + f + i) ++ (C i).drop j else C2 C f i k
theorem C3_zero (C : Nat → List Nat) (f i : Nat) : ∀ k, C3 C f i 0 k = C2 C f i k := by
  intro k
  unfold C3
  by_cases e : k = i
  · subst e; rw [if_pos rfl, C2_here]; rfl
  · rw [if_neg e]
theorem C3_end (C : Nat → List Nat) (f i : Nat) : ∀ k, C2 C f (i + 1) k = C3 C f i (C i).length k := by
  intro k
  unfold C3
  by_cases e : k = i
  · subst e
    rw [if_pos rfl, List.drop_length, List.append_nil]
    unfold C2
    rw [if_pos (by omega)]
  · rw [if_neg e]
    unfold C2
    by_cases h : k < i
    · rw [if_pos h, if_pos (by omega)]
    · rw [if_neg h, if_neg (by omega)]
theorem C3_step (C : Nat → List Nat) (f i j : Nat) (hj : j < (C i).length) : ∀ k, C3 C f i (j + 1) k = if k = i then (C3 C f i j i).set j (2000000 + f + i) else C3 C f i j k := by
  intro k
  unfold C3
  by_cases e : k = i
  · subst e
    rw [if_pos rfl, if_pos rfl, if_pos rfl, fill_set hj]
  · rw [if_neg e, if_neg e, if_neg e]
theorem C3_self (C : Nat → List Nat) (f i j : Nat) : C3 C f i j i = List.replicate j (2000000 + f + i) ++ (C i).drop j := by unfold C3; rw [if_pos rfl]
set_option maxRecDepth 100000 in
set_option maxHeartbeats 4000000 in
theorem apart_any {B b : Nat} {vL vW : Value} {L Wr : List Value} {C : Nat → List Nat} {w : World} {vS vM : Value} {Ls : List Value} {Mk : List Nat} {col : Nat → Nat}
    (h : Keep B w b vL vW vS vM L Wr Ls Mk C col none 0 true) (hlen : Wr.length = L.length) (hK : L.length ≤ 200) (hlen2 : Ls.length = Mk.length) (hM : Mk.length ≤ 1800) :
    Calls Tryd.prog 17 #[.pointer (some ⟨b, 0, none⟩)] w fun e w' => e = .returned (.bool true) ∧ Below B w w' := by
  obtain ⟨aL, capL, rfl, rL⟩ := row_open h.oL
  obtain ⟨aW, capW, rfl, rW⟩ := row_open h.oW
  obtain ⟨aM, capM, rfl⟩ := own_shape h.oM
  obtain ⟨c0, c1, _, c3, _⟩ := keep_cells h.hb
  have HK := hid_mk h
  have HLn := hid_mk hlen
  have HL2 := hid_mk hK
  have HLn2 := hid_mk hlen2
  have HM := hid_mk hM
  have RL := hid_mk rL
  have RW := hid_mk rW
  rw [hlen] at c1 RW
  obtain ⟨nL, hnL⟩ : ∃ nL, L.length = nL := ⟨_, rfl⟩
  have HnL := hid_mk hnL
  obtain ⟨nM, hnM⟩ : ∃ nM, Mk.length = nM := ⟨_, rfl⟩
  have HnM := hid_mk hnM
  rw [hnL] at c0 c1 RL RW HL2
  rw [hnM] at c3 HM
  have n2 : (nL : Int) ≤ 200 := by have := HL2.out; omega
  have n3 : (nM : Int) ≤ 1800 := by have := HM.out; omega
  clear h hlen hK hlen2 hM rL rW hnL hnM
  go_enter Tryd.func17, Tryd.ntmps17
  go_wp2_with fail
  go_loopw [3] (fun y wr => ∃ i : Nat, i ≤ nL ∧ y = .int .i64 i ∧ Out 0 0 w wr) (fun y _ => nL - (intOf y).toNat)
  case atStart => exact ⟨0, Nat.zero_le _, rfl, Out.refl _ _ _⟩
  case round =>
    obtain ⟨i, i1, rfl, ho⟩ := hrel
    have HO := hid_mk ho
    have d0 := ho.cell c0 (.inr (Nat.zero_le _))
    have d1 := ho.cell c1 (.inr (Nat.zero_le _))
    have d3 := ho.cell c3 (.inr (Nat.zero_le _))
    have b0 : (0 : Int) ≤ (i : Int) := by omega
    by_cases hi : i < nL
    · have b1 : (i : Int) < (nL : Int) := by omega
      obtain ⟨gL, rfl, rl⟩ := RL.out (by omega)
      obtain ⟨gW, rfl, rw'⟩ := RW.out (by omega)
      obtain ⟨v, hv⟩ : ∃ v, L[i]? = some v := ⟨_, List.getElem?_eq_getElem (by have := HnL.out; omega)⟩
      obtain ⟨x, hx⟩ : ∃ x, Wr[i]? = some x := ⟨_, List.getElem?_eq_getElem (by have := HnL.out; have := HLn.out; omega)⟩
      obtain ⟨q1, q2, q3⟩ := HK.out.q i v (Nat.zero_le _) hv
      have q4 := HK.out.wr rfl i x hx
      have d4 := ho.cell (rl i v hv) (.inr (Nat.zero_le _))
      have d5 := ho.cell (rw' i x hx) (.inr (Nat.zero_le _))
      have HS := hid_mk (same_any ((q1.slice.kept ho).kept (Out.refl 0 0 wr).drew) ((q4.slice.kept ho).kept (Out.refl 0 0 wr).drew) (by omega))
      obtain ⟨av, cv, rfl⟩ := own_shape q1
      obtain ⟨ax, cx, rfl, hr4⟩ := q4
      clear hr4
      generalize (C i).length = n at *
      clear ho q1 q3 rl rw' hv hx
      go_wp2_with fail
      go_region_held3 (fun w' => w'.cell? ⟨b, 0, none⟩ = some (.slice (some ⟨gL, 0, none⟩) nL capL) ∧ w'.cell? ⟨gL, i, none⟩ = some (.slice av n cv) ∧ w'.cell? ⟨b, 1, none⟩ = some (.slice (some ⟨gW, 0, none⟩) nL capW) ∧ w'.cell? ⟨gW, i, none⟩ = some (.slice ax n cx)) (first | go_keep | (refine ⟨?_, ?_, ?_, ?_⟩ <;> exact hOO.cell (by assumption) (.inr (Nat.zero_le _))))
        (first | (go_at_call 12; refine HS.out.mono ?_; rintro e w3 ⟨rfl, hOO⟩))
      have HO3 := hid_mk (HO.out.trans ((Out.refl 0 0 wr).drew.trans hOO))
      clear hOO
      all_goals go_wp2
      all_goals go_roundw
      case rel => exact ⟨i + 1, by omega, by go_num, HO3.out⟩
      case measure => simp [intOf]; omega
    · have : nL = i := by omega
      subst this
      have K0 := HK.out.quiet ho
      have HB0 := hid_mk (ho.all.mono HK.out.hB)
      have HK0 : Hid (Keep B wr b (.slice aL L.length capL) (.slice aW Wr.length capW) vS (.slice aM Mk.length capM) L Wr Ls Mk (C2 C nM 0) col none 0 false) := by
        rw [C2_zero]; exact K0.noWere
      have HCl : Hid (∀ i v, L[i]? = some v → (C i).length ≤ 1024) := fun i v hv => (HK.out.q i v (Nat.zero_le _) hv).2.1
      clear ho hi K0 d1
      go_wp2_with fail
      clear c0 c1 c3 d0 d3
      go_loopw [5] (fun y wr => ∃ i : Nat, i ≤ nL ∧ y = .int .i64 i ∧ Keep B wr b (.slice aL L.length capL) (.slice aW Wr.length capW) vS (.slice aM Mk.length capM) L Wr Ls Mk (C2 C nM i) col none 0 false ∧ Below B w wr) (fun y _ => nL - (intOf y).toNat)
      case atStart => exact ⟨0, Nat.zero_le _, rfl, HK0.out, HB0.out⟩
      case round =>
        clear HK0 HB0
        obtain ⟨i, i1, rfl, hk, hbl⟩ := hrel
        have HK1 := hid_mk hk
        have HB1 := hid_mk hbl
        have b0 : (0 : Int) ≤ (i : Int) := by omega
        obtain ⟨d0, _, _, _, _⟩ := keep_cells hk.hb
        rw [HnL.out] at d0
        by_cases hi : i < nL
        · have b1 : (i : Int) < (nL : Int) := by omega
          obtain ⟨gL, rfl, rl⟩ := RL.out (by omega)
          obtain ⟨v, hv⟩ : ∃ v, L[i]? = some v := ⟨_, List.getElem?_eq_getElem (by have := HnL.out; omega)⟩
          have d4 := row_cell hk.oL hv
          obtain ⟨q1, q2, q3⟩ := hk.q i v (Nat.zero_le _) hv
          rw [C2_here] at q1 q2
          obtain ⟨av, cv, rfl⟩ := own_shape q1
          obtain ⟨n, hn⟩ : ∃ n, (C i).length = n := ⟨_, rfl⟩
          rw [hn] at d4 hv q2
          have Hn := hid_mk hn
          have HV := hid_mk hv
          have HK2 : Hid (Keep B wr b (.slice (some ⟨gL, 0, none⟩) L.length capL) (.slice aW Wr.length capW) vS (.slice aM Mk.length capM) L Wr Ls Mk (C3 C nM i 0) col none 0 false) := hk.congrC fun k _ => C3_zero _ _ _ k
          clear hk hbl q1 q3 rl hv hn
          go_wp2_with fail
          clear d0 d4
          go_loopw [6] (fun y wr => ∃ j : Nat, j ≤ n ∧ y = .int .i64 j ∧ Keep B wr b (.slice (some ⟨gL, 0, none⟩) L.length capL) (.slice aW Wr.length capW) vS (.slice aM Mk.length capM) L Wr Ls Mk (C3 C nM i j) col none 0 false ∧ Below B w wr) (fun y _ => n - (intOf y).toNat)
          case atStart => exact ⟨0, Nat.zero_le _, rfl, HK2.out, HB1.out⟩
          case round =>
            clear HK2 HB1 HK1
            obtain ⟨j, j1, rfl, hk, hbl⟩ := hrel
            have HK1 := hid_mk hk
            have HB1 := hid_mk hbl
            have a0 : (0 : Int) ≤ (j : Int) := by omega
            obtain ⟨d0, _, _, _, _⟩ := keep_cells hk.hb
            rw [HnL.out] at d0
            have d4 := row_cell hk.oL HV.out
            by_cases hj : j < n
            · have a1 : (j : Int) < (n : Int) := by omega
              have hjc : j < (C i).length := by rw [Hn.out]; exact hj
              obtain ⟨q1, q2', q3⟩ := hk.q i _ (Nat.zero_le _) HV.out
              have hlen' : (C3 C nM i j i).length = n := by rw [C3_self, fill_len (Nat.le_of_lt hjc)]; exact Hn.out
              obtain ⟨a', cap', e', hrow⟩ := list_shape q1
              rw [hlen'] at e'
              cases e'
              obtain ⟨g, rfl, go, gl, gc⟩ := hrow (by rw [hlen']; omega)
              have f1 := gc j (by rw [hlen']; exact hj)
              have f2 := list_frozen q1 go j
              obtain ⟨m, hm⟩ : ∃ m : Nat, (2000000 : Int) + (nM : Int) + (i : Int) = (m : Int) := ⟨2000000 + nM + i, by omega⟩
              have hm2 : 2000000 + nM + i = m := by omega
              obtain ⟨bw, kw⟩ := hk.write (m := 2000000 + nM + i) (Nat.zero_le _) HV.out go (j := j) (by rw [hlen']; exact hj)
              have kw2 := kw.congrC (C' := C3 C nM i (j + 1)) fun k _ => C3_step C nM i j hjc k
              rw [hm2] at kw2 bw
              have HK2 := hid_mk kw2
              have HB2 := hid_mk (hbl.trans bw)
              obtain ⟨y, hy⟩ : ∃ y : Nat, (C3 C nM i j i)[j]'(by rw [hlen']; exact hj) = y := ⟨_, rfl⟩
              rw [hy] at f1
              have m1 : (m : Int) ≤ 3000000 := by omega
              clear hk hbl q1 q2' q3 hrow gc kw kw2 bw hy hlen' go gl hm2
              go_wp2
              go_roundw
              case rel => exact ⟨j + 1, by omega, by go_num, HK2.out, HB2.out⟩
              case measure => simp [intOf]; omega
            · have : n = j := by omega
              subst this
              have HK2 : Hid (Keep B wr b (.slice (some ⟨gL, 0, none⟩) L.length capL) (.slice aW Wr.length capW) vS (.slice aM Mk.length capM) L Wr Ls Mk (C2 C nM (i + 1)) col none 0 false) := hk.congrC fun k _ => by rw [C3_end, Hn.out]
              clear hk hbl
              go_wp2
              go_roundw
              case rel => exact ⟨i + 1, by omega, by go_num, HK2.out, HB1.out⟩
              case measure => simp [intOf]; omega
        · have : nL = i := by omega
          subst this
          have HK3 := hid_mk hk
          clear hi hk hbl
          go_wp2_with fail
          clear d0
          go_loopw [7] (fun y wr => ∃ (i : Nat) (vS' vM' : Value) (Ls' : List Value) (Mk' : List Nat) (col' : Nat → Nat), i ≤ nL ∧ y = .int .i64 i ∧ Keep B wr b (.slice aL L.length capL) (.slice aW Wr.length capW) vS' vM' L Wr Ls' Mk' (C2 C nM nL) col' none i false ∧ Ls'.length = Mk'.length ∧ Mk'.length = nM + 18 * i ∧ Below B w wr) (fun y _ => nL - (intOf y).toNat)
          case atStart => exact ⟨0, vS, .slice aM Mk.length capM, Ls, Mk, col, Nat.zero_le _, rfl, HK3.out, HLn2.out, by have := HnM.out; omega, HB1.out⟩
          case round =>
            clear HK3 HB1 HK1
            obtain ⟨i, vS', vM', Ls', Mk', col', i1, rfl, hk, hl1, hl2, hbl⟩ := hrel
            have HK1 := hid_mk hk
            have HB1 := hid_mk hbl
            have HL1 := hid_mk hl1
            have HL3 := hid_mk hl2
            have b0 : (0 : Int) ≤ (i : Int) := by omega
            obtain ⟨d0, _, _, _, _⟩ := keep_cells hk.hb
            rw [HnL.out] at d0
            by_cases hi : i < nL
            · have b1 : (i : Int) < (nL : Int) := by omega
              obtain ⟨gL, rfl, rl⟩ := RL.out (by omega)
              obtain ⟨v, hv⟩ : ∃ v, L[i]? = some v := ⟨_, List.getElem?_eq_getElem (by have := HnL.out; omega)⟩
              have d4 := row_cell hk.oL hv
              obtain ⟨m, hm⟩ : ∃ m : Nat, (2000000 : Int) + (nM : Int) + (i : Int) = (m : Int) := ⟨2000000 + nM + i, by omega⟩
              have hm2 : 2000000 + nM + i = m := by omega
              have hCi : C2 C nM nL i = List.replicate (C i).length m := by unfold C2; rw [if_pos hi, hm2]
              obtain ⟨col3, h3⟩ := hk.take hv hCi
              have HH := hid_mk (hold_any h3 hl1 (by have := HM.out; have := HL2.out; omega) (HCl.out i v hv) (by have := HM.out; have := HL2.out; omega))
              rw [hl2] at HH
              have H3k := hid_mk h3.1
              obtain ⟨av, cv, rfl⟩ := own_shape h3.2.1
              rw [List.length_replicate] at d4 HH
              have m1 : (m : Int) ≤ 3000000 := by omega
              clear hk hl1 hl2 hbl rl hv hm2 hCi h3 HL1 HL3
              go_wp2_with (go_at_call 29; refine HH.out.mono ?_; rintro e w2 ⟨rfl, he⟩)
              obtain ⟨xS, xM, xLs, xMk, xcol, k1, k2, k3, k4⟩ := he
              have HE := hid_mk k1
              have HE2 := hid_mk k2
              have HE3 := hid_mk k3
              have HE4 := hid_mk (HB1.out.trans (H3k.out.fixed k4))
              clear k1 k2 k3 k4
              go_roundw
              case rel => exact ⟨i + 1, xS, xM, xLs, xMk, xcol, by omega, by go_num, HE.out, HE2.out, by have := HE3.out; omega, HE4.out⟩
              case measure => simp [intOf]; omega
            · have : nL = i := by omega
              subst this
              obtain ⟨aS, capS, rfl, rS⟩ := row_open hk.oS
              obtain ⟨aM2, capM2, rfl, rM⟩ := row_open hk.oM
              obtain ⟨_, _, z2, z3, _⟩ := keep_cells hk.hb
              obtain ⟨nS, hnS⟩ : ∃ nS, Mk'.length = nS := ⟨_, rfl⟩
              have hfull := hk.f
              rw [hl1, hnS] at z2 rS
              rw [hnS] at z3 rM
              have HZ2 := hid_mk z2
              have HZ3 := hid_mk z3
              have HRS := hid_mk rS
              have HRM := hid_mk rM
              have HFu := hid_mk hfull
              have HnS : Hid (Mk'.length = nS ∧ Ls'.length = nS ∧ nS ≤ 5400) := by show _ ∧ _ ∧ _; have := HM.out; have := HL2.out; omega
              have s1 : (nS : Int) ≤ 5400 := by have := HnS.out; omega
              clear hi hk hl1 hl2 hbl rS rM hfull hnS z3 HL1 HL3
              go_wp2_with fail
              clear d0 z2
              obtain ⟨W4, hW4⟩ : ∃ W4, W4 = wr := ⟨_, rfl⟩
              subst hW4
              go_loopw [8] (fun y wr => ∃ i : Nat, i ≤ nS ∧ y = .int .i64 i ∧ Out 0 0 W4 wr) (fun y _ => nS - (intOf y).toNat)
              case atStart => exact ⟨0, Nat.zero_le _, rfl, Out.refl _ _ _⟩
              case round =>
                obtain ⟨i, i1, rfl, ho⟩ := hrel
                have HO4 := hid_mk ho
                have d2 := ho.cell HZ2.out (.inr (Nat.zero_le _))
                have b0 : (0 : Int) ≤ (i : Int) := by omega
                by_cases hi : i < nS
                · have b1 : (i : Int) < (nS : Int) := by omega
                  obtain ⟨gS, rfl, rs⟩ := HRS.out (by omega)
                  obtain ⟨gM, rfl, rm⟩ := HRM.out (by omega)
                  obtain ⟨v, hv⟩ : ∃ v, Ls'[i]? = some v := ⟨_, List.getElem?_eq_getElem (by have := HnS.out; omega)⟩
                  obtain ⟨x, hx⟩ : ∃ x, Mk'[i]? = some x := ⟨_, List.getElem?_eq_getElem (by have := HnS.out; omega)⟩
                  have hx2 : (ints Mk')[i]? = some (.int .i64 (x : Nat)) := by simp [ints, hx]
                  obtain ⟨a, n, cap, rfl, hn, hr⟩ := HFu.out i v x hv hx
                  have HS0 : Hid (∀ w', Out 0 0 W4 w' → w'.cell? ⟨gS, i, none⟩ = some (.slice a n cap)) := fun w' o => o.cell (rs i _ hv) (.inr (Nat.zero_le _))
                  have HM0 : Hid (∀ w', Out 0 0 W4 w' → w'.cell? ⟨gM, i, none⟩ = some (.int .i64 (x : Nat))) := fun w' o => o.cell (rm i _ hx2) (.inr (Nat.zero_le _))
                  have HR := hid_mk hr
                  have d4 := HS0.out wr ho
                  have n4 : (n : Int) ≤ 2000 := by omega
                  clear ho hr rs rm hv hx hx2 hn
                  go_wp2_with fail
                  clear d2 d4
                  go_loopw [9] (fun y wr => ∃ j : Nat, j ≤ n ∧ y = .int .i64 j ∧ Out 0 0 W4 wr) (fun y _ => n - (intOf y).toNat)
                  case atStart => exact ⟨0, Nat.zero_le _, rfl, HO4.out⟩
                  case round =>
                    clear HO4
                    obtain ⟨j, j1, rfl, ho⟩ := hrel
                    have HO4 := hid_mk ho
                    have d2 := ho.cell HZ2.out (.inr (Nat.zero_le _))
                    have d3 := ho.cell HZ3.out (.inr (Nat.zero_le _))
                    have d4 := HS0.out wr ho
                    have d5 := HM0.out wr ho
                    have a0 : (0 : Int) ≤ (j : Int) := by omega
                    by_cases hj : j < n
                    · have a1 : (j : Int) < (n : Int) := by omega
                      obtain ⟨g, rfl, hg⟩ := HR.out (by omega)
                      have d6 : wr.cell? ⟨g, j, none⟩ = some (.int .i64 (x : Nat)) := by
                        rcases hg with ⟨_, _, hc⟩ | ⟨N, e, _⟩
                        · exact ho.cell (hc j hj) (.inr (Nat.zero_le _))
                        · cases e
                      have ex : ((x : Int) != (x : Int)) = false := by simp
                      clear ho hg
                      go_wp2_with fail
                      go_region_held3 (fun w' => w'.cell? ⟨b, 2, none⟩ = some (.slice (some ⟨gS, 0, none⟩) nS capS) ∧ w'.cell? ⟨gS, i, none⟩ = some (.slice (some ⟨g, 0, none⟩) n cap) ∧ w'.cell? ⟨g, j, none⟩ = some (.int .i64 (x : Nat)) ∧ w'.cell? ⟨b, 3, none⟩ = some (.slice (some ⟨gM, 0, none⟩) nS capM2) ∧ w'.cell? ⟨gM, i, none⟩ = some (.int .i64 (x : Nat))) (go_keep) (fail)
                      all_goals go_wp2
                      all_goals go_roundw
                      case rel => exact ⟨j + 1, by omega, by go_num, HO4.out.drew⟩
                      case measure => simp [intOf]; omega
                    · have : n = j := by omega
                      subst this
                      clear ho
                      go_wp2
                      go_roundw
                      case rel => exact ⟨i + 1, by omega, by go_num, HO4.out⟩
                      case measure => simp [intOf]; omega
                · have : nS = i := by omega
                  subst this
                  clear ho
                  go_wp2
                  go_ret
                  exact ⟨rfl, HB1.out.trans (HO4.out.all.mono HK1.out.hB)⟩
end Go.Proofs.YtoajgbgmiionpaaDoor
