/- the document's own table: what changes -/
import Derived.Test.YtfkmaanfgkkjcaaDoorGh
namespace Go.Proofs.YtfkmaanfgkkjcaaDoor
open Go.RowKit
set_option linter.unusedVariables false
set_option linter.unusedSimpArgs false

theorem rowF_least {S : Nat → Int × Int × Int} {n p : Nat} (hp : p < n) (hf : freeB (S p) = true) (hl : ∀ j, j < p → freeB (S j) = false) : rowF S n 1 = some p :=
  rowF_of (by omega) (by omega) (allF_iff.2 fun j j1 j2 => by rw [show j = p from by omega]; exact hf) (fun q hq => not_all (j := q) (Nat.le_refl _) (by omega) (hl q hq))
theorem rowF_nowhere {S : Nat → Int × Int × Int} {n : Nat} (hl : ∀ j, j < n → freeB (S j) = false) : rowF S n 1 = none :=
  rowF_no (fun q hq => not_all (j := q) (Nat.le_refl _) (by omega) (hl q (by omega)))
set_option maxRecDepth 100000 in
set_option maxHeartbeats 4000000 in
theorem refTakeClass_any {w : World} {b bw n : Nat} {S : Nat → Int × Int × Int} (h : TblAt 61 w b bw n S) (c : Int) :
    Calls Tryd.prog 38 #[.pointer (some ⟨b, 0, none⟩), .int .i64 c] w fun e w' => e = .returned (.tuple #[.int .i64 (tcP S n c : Nat), .int .i64 (tcE S n c)]) ∧ TblAt 61 w' b bw n (tcS S n c) ∧ Out bw (bw + 1) w w' := by
  obtain ⟨cap, c0, _⟩ := h.cell
  have HH := hid_mk h
  have HN := hid_mk h.nums
  unfold tcP tcE tcS
  by_cases hc : classB c = true
  · rw [if_pos hc, if_pos hc, if_pos hc]
    obtain ⟨a, ha⟩ : ∃ a, rowF S n 1 = a := ⟨_, rfl⟩
    have HA := hid_mk ha
    rw [ha]
    unfold classB at hc
    simp at hc
    obtain ⟨k0, k7⟩ := hc
    clear h ha
    go_enter Tryd.func38, Tryd.ntmps38
    go_wp2_with fail
    go_loopw [6] (fun y wr => ∃ i : Nat, i ≤ n ∧ y = .int .i64 i ∧ (∀ j, j < i → freeB (S j) = false) ∧ wr = w) (fun y _ => n - (intOf y).toNat)
    case atStart => exact ⟨0, Nat.zero_le _, rfl, fun j hj => by omega, rfl⟩
    case round =>
      obtain ⟨i, i1, rfl, hv, rfl⟩ := hrel
      have HV := hid_mk hv
      clear hv
      have b0 : (0 : Int) ≤ (i : Int) := by omega
      have b5 : (i : Int) ≤ 4096 := by have := HN.out; omega
      by_cases hi : i < n
      · have b1 : (i : Int) < (n : Int) := by omega
        obtain ⟨x, y, z, hp⟩ := page_of (S i)
        obtain ⟨q0, q1, q2⟩ := HH.out.row.page hi hp
        have fz0 := Row.frozen HH.out.row (i * 3)
        have fz1 := Row.frozen HH.out.row (i * 3 + 1)
        have fz2 := Row.frozen HH.out.row (i * 3 + 2)
        cases hf : freeB (S i)
        · have hx : (x == 0) = false := by rw [hp] at hf; exact hf
          have HV2 : Hid (∀ j, j < i + 1 → freeB (S j) = false) := fun j hj => by
            by_cases e : j = i
            · rw [e]; exact hf
            · exact HV.out j (by omega)
          clear hp hf
          go_wp2
          go_roundw
          case rel => exact ⟨i + 1, by omega, by go_num, HV2.out, trivial⟩
          case measure => simp [intOf]; omega
        · have hx : (x == 0) = true := by rw [hp] at hf; exact hf
          have hres := rowF_least hi hf HV.out
          rw [HA.out] at hres
          subst hres
          have HG := hid_mk (good_setC HH.out.good (HH.out.good.free hi hf) k0 k7)
          clear hp hf
          go_wp2
          go_ret2
          have hr := HH.out.row.set i 1 c 0
          have ho3 : Out bw (bw + 1) wr (((wr.setCell ⟨bw, i * 3, none⟩ (.int .i64 1)).setCell ⟨bw, i * 3 + 1, none⟩ (.int .i64 c)).setCell ⟨bw, i * 3 + 2, none⟩ (.int .i64 0)) := (Out.refl _ _ _).set3 (.inl ⟨Nat.le_refl _, Nat.lt_succ_self _⟩) _ _ _
          exact ⟨rfl, HH.out.turn ho3 hr HG.out, ho3⟩
      · have : i = n := by omega
        subst this
        have hres := rowF_nowhere HV.out
        rw [HA.out] at hres
        subst hres
        clear hi
        go_wp2
        go_ret2
        exact ⟨rfl, HH.out, Out.refl _ _ _⟩
  · rw [if_neg hc, if_neg hc, if_neg hc]
    unfold classB at hc
    simp at hc
    by_cases h1 : 0 ≤ c
    · have h2 : 7 < c := by omega
      clear h hc
      go_enter Tryd.func38, Tryd.ntmps38
      go_wp2
      go_ret2
      exact ⟨rfl, HH.out, Out.refl _ _ _⟩
    · have h2 : c < 0 := by omega
      clear h hc h1
      go_enter Tryd.func38, Tryd.ntmps38
      go_wp2
      go_ret2
      exact ⟨rfl, HH.out, Out.refl _ _ _⟩
set_option maxRecDepth 100000 in
set_option maxHeartbeats 4000000 in
theorem refTakeRun_some {w : World} {b bw n : Nat} {S : Nat → Int × Int × Int} (h : TblAt 61 w b bw n S) (k : Nat) (h1 : 1 ≤ k) (h2 : k ≤ 16) (p : Nat) (hf : rowF S n k = some p) :
    Calls Tryd.prog 39 #[.pointer (some ⟨b, 0, none⟩), .int .i64 k] w fun e w' => e = .returned (.tuple #[.int .i64 p, .int .i64 0]) ∧ TblAt 61 w' b bw n (setR S p k) ∧ Out bw (bw + 1) w w' := by
  obtain ⟨cap, c0, _⟩ := h.cell
  have HH := hid_mk h
  have HN := hid_mk h.nums
  have HR : Hid (Calls Tryd.prog 42 #[.pointer (some ⟨b, 0, none⟩), .int .i64 k] w fun e w' => e = .returned (.int .i64 (p : Int)) ∧ w' = w) := by
    have := refRow_any h k h1 h2
    rw [hf] at this
    exact this
  obtain ⟨p1, p2, p3⟩ := rowF_pages h.good hf
  have p4 := p3 p (Nat.le_refl _) (by omega)
  have HG := hid_mk (good_setR h.good p3 h1 h2 p2)
  obtain ⟨q0, q1, q2⟩ := h.row.page p1 p4
  have fz0 := Row.frozen h.row (p * 3)
  have fz1 := Row.frozen h.row (p * 3 + 1)
  have fz2 := Row.frozen h.row (p * 3 + 2)
  have hr1 := h.row.set p 2 0 k
  have ho1 : Out bw (bw + 1) w (((w.setCell ⟨bw, p * 3, none⟩ (.int .i64 2)).setCell ⟨bw, p * 3 + 1, none⟩ (.int .i64 0)).setCell ⟨bw, p * 3 + 2, none⟩ (.int .i64 k)) := (Out.refl _ _ _).set3 (.inl ⟨Nat.le_refl _, Nat.lt_succ_self _⟩) _ _ _
  obtain ⟨W1, hW1⟩ : ∃ W1, ((w.setCell ⟨bw, p * 3, none⟩ (.int .i64 2)).setCell ⟨bw, p * 3 + 1, none⟩ (.int .i64 0)).setCell ⟨bw, p * 3 + 2, none⟩ (.int .i64 k) = W1 := ⟨_, rfl⟩
  rw [hW1] at hr1 ho1
  have HR1 : Hid (PRow W1 bw n (putA (setP S p (2, 0, (k : Int))) (p + 1) (1 - 1) (3, 0, 0))) := by rw [Nat.sub_self, putA_zero]; exact hr1
  have HO1 := hid_mk ho1
  have b0 : (0 : Int) ≤ (p : Int) := by omega
  have b1 : (p : Int) < (n : Int) := by omega
  have b2 : (n : Int) ≤ 4096 := by have := HN.out; omega
  have b3 : (1 : Int) ≤ (k : Int) := by omega
  have b4 : (k : Int) ≤ 16 := by omega
  have b5 : (p : Int) + (k : Int) ≤ (n : Int) := by omega
  have HC : Hid (∀ wr, Out bw (bw + 1) w wr → wr.cell? ⟨b, 0, none⟩ = some (.slice (some ⟨bw, 0, none⟩) n cap)) := fun wr o => o.cell c0 (by have := HN.out; omega)
  clear h hf p1 p2 p3 p4 hr1 ho1
  go_enter Tryd.func39, Tryd.ntmps39
  go_wp2_with (go_at_call 42; refine calls_same HR.out ?_)
  clear q0 q1 q2 fz0 fz1 fz2 c0 hW1
  go_loopw [7] (fun y wr => ∃ i : Nat, 1 ≤ i ∧ i ≤ k ∧ y = .int .i64 i ∧ PRow wr bw n (putA (setP S p (2, 0, (k : Int))) (p + 1) (i - 1) (3, 0, 0)) ∧ Out bw (bw + 1) w wr) (fun y _ => k - (intOf y).toNat)
  case atStart => exact ⟨1, Nat.le_refl _, h1, rfl, HR1.out, HO1.out⟩
  case round =>
    clear HR1 HO1
    obtain ⟨i, i0, i1, rfl, hr, ho⟩ := hrel
    have HO := hid_mk ho
    have c0 := HC.out _ ho
    have a0 : (1 : Int) ≤ (i : Int) := by omega
    by_cases hi : i < k
    · have a1 : (i : Int) < (k : Int) := by omega
      obtain ⟨x, y, z, hp⟩ := page_of (putA (setP S p (2, 0, (k : Int))) (p + 1) (i - 1) (3, 0, 0) (p + i))
      obtain ⟨q0, q1, q2⟩ := hr.page (by omega) hp
      have fz0 := Row.frozen hr ((p + i) * 3)
      have fz1 := Row.frozen hr ((p + i) * 3 + 1)
      have fz2 := Row.frozen hr ((p + i) * 3 + 2)
      have hr2 := hr.set (p + i) 3 0 0
      have e := putA_step (setP S p (2, 0, (k : Int))) (p + 1) (i - 1) (3, 0, 0)
      rw [show p + 1 + (i - 1) = p + i from by omega, show i - 1 + 1 = i + 1 - 1 from by omega] at e
      rw [e] at hr2
      have HR2 := hid_mk hr2
      have HO2 := hid_mk (ho.set3 (b := bw) (o := (p + i) * 3) (.inl ⟨Nat.le_refl _, Nat.lt_succ_self _⟩) (.int .i64 3) (.int .i64 0) (.int .i64 0))
      have b6 : ((p + i : Nat) : Int) < (n : Int) := by omega
      clear hr ho hp hr2 e HO
      go_wp2
      go_roundw
      case rel => exact ⟨i + 1, by omega, by omega, by go_num, HR2.out, HO2.out⟩
      case measure => simp [intOf]; omega
    · have : i = k := by omega
      subst this
      have HR2 : Hid (PRow wr bw n (setR S p i)) := by rw [setR_eq S p i h1]; exact hr
      clear hr ho hi
      go_wp2
      go_ret2
      exact ⟨rfl, HH.out.turn HO.out HR2.out HG.out, HO.out⟩
theorem refTakeRun_any {w : World} {b bw n : Nat} {S : Nat → Int × Int × Int} (h : TblAt 61 w b bw n S) (c : Int) :
    Calls Tryd.prog 39 #[.pointer (some ⟨b, 0, none⟩), .int .i64 c] w fun e w' => e = .returned (.tuple #[.int .i64 (trP S n c : Nat), .int .i64 (trE S n c)]) ∧ TblAt 61 w' b bw n (trS S n c) ∧ Out bw (bw + 1) w w' := by
  unfold trP trE trS
  have H := hid_mk h
  by_cases hc : runB c = true
  · rw [if_pos hc, if_pos hc, if_pos hc]
    unfold runB at hc
    simp at hc
    obtain ⟨k, rfl⟩ : ∃ k : Nat, c = k := ⟨c.toNat, by omega⟩
    rw [show ((k : Nat) : Int).toNat = k from by omega]
    cases hf : rowF S n k with
    | none =>
      have HR : Hid (Calls Tryd.prog 42 #[.pointer (some ⟨b, 0, none⟩), .int .i64 k] w fun e w' => e = .returned (.int .i64 (-1)) ∧ w' = w) := by
        have := refRow_any h k (by omega) (by omega)
        rw [hf] at this
        exact this
      have b3 : (1 : Int) ≤ (k : Int) := by omega
      have b4 : (k : Int) ≤ 16 := by omega
      clear h hf hc
      go_enter Tryd.func39, Tryd.ntmps39
      go_wp2_with (go_at_call 42; refine calls_same HR.out ?_)
      go_ret2
      exact ⟨rfl, H.out, Out.refl _ _ _⟩
    | some p => exact refTakeRun_some h k (by omega) (by omega) p hf
  · rw [if_neg hc, if_neg hc, if_neg hc]
    unfold runB at hc
    simp at hc
    by_cases h1 : 1 ≤ c
    · have h2 : 16 < c := by omega
      clear h hc
      go_enter Tryd.func39, Tryd.ntmps39
      go_wp2
      go_ret2
      exact ⟨rfl, H.out, Out.refl _ _ _⟩
    · have h2 : c < 1 := by omega
      clear h hc h1
      go_enter Tryd.func39, Tryd.ntmps39
      go_wp2
      go_ret2
      exact ⟨rfl, H.out, Out.refl _ _ _⟩
end Go.Proofs.YtfkmaanfgkkjcaaDoor
