import Derived.Test.YtjbbkeoolodeaabDoorNr
import Derived.Test.YtjbbkeoolodeaabDoorNg
import Derived.Test.YtjbbkeoolodeaabDoorNt
namespace Go.Proofs.YtjbbkeoolodeaabDoor
open Go.RowKit
set_option linter.unusedVariables false
set_option linter.unusedSimpArgs false

theorem eq_nilSt (W : World) (a : Addr) (n c : Nat) : (binOp .eql 27 (.slice (some a) n c) (.slice none 0 0)).run Tryd.prog W = .ok (.bool false) W := by kernel_rfl
theorem arr8_row {w : World} {X : Nat} {T : TypeId} (o : Nat → Option Addr) (m cp : Nat → Nat) (h : w.heap[X]? = some (.cells #[.slice (o 0) (m 0) (cp 0), .slice (o 1) (m 1) (cp 1), .slice (o 2) (m 2) (cp 2), .slice (o 3) (m 3) (cp 3), .slice (o 4) (m 4) (cp 4), .slice (o 5) (m 5) (cp 5), .slice (o 6) (m 6) (cp 6), .slice (o 7) (m 7) (cp 7)] T (0, 0))) : Row w X T 8 (fun j => .slice (o j) (m j) (cp j)) :=
  ⟨_, h, by simp, fun j hj => sl8_at o m cp hj⟩
set_option maxRecDepth 100000 in
set_option maxHeartbeats 16000000 in
theorem told_any {w : World} (hT : Tab w) (n0 : Int) (hn : -9223372036854775808 ≤ n0 ∧ n0 ≤ 9223372036854775807) {os : List OpQ} {p : Option Addr} {cp : Nat} (hS : ScrAt w w.heap.size p os) (at0 : Int) (hat : -9223372036854775808 ≤ at0 ∧ at0 ≤ 9223372036854775807) (x : Int) (hxx : -9223372036854775808 ≤ x ∧ x ≤ 9223372036854775807) :
    Calls Tryd.prog 6 #[.int .i64 n0, .slice p os.length cp, .int .i64 at0, .int .i64 x] w fun e w' => e = .returned (.bool true) ∧ Out 0 0 w w' := by
  have HAl := hid_mk (fun w' (hT' : Tab w') => alive_any hT')
  have HT := hid_mk hT
  have HS := hid_mk hS
  obtain ⟨m, hm, hm2⟩ := wth_nat n0 12 (by decide)
  obtain ⟨N, hN⟩ : ∃ N : Nat, 1 + wth n0 12 = (N : Int) := ⟨1 + m, by rw [hm]; push_cast; rfl⟩
  have HN : Hid (1 ≤ N ∧ N ≤ 12) := by show _ ∧ _; omega
  have HBg := hid_mk (begun_any hT n0 hn.1 hn.2 hN)
  clear hT hS hn hm hm2 hN m
  go_enter Tryd.func6, Tryd.ntmps6
  go_wp2_with fail
  refine HBg.out.mono ?_
  rintro e w1 ⟨b, lo, hi, s, cap, rfl, hw1, hs1, hb1, hl1, ho1⟩
  have H1 := hid_mk (And.intro hw1 (And.intro hs1 (And.intro hb1 (And.intro hl1 ho1))))
  have HA1 := hid_mk (HAl.out _ (HT.out.quiet ho1))
  clear hw1 hs1 hb1 hl1 ho1 HBg
  go_wp2_with fail
  refine HA1.out.mono ?_
  rintro e w2 ⟨rfl, ho2⟩
  have HO2 := hid_mk (H1.out.2.2.2.2.trans ho2)
  have HSm := hid_mk (fun w' (o : Out 0 0 w w') => small_at (cp := cp) (HS.out.kept o (.inr rfl)))
  have HA2 := hid_mk (fun w' (o : Out 0 0 w w') => HAl.out _ (HT.out.quiet o))
  have H2 := hid_mk (And.intro (H1.out.1.kept ho2 (.inr (Nat.zero_le _))) (And.intro (H1.out.2.1.quiet ho2) (And.intro H1.out.2.2.1 H1.out.2.2.2.1)))
  clear ho2 H1 HA1 HAl
  go_wp2_with fail
  refine (HSm.out _ HO2.out).mono ?_
  rintro e wx ⟨hwx, rfl⟩
  rw [hwx]
  clear hwx wx
  cases hr : smB os with
  | false =>
    rw [hr] at HSm
    clear hr
    go_wp2_with fail
    refine (HA2.out _ HO2.out).mono ?_
    rintro e w3 ⟨rfl, ho3⟩
    have HO3 := hid_mk (HO2.out.trans ho3)
    clear ho3
    go_wp2_with fail
    refine (HSm.out _ HO3.out).mono ?_
    rintro e wx ⟨hwx, rfl⟩
    rw [hwx]
    clear hwx wx
    go_wp2_with fail
    go_ret
    exact ⟨rfl, HO3.out⟩
  | true =>
    have HR := hid_mk (smB_all hr)
    clear hr
    have hq := H2.out
    have hst := wst_new hq.2.2.2 (by have := HT.out.lt; omega) hq.2.1 hq.1
    have hsc := (HS.out.kept HO2.out (.inr rfl)).mono (b' := b) hq.2.2.1
    have HP := hid_mk (played_any (cp := cp) hst HN.out.2 (Int.le_refl 0) hsc HR.out hq.1.lt)
    have HQ := hid_mk hq.2.2.1
    clear hq hst hsc H2 HA2 HSm
    go_wp2_with fail
    refine HP.out.mono ?_
    rintro e w3 ⟨rfl, hst3⟩
    obtain ⟨⟨st, l⟩, hF⟩ : ∃ q, plP N (newSp, []) os (min os.length 120) = q := ⟨_, rfl⟩
    rw [hF] at hst3
    have hlF := pl_last N (newSp, []) os (min os.length 120)
    rw [hF] at hlF
    have HLF : Hid (st.last ≤ 120) := by
      have : st.last ≤ 0 + ((min os.length 120 : Nat) : Int) := hlF
      show st.last ≤ 120
      omega
    have HO3 := hid_mk (HO2.out.past hst3.2.1 HQ.out)
    have HW := hid_mk (owner_any hst3 HN.out.2)
    have H3 := hid_mk hst3
    clear hst3 hlF HP
    go_wp2_with fail
    refine HW.out.mono ?_
    rintro e w4 ⟨rfl, _, ho4⟩
    -- the world stands in w4
    have hst4 := H3.out.quiet ho4
    have HO4 := hid_mk (HO3.out.trans ho4)
    have HSt := hid_mk hst4
    have HI := hid_mk (And.intro hst4.2.2.1.2 (And.intro hst4.2.2.2.1 hst4.2.2.2.2.1))
    obtain ⟨M, hM⟩ : ∃ M, 64 * N = M := ⟨_, rfl⟩
    have hNn := HN.out
    have M0 : (64 : Int) ≤ (M : Int) := by omega
    have M1 : (M : Int) ≤ 768 := by omega
    have hMi : (64 : Int) * (N : Int) = (M : Int) := by omega
    have n0' : (1 : Int) ≤ (N : Int) := by omega
    have n1' : (N : Int) ≤ 12 := by omega
    obtain ⟨a, ha, ha2⟩ := wth_nat at0 (M : Int) (by omega)
    have HWt := hid_mk (fun w' => within_any at0 (M : Int) w' hat.1 hat.2 (by omega) (by omega))
    rw [ha] at HWt
    have a0 : (0 : Int) ≤ (a : Int) := by omega
    have a1 : (a : Int) < (M : Int) := ha2
    have haN : a < 64 * N := by omega
    have hlen := obl_len hst4.2.2.1.2 hst4.2.2.2.2.1
    have hta := td_all hst4.2.2.2.2.1 a
    obtain ⟨h1, h2, h3, h4, h5, v, h6, h7⟩ := hst4
    obtain ⟨po, pc, rfl, hcel⟩ := own_at5' h7
    obtain ⟨m, hm⟩ : ∃ m, l.length = m := ⟨_, rfl⟩
    rw [hm] at h6 hcel hta hlen
    have m0 : (0 : Int) ≤ (m : Int) := by omega
    have m1 : (m : Int) ≤ 768 := by omega
    have c0 := h6.cells.1
    have HC2 := hid_mk (h6.cells.2.2.1)
    have HC := hid_mk h6
    have HB := hid_mk h1
    have HG := hid_mk hcel
    have HTa := hid_mk (And.intro hta haN)
    have HRaw := hid_mk h3.1
    clear ho4 HW H3 h1 h2 h3 h4 h5 h6 h7 hcel hlen hta haN ha ha2 hat hNn hm
    have heq := eq_nilSt
    go_wp2_with fail
    refine (HWt.out _).mono ?_
    rintro e wx ⟨rfl, hwx⟩
    rw [hwx]
    clear hwx wx HWt heq c0
    go_wp2_with fail
    go_loopw [10, 11] (fun f u wr => ∃ i : Nat, f = .bool (tdO l a i) ∧ u = .int .i64 (i : Int) ∧ i ≤ m ∧ wr = w4) (fun _ u _ => m - (intOf u).toNat)
    case atStart => exact ⟨0, rfl, rfl, Nat.zero_le _, rfl⟩
    case round =>
      obtain ⟨i, rfl, rfl, i1, hwr⟩ := hrel
      subst hwr
      have i0 : (0 : Int) ≤ (i : Int) := by omega
      have c2 := HC2.out
      by_cases hi : i < m
      · have i2 : (i : Int) < (m : Int) := by omega
        cases htd : tdO l a i with
        | true =>
          have HTd := hid_mk htd
          clear htd
          go_wp2_with fail
          exact ⟨⟨i + 1, by rw [show tdO l a (i + 1) = (tdO l a i || ((atB l i).1 == a)) from rfl, HTd.out]; rfl, by congr 1, by omega, by trivial⟩, by simp [intOf] <;> omega⟩
        | false =>
          have HTd := hid_mk htd
          obtain ⟨g, rfl, g1, g2, g3, _⟩ := HG.out i hi
          obtain ⟨y, hy⟩ : ∃ y, (atB l i).1 = y := ⟨_, rfl⟩
          rw [hy] at g3
          have HY := hid_mk hy
          clear htd hy g1 g2
          by_cases e : (y : Int) = (a : Int)
          · go_wp2_with fail
            exact ⟨⟨i + 1, by rw [show tdO l a (i + 1) = (tdO l a i || ((atB l i).1 == a)) from rfl, HTd.out, HY.out]; have e' : y = a := (by omega); simp [e'], by congr 1, by omega, by trivial⟩, by simp [intOf] <;> omega⟩
          · have eb : ((y : Int) == (a : Int)) = false := by simpa using e
            go_wp2_with fail
            exact ⟨⟨i + 1, by rw [show tdO l a (i + 1) = (tdO l a i || ((atB l i).1 == a)) from rfl, HTd.out, HY.out]; have e' : y ≠ a := (by omega); simp [e', eb], by congr 1, by omega, by trivial⟩, by simp [intOf] <;> omega⟩
      · have e : i = m := by omega
        subst e
        rw [HTa.out.1]
        obtain ⟨h0, hh0⟩ : ∃ h0, hasB (st.O a) = h0 := ⟨_, rfl⟩
        rw [hh0]
        have HH0 := hid_mk hh0
        clear hh0 hi i1
        go_wp2_with fail
        refine (firsts_any HSt.out HN.out.2).mono ?_
        rintro e w6 ⟨o, mm, cpp, rfl, hfl, ho6⟩
        have H6 := hid_mk (And.intro hfl ho6)
        clear hfl ho6 c2
        go_wp2_with fail
        obtain ⟨W7, hW7⟩ : ∃ W, w6.alloc (.cells #[.slice (o 0) (mm 0) (cpp 0), .slice (o 1) (mm 1) (cpp 1), .slice (o 2) (mm 2) (cpp 2), .slice (o 3) (mm 3) (cpp 3), .slice (o 4) (mm 4) (cpp 4), .slice (o 5) (mm 5) (cpp 5), .slice (o 6) (mm 6) (cpp 6), .slice (o 7) (mm 7) (cpp 7)] 51) = W := ⟨_, rfl⟩
        obtain ⟨FB, hFB⟩ : ∃ F, w6.heap.size = F := ⟨_, rfl⟩
        have o7 : Out 0 0 w6 W7 := by rw [← hW7]; exact (Out.refl 0 0 w6).alloc _
        have HRow : Hid (Row W7 FB 51 8 (fun j => .slice (o j) (mm j) (cpp j))) := by
          refine arr8_row o mm cpp ?_
          rw [← hW7, ← hFB]; exact heap_alloc_new _ _
        have HEl : Hid (∀ c, c < 8 → mm c = (frL N st (c : Int) (64 * N)).length ∧ ∀ j y, (frL N st (c : Int) (64 * N))[j]? = some y → ∃ g, o c = some ⟨g, 0, none⟩ ∧ W7.cell? ⟨g, j, none⟩ = some (.int .i64 y)) := by
          intro c hc
          obtain ⟨m1, m2⟩ := H6.out.1 c hc
          refine ⟨m1, fun j y hj => ?_⟩
          have hlt := (List.getElem?_eq_some_iff.1 hj).1
          obtain ⟨g, c2, e, _, _⟩ := m2.form (by omega)
          have hob : (Value.slice (o c) (mm c) (cpp c)).ownBlock = some g := by rw [e]; rfl
          injection e with e1 e2 e3
          have hcell := m2.cells (g := g) hob j (.int .i64 y) (by unfold ivs; rw [List.getElem?_map, hj]; rfl)
          rw [Addr.add_lit, Nat.zero_add] at hcell
          exact ⟨g, e1, o7.cell hcell (.inr (Nat.zero_le _))⟩
        have HO7 := hid_mk (H6.out.2.trans o7)
        rw [hW7]
        (try rw [hFB])
        clear hW7 hFB o7 H6
        go_loopw [10, 14] (fun f u wr => ∃ c : Nat, f = .bool (h0 || tdF N st a c) ∧ u = .int .i64 (c : Int) ∧ c ≤ 8 ∧ wr = W7) (fun _ u _ => 8 - (intOf u).toNat)
        case atStart => exact ⟨0, by cases h0 <;> rfl, rfl, Nat.zero_le _, rfl⟩
        case round =>
          obtain ⟨c, rfl, rfl, cb, hwr⟩ := hrel
          subst hwr
          have cz : (0 : Int) ≤ (c : Int) := by omega
          by_cases hc : c < 8
          · have c8 : (c : Int) < 8 := by omega
            have d1 := HRow.out.cell hc
            obtain ⟨oc, hoc⟩ : ∃ oc, o c = oc := ⟨_, rfl⟩
            obtain ⟨mc, hmc⟩ : ∃ mc, mm c = mc := ⟨_, rfl⟩
            obtain ⟨cc, hcc⟩ : ∃ cc, cpp c = cc := ⟨_, rfl⟩
            have hel := HEl.out c hc
            rw [hoc, hmc] at hel
            (try dsimp only at d1)
            rw [hoc, hmc, hcc] at d1
            obtain ⟨L, hL⟩ : ∃ L, frL N st (c : Int) (64 * N) = L := ⟨_, rfl⟩
            have hall := tdI_all (n := N) (st := st) (c := c) HTa.out.2
            rw [hL] at hel hall
            rw [← hel.1] at hall
            have hl7 := frL_len (n := N) (st := st) (c : Int) (64 * N)
            rw [hL, ← hel.1] at hl7
            have mc0 : (0 : Int) ≤ (mc : Int) := by omega
            have mc1 : (mc : Int) ≤ 768 := by have := HN.out; omega
            have HL := hid_mk (And.intro hel.1 (And.intro hel.2 hall))
            have HD1 := hid_mk d1
            clear hoc hmc hcc hel hall hl7 hL
            go_wp2_with fail
            go_loopw [10, 15] (fun f u wq => ∃ i : Nat, f = .bool ((h0 || tdF N st a c) || tdI L a i) ∧ u = .int .i64 (i : Int) ∧ i ≤ mc ∧ wq = wr) (fun _ u _ => mc - (intOf u).toNat)
            case atStart => exact ⟨0, by rw [tdI_zero, Bool.or_false], rfl, Nat.zero_le _, rfl⟩
            case round =>
              obtain ⟨i, rfl, rfl, i1, hwr⟩ := hrel
              subst hwr
              have i0 : (0 : Int) ≤ (i : Int) := by omega
              have d1 := HD1.out
              by_cases hi : i < mc
              · have i2 : (i : Int) < (mc : Int) := by omega
                obtain ⟨y, hy⟩ : ∃ y, L[i]? = some y := ⟨_, List.getElem?_eq_getElem (by have := HL.out.1; omega)⟩
                have hsucc := tdI_succ (a := a) hy
                obtain ⟨q, hq⟩ : ∃ q, ((h0 || tdF N st a c) || tdI L a i) = q := ⟨_, rfl⟩
                rw [hq]
                have HSu := hid_mk (And.intro hsucc (And.intro hq hy))
                clear hsucc hq hy
                cases q with
                | true =>
                  go_wp2_with fail
                  exact ⟨⟨i + 1, by rw [HSu.out.1, ← Bool.or_assoc, HSu.out.2.1]; rfl, by congr 1, by omega, by trivial⟩, by simp [intOf] <;> omega⟩
                | false =>
                  obtain ⟨g, rfl, d2⟩ := HL.out.2.1 i y HSu.out.2.2
                  by_cases e : y = (a : Int)
                  · go_wp2_with fail
                    exact ⟨⟨i + 1, by rw [HSu.out.1, ← Bool.or_assoc, HSu.out.2.1]; simp [e], by congr 1, by omega, by trivial⟩, by simp [intOf] <;> omega⟩
                  · go_wp2_with fail
                    exact ⟨⟨i + 1, by rw [HSu.out.1, ← Bool.or_assoc, HSu.out.2.1]; simp [e], by congr 1, by omega, by trivial⟩, by simp [intOf] <;> omega⟩
              · have e : i = mc := by omega
                subst e
                rw [HL.out.2.2, Bool.or_assoc]
                go_wp2_with fail
                exact ⟨⟨c + 1, rfl, by congr 1, by omega, by trivial⟩, by simp [intOf] <;> omega⟩
          · have e : c = 8 := by omega
            subst e
            obtain ⟨tt, htt⟩ : ∃ tt, (h0 || tdF N st a 8) = tt := ⟨_, rfl⟩
            rw [htt]
            obtain ⟨od, hod⟩ : ∃ od, st.W a = od := ⟨_, rfl⟩
            have hb1 := HB.out
            have c1 := (HC.out.kept HO7.out (.inr (Nat.zero_le _))).cells.2.1
            have c0 := (HC.out.kept HO7.out (.inr (Nat.zero_le _))).cells.1
            have HPk := hid_mk (peek_in (HRaw.out.quiet HO7.out) HTa.out.2)
            have hwt := wrong_turn HI.out.1 HI.out.2.1 HTa.out.2 x
            have hck := chk_turn HI.out.1 HI.out.2.1 (a := a) x
            rw [hod] at HPk hwt hck
            rw [HH0.out] at hwt hck
            rw [htt] at hwt
            have HWn := hid_mk hwt
            have HCk := hid_mk hck
            have HTt := hid_mk htt
            have HOd := hid_mk hod
            clear hwt hck htt hod hc cb
            go_wp2_with fail
            refine HPk.out.mono ?_
            rintro e wx ⟨rfl, hwx⟩
            rw [hwx]
            clear hwx wx HPk
            go_wp2_with fail
            have hwa : IntKind.i64.wrap (-1 - (a : Int)) = -1 - (a : Int) := by simp [IntKind.wrap, IntKind.signed, IntKind.bits]; omega
            have hwM : IntKind.i64.wrap (M : Int) = (M : Int) := by simp [IntKind.wrap, IntKind.signed, IntKind.bits]; omega
            have hwb : IntKind.i64.wrap ((M : Int) + (a : Int)) = (M : Int) + (a : Int) := by simp [IntKind.wrap, IntKind.signed, IntKind.bits]; omega
            refine wp_region_held_drew (S := fun w' => w'.cell? ⟨b, 1, none⟩ = some (.pointer (some ⟨s 14, 0, none⟩)) ∧ w'.cell? ⟨b, 0, none⟩ = some (.int .i64 (N : Int))) (by kernel_rfl) ?hS1 (fun hHeld => ?rest1)
            case hS1 => exact ⟨c1, c0⟩
            obtain ⟨Z9, hZ⟩ : ∃ Z, wr.drew = Z := ⟨_, rfl⟩
            have OZ9 : Out 0 0 wr Z9 := by rw [← hZ]; exact (Out.refl 0 0 wr).drew
            rw [hZ] at hHeld ⊢
            clear hZ
            refine wpAnyH_take (i := 0) (v := ?v2) rfl (by kernel_rfl) (by kernel_rfl) (by kernel_rfl) (fun _ _ _ h => h) (Or.inl ⟨by rfl, ?hy2⟩) (by assumption) ?rest2
            case hy2 => (intro w hSw; (try dsimp only at hSw); simp only [List.getElem_toArray, List.getElem_cons_zero, List.getElem_cons_succ]; go_simp; (try with_reducible rfl))
            (try simp only [Act.put, List.getElem_toArray, List.getElem_cons_zero, List.getElem_cons_succ, List.setIfInBounds_toArray, List.set_cons_zero, List.set_cons_succ])
            refine wpAnyH_take (i := 1) (v := ?v3) rfl (by kernel_rfl) (by kernel_rfl) (by kernel_rfl) (fun _ _ _ h => h) (Or.inl ⟨by rfl, ?hy3⟩) (by assumption) ?rest3
            case hy3 => (intro w hSw; (try dsimp only at hSw); simp only [List.getElem_toArray, List.getElem_cons_zero, List.getElem_cons_succ]; go_simp; (try with_reducible rfl))
            (try simp only [Act.put, List.getElem_toArray, List.getElem_cons_zero, List.getElem_cons_succ, List.setIfInBounds_toArray, List.set_cons_zero, List.set_cons_succ])
            refine wpAnyH_take (i := 2) (v := ?v4) rfl (by kernel_rfl) (by kernel_rfl) (by kernel_rfl) (fun _ _ _ h => h) (Or.inl ⟨by rfl, ?hy4⟩) (by assumption) ?rest4
            case hy4 => (intro w hSw; (try dsimp only at hSw); simp only [List.getElem_toArray, List.getElem_cons_zero, List.getElem_cons_succ]; go_simp; (try with_reducible rfl))
            (try simp only [Act.put, List.getElem_toArray, List.getElem_cons_zero, List.getElem_cons_succ, List.setIfInBounds_toArray, List.set_cons_zero, List.set_cons_succ])
            refine wpAnyH_take (i := 3) (v := ?v5) rfl (by kernel_rfl) (by kernel_rfl) (by kernel_rfl) (fun _ _ _ h => h) (Or.inl ⟨by rfl, ?hy5⟩) (by assumption) ?rest5
            case hy5 => (intro w hSw; (try dsimp only at hSw); simp only [List.getElem_toArray, List.getElem_cons_zero, List.getElem_cons_succ]; go_simp; (try with_reducible rfl))
            (try simp only [Act.put, List.getElem_toArray, List.getElem_cons_zero, List.getElem_cons_succ, List.setIfInBounds_toArray, List.set_cons_zero, List.set_cons_succ])
            refine wpAnyH_take (i := 4) (v := ?v6) rfl (by kernel_rfl) (by kernel_rfl) (by kernel_rfl) (fun _ _ _ h => h) (Or.inl ⟨by rfl, ?hy6⟩) (by assumption) ?rest6
            case hy6 => (intro w hSw; (try dsimp only at hSw); simp only [List.getElem_toArray, List.getElem_cons_zero, List.getElem_cons_succ]; go_simp; (try with_reducible rfl))
            (try simp only [Act.put, List.getElem_toArray, List.getElem_cons_zero, List.getElem_cons_succ, List.setIfInBounds_toArray, List.set_cons_zero, List.set_cons_succ])
            refine wpAnyH_take (i := 5) (v := ?v7) rfl (by kernel_rfl) (by kernel_rfl) (by kernel_rfl) (fun _ _ _ h => h) (Or.inl ⟨by rfl, ?hy7⟩) (by assumption) ?rest7
            case hy7 => (intro w hSw; (try dsimp only at hSw); simp only [List.getElem_toArray, List.getElem_cons_zero, List.getElem_cons_succ]; go_simp; (try with_reducible rfl))
            (try simp only [Act.put, List.getElem_toArray, List.getElem_cons_zero, List.getElem_cons_succ, List.setIfInBounds_toArray, List.set_cons_zero, List.set_cons_succ])
            refine wpAnyH_take (i := 6) (v := ?v8) rfl (by kernel_rfl) (by kernel_rfl) (by kernel_rfl) (fun _ _ _ h => h) (Or.inl ⟨by rfl, ?hy8⟩) (by assumption) ?rest8
            case hy8 => (intro w hSw; (try dsimp only at hSw); simp only [List.getElem_toArray, List.getElem_cons_zero, List.getElem_cons_succ]; go_simp; (try with_reducible rfl))
            (try simp only [Act.put, List.getElem_toArray, List.getElem_cons_zero, List.getElem_cons_succ, List.setIfInBounds_toArray, List.set_cons_zero, List.set_cons_succ])
            refine wpAnyH_ready (rs := [7]) (by kernel_rfl) (by simp) ?_
            refine AllReadyH.cons rfl (fun KK hK => ?_) AllReadyH.nil
            simp only [List.getElem_toArray, List.getElem_cons_zero, List.getElem_cons_succ]
            go_simp
            refine (wrong_is (HRaw.out.quiet (HO7.out.trans OZ9)) (told_of st) (wrong_none HI.out.1 HI.out.2.1)).mono ?_
            rintro e V1 ⟨rfl, o1⟩
            have OV : Out 0 0 wr V1 := OZ9.trans o1
            refine hK.out _ _ ?hS9 (fun hHeld2 => ?rest9)
            case hS9 => exact ⟨o1.cell hHeld.1 (.inr (Nat.zero_le _)), o1.cell hHeld.2 (.inr (Nat.zero_le _))⟩
            clear o1
            clear hK KK
            (try clear hHeld)
            have hHeld := hHeld2
            clear hHeld2
            (try simp only [Act.put, List.getElem_toArray, List.getElem_cons_zero, List.getElem_cons_succ, List.setIfInBounds_toArray, List.set_cons_zero, List.set_cons_succ])
            refine wpAnyH_take (i := 8) (v := ?v10) rfl (by kernel_rfl) (by kernel_rfl) (by kernel_rfl) (fun _ _ _ h => h) (Or.inl ⟨by rfl, ?hy10⟩) (by assumption) ?rest10
            case hy10 => (intro w hSw; (try dsimp only at hSw); simp only [List.getElem_toArray, List.getElem_cons_zero, List.getElem_cons_succ]; go_simp; (try with_reducible rfl))
            (try simp only [Act.put, List.getElem_toArray, List.getElem_cons_zero, List.getElem_cons_succ, List.setIfInBounds_toArray, List.set_cons_zero, List.set_cons_succ])
            refine wpAnyH_take (i := 9) (v := ?v11) rfl (by kernel_rfl) (by kernel_rfl) (by kernel_rfl) (fun _ _ _ h => h) (Or.inl ⟨by rfl, ?hy11⟩) (by assumption) ?rest11
            case hy11 => (intro w hSw; (try dsimp only at hSw); simp only [List.getElem_toArray, List.getElem_cons_zero, List.getElem_cons_succ]; go_simp; (try with_reducible rfl))
            (try simp only [Act.put, List.getElem_toArray, List.getElem_cons_zero, List.getElem_cons_succ, List.setIfInBounds_toArray, List.set_cons_zero, List.set_cons_succ])
            refine wpAnyH_take (i := 10) (v := ?v12) rfl (by kernel_rfl) (by kernel_rfl) (by kernel_rfl) (fun _ _ _ h => h) (Or.inl ⟨by rfl, ?hy12⟩) (by assumption) ?rest12
            case hy12 => (intro w hSw; (try dsimp only at hSw); simp only [List.getElem_toArray, List.getElem_cons_zero, List.getElem_cons_succ]; go_simp; (try with_reducible rfl))
            (try simp only [Act.put, List.getElem_toArray, List.getElem_cons_zero, List.getElem_cons_succ, List.setIfInBounds_toArray, List.set_cons_zero, List.set_cons_succ])
            refine wpAnyH_take (i := 11) (v := ?v13) rfl (by kernel_rfl) (by kernel_rfl) (by kernel_rfl) (fun _ _ _ h => h) (Or.inl ⟨by rfl, ?hy13⟩) (by assumption) ?rest13
            case hy13 => (intro w hSw; (try dsimp only at hSw); simp only [List.getElem_toArray, List.getElem_cons_zero, List.getElem_cons_succ]; go_simp; (try with_reducible rfl))
            (try simp only [Act.put, List.getElem_toArray, List.getElem_cons_zero, List.getElem_cons_succ, List.setIfInBounds_toArray, List.set_cons_zero, List.set_cons_succ])
            refine wpAnyH_take (i := 12) (v := ?v14) rfl (by kernel_rfl) (by kernel_rfl) (by kernel_rfl) (fun _ _ _ h => h) (Or.inl ⟨by rfl, ?hy14⟩) (by assumption) ?rest14
            case hy14 => (intro w hSw; (try dsimp only at hSw); simp only [List.getElem_toArray, List.getElem_cons_zero, List.getElem_cons_succ]; go_simp; (try with_reducible rfl))
            (try simp only [Act.put, List.getElem_toArray, List.getElem_cons_zero, List.getElem_cons_succ, List.setIfInBounds_toArray, List.set_cons_zero, List.set_cons_succ])
            refine wpAnyH_take (i := 13) (v := ?v15) rfl (by kernel_rfl) (by kernel_rfl) (by kernel_rfl) (fun _ _ _ h => h) (Or.inl ⟨by rfl, ?hy15⟩) (by assumption) ?rest15
            case hy15 => (intro w hSw; (try dsimp only at hSw); simp only [List.getElem_toArray, List.getElem_cons_zero, List.getElem_cons_succ]; go_simp; (try with_reducible rfl))
            (try simp only [Act.put, List.getElem_toArray, List.getElem_cons_zero, List.getElem_cons_succ, List.setIfInBounds_toArray, List.set_cons_zero, List.set_cons_succ])
            refine wpAnyH_take (i := 14) (v := ?v16) rfl (by kernel_rfl) (by kernel_rfl) (by kernel_rfl) (fun _ _ _ h => h) (Or.inl ⟨by rfl, ?hy16⟩) (by assumption) ?rest16
            case hy16 => (intro w hSw; (try dsimp only at hSw); simp only [List.getElem_toArray, List.getElem_cons_zero, List.getElem_cons_succ]; go_simp; (try with_reducible rfl))
            (try simp only [Act.put, List.getElem_toArray, List.getElem_cons_zero, List.getElem_cons_succ, List.setIfInBounds_toArray, List.set_cons_zero, List.set_cons_succ])
            refine wpAnyH_take (i := 15) (v := ?v17) rfl (by kernel_rfl) (by kernel_rfl) (by kernel_rfl) (fun _ _ _ h => h) (Or.inl ⟨by rfl, ?hy17⟩) (by assumption) ?rest17
            case hy17 => (intro w hSw; (try dsimp only at hSw); simp only [List.getElem_toArray, List.getElem_cons_zero, List.getElem_cons_succ]; go_simp; (try with_reducible rfl))
            (try simp only [Act.put, List.getElem_toArray, List.getElem_cons_zero, List.getElem_cons_succ, List.setIfInBounds_toArray, List.set_cons_zero, List.set_cons_succ])
            refine wpAnyH_take (i := 16) (v := ?v18) rfl (by kernel_rfl) (by kernel_rfl) (by kernel_rfl) (fun _ _ _ h => h) (Or.inl ⟨by rfl, ?hy18⟩) (by assumption) ?rest18
            case hy18 => (intro w hSw; (try dsimp only at hSw); simp only [List.getElem_toArray, List.getElem_cons_zero, List.getElem_cons_succ]; go_simp; (try with_reducible rfl))
            (try simp only [Act.put, List.getElem_toArray, List.getElem_cons_zero, List.getElem_cons_succ, List.setIfInBounds_toArray, List.set_cons_zero, List.set_cons_succ])
            refine wpAnyH_ready (rs := [17]) (by kernel_rfl) (by simp) ?_
            refine AllReadyH.cons rfl (fun KK hK => ?_) AllReadyH.nil
            simp only [List.getElem_toArray, List.getElem_cons_zero, List.getElem_cons_succ]
            go_simp
            refine (poke_in (HRaw.out.quiet (HO7.out.trans OV)) HTa.out.2 x).mono ?_
            rintro e V2 ⟨rfl, fR, o1⟩
            have OV2 : Out lo hi wr V2 := (OV.any _ _).trans o1
            clear OV
            refine hK.out _ _ ?hS19 (fun hHeld2 => ?rest19)
            case hS19 => exact ⟨o1.cell hHeld.1 (.inl hb1.1), o1.cell hHeld.2 (.inl hb1.1)⟩
            clear o1
            clear hK KK
            (try clear hHeld)
            have hHeld := hHeld2
            clear hHeld2
            (try simp only [Act.put, List.getElem_toArray, List.getElem_cons_zero, List.getElem_cons_succ, List.setIfInBounds_toArray, List.set_cons_zero, List.set_cons_succ])
            refine wpAnyH_take (i := 18) (v := ?v20) rfl (by kernel_rfl) (by kernel_rfl) (by kernel_rfl) (fun _ _ _ h => h) (Or.inl ⟨by rfl, ?hy20⟩) (by assumption) ?rest20
            case hy20 => (intro w hSw; (try dsimp only at hSw); simp only [List.getElem_toArray, List.getElem_cons_zero, List.getElem_cons_succ]; go_simp; (try with_reducible rfl))
            (try simp only [Act.put, List.getElem_toArray, List.getElem_cons_zero, List.getElem_cons_succ, List.setIfInBounds_toArray, List.set_cons_zero, List.set_cons_succ])
            refine wpAnyH_take (i := 19) (v := ?v21) rfl (by kernel_rfl) (by kernel_rfl) (by kernel_rfl) (fun _ _ _ h => h) (Or.inl ⟨by rfl, ?hy21⟩) (by assumption) ?rest21
            case hy21 => (intro w hSw; (try dsimp only at hSw); simp only [List.getElem_toArray, List.getElem_cons_zero, List.getElem_cons_succ]; go_simp; (try with_reducible rfl))
            (try simp only [Act.put, List.getElem_toArray, List.getElem_cons_zero, List.getElem_cons_succ, List.setIfInBounds_toArray, List.set_cons_zero, List.set_cons_succ])
            refine wpAnyH_take (i := 20) (v := ?v22) rfl (by kernel_rfl) (by kernel_rfl) (by kernel_rfl) (fun _ _ _ h => h) (Or.inl ⟨by rfl, ?hy22⟩) (by assumption) ?rest22
            case hy22 => (intro w hSw; (try dsimp only at hSw); simp only [List.getElem_toArray, List.getElem_cons_zero, List.getElem_cons_succ]; go_simp; (try with_reducible rfl))
            (try simp only [Act.put, List.getElem_toArray, List.getElem_cons_zero, List.getElem_cons_succ, List.setIfInBounds_toArray, List.set_cons_zero, List.set_cons_succ])
            refine wpAnyH_take (i := 21) (v := ?v23) rfl (by kernel_rfl) (by kernel_rfl) (by kernel_rfl) (fun _ _ _ h => h) (Or.inl ⟨by rfl, ?hy23⟩) (by assumption) ?rest23
            case hy23 => (intro w hSw; (try dsimp only at hSw); simp only [List.getElem_toArray, List.getElem_cons_zero, List.getElem_cons_succ]; go_simp; (try with_reducible rfl))
            (try simp only [Act.put, List.getElem_toArray, List.getElem_cons_zero, List.getElem_cons_succ, List.setIfInBounds_toArray, List.set_cons_zero, List.set_cons_succ])
            refine wpAnyH_take (i := 22) (v := ?v24) rfl (by kernel_rfl) (by kernel_rfl) (by kernel_rfl) (fun _ _ _ h => h) (Or.inl ⟨by rfl, ?hy24⟩) (by assumption) ?rest24
            case hy24 => (intro w hSw; (try dsimp only at hSw); simp only [List.getElem_toArray, List.getElem_cons_zero, List.getElem_cons_succ]; go_simp; (try with_reducible rfl))
            (try simp only [Act.put, List.getElem_toArray, List.getElem_cons_zero, List.getElem_cons_succ, List.setIfInBounds_toArray, List.set_cons_zero, List.set_cons_succ])
            refine wpAnyH_take (i := 23) (v := ?v25) rfl (by kernel_rfl) (by kernel_rfl) (by kernel_rfl) (fun _ _ _ h => h) (Or.inl ⟨by rfl, ?hy25⟩) (by assumption) ?rest25
            case hy25 => (intro w hSw; (try dsimp only at hSw); simp only [List.getElem_toArray, List.getElem_cons_zero, List.getElem_cons_succ]; go_simp; (try with_reducible rfl))
            (try simp only [Act.put, List.getElem_toArray, List.getElem_cons_zero, List.getElem_cons_succ, List.setIfInBounds_toArray, List.set_cons_zero, List.set_cons_succ])
            refine wpAnyH_take (i := 24) (v := ?v26) rfl (by kernel_rfl) (by kernel_rfl) (by kernel_rfl) (fun _ _ _ h => h) (Or.inl ⟨by rfl, ?hy26⟩) (by assumption) ?rest26
            case hy26 => (intro w hSw; (try dsimp only at hSw); simp only [List.getElem_toArray, List.getElem_cons_zero, List.getElem_cons_succ]; go_simp; (try with_reducible rfl))
            (try simp only [Act.put, List.getElem_toArray, List.getElem_cons_zero, List.getElem_cons_succ, List.setIfInBounds_toArray, List.set_cons_zero, List.set_cons_succ])
            refine wpAnyH_take (i := 25) (v := ?v27) rfl (by kernel_rfl) (by kernel_rfl) (by kernel_rfl) (fun _ _ _ h => h) (Or.inl ⟨by rfl, ?hy27⟩) (by assumption) ?rest27
            case hy27 => (intro w hSw; (try dsimp only at hSw); simp only [List.getElem_toArray, List.getElem_cons_zero, List.getElem_cons_succ]; go_simp; (try with_reducible rfl))
            (try simp only [Act.put, List.getElem_toArray, List.getElem_cons_zero, List.getElem_cons_succ, List.setIfInBounds_toArray, List.set_cons_zero, List.set_cons_succ])
            refine wpAnyH_take (i := 26) (v := ?v28) rfl (by kernel_rfl) (by kernel_rfl) (by kernel_rfl) (fun _ _ _ h => h) (Or.inl ⟨by rfl, ?hy28⟩) (by assumption) ?rest28
            case hy28 => (intro w hSw; (try dsimp only at hSw); simp only [List.getElem_toArray, List.getElem_cons_zero, List.getElem_cons_succ]; go_simp; (try with_reducible rfl))
            (try simp only [Act.put, List.getElem_toArray, List.getElem_cons_zero, List.getElem_cons_succ, List.setIfInBounds_toArray, List.set_cons_zero, List.set_cons_succ])
            refine wpAnyH_take (i := 27) (v := ?v29) rfl (by kernel_rfl) (by kernel_rfl) (by kernel_rfl) (fun _ _ _ h => h) (Or.inl ⟨by rfl, ?hy29⟩) (by assumption) ?rest29
            case hy29 => (intro w hSw; (try dsimp only at hSw); simp only [List.getElem_toArray, List.getElem_cons_zero, List.getElem_cons_succ]; go_simp; (try with_reducible rfl))
            (try simp only [Act.put, List.getElem_toArray, List.getElem_cons_zero, List.getElem_cons_succ, List.setIfInBounds_toArray, List.set_cons_zero, List.set_cons_succ])
            refine wpAnyH_ready (rs := [28]) (by kernel_rfl) (by simp) ?_
            refine AllReadyH.cons rfl (fun KK hK => ?_) AllReadyH.nil
            simp only [List.getElem_toArray, List.getElem_cons_zero, List.getElem_cons_succ]
            go_simp
            refine (poke_far fR (b := _) ?hbb28 x).mono ?_
            case hbb28 => (unfold inB; simp; omega)
            rintro e V3 ⟨rfl, fR3, o1⟩
            have OV3 : Out lo hi wr V3 := OV2.trans o1
            clear fR OV2
            refine hK.out _ _ ?hS30 (fun hHeld2 => ?rest30)
            case hS30 => exact ⟨o1.cell hHeld.1 (.inl hb1.1), o1.cell hHeld.2 (.inl hb1.1)⟩
            clear o1
            clear hK KK
            (try clear hHeld)
            have hHeld := hHeld2
            clear hHeld2
            (try simp only [Act.put, List.getElem_toArray, List.getElem_cons_zero, List.getElem_cons_succ, List.setIfInBounds_toArray, List.set_cons_zero, List.set_cons_succ])
            refine wpAnyH_take (i := 29) (v := ?v31) rfl (by kernel_rfl) (by kernel_rfl) (by kernel_rfl) (fun _ _ _ h => h) (Or.inl ⟨by rfl, ?hy31⟩) (by assumption) ?rest31
            case hy31 => (intro w hSw; (try dsimp only at hSw); simp only [List.getElem_toArray, List.getElem_cons_zero, List.getElem_cons_succ]; go_simp; (try with_reducible rfl))
            (try simp only [Act.put, List.getElem_toArray, List.getElem_cons_zero, List.getElem_cons_succ, List.setIfInBounds_toArray, List.set_cons_zero, List.set_cons_succ])
            refine wpAnyH_take (i := 30) (v := ?v32) rfl (by kernel_rfl) (by kernel_rfl) (by kernel_rfl) (fun _ _ _ h => h) (Or.inl ⟨by rfl, ?hy32⟩) (by assumption) ?rest32
            case hy32 => (intro w hSw; (try dsimp only at hSw); simp only [List.getElem_toArray, List.getElem_cons_zero, List.getElem_cons_succ]; go_simp; (try with_reducible rfl))
            (try simp only [Act.put, List.getElem_toArray, List.getElem_cons_zero, List.getElem_cons_succ, List.setIfInBounds_toArray, List.set_cons_zero, List.set_cons_succ])
            refine wpAnyH_take (i := 31) (v := ?v33) rfl (by kernel_rfl) (by kernel_rfl) (by kernel_rfl) (fun _ _ _ h => h) (Or.inl ⟨by rfl, ?hy33⟩) (by assumption) ?rest33
            case hy33 => (intro w hSw; (try dsimp only at hSw); simp only [List.getElem_toArray, List.getElem_cons_zero, List.getElem_cons_succ]; go_simp; (try with_reducible rfl))
            (try simp only [Act.put, List.getElem_toArray, List.getElem_cons_zero, List.getElem_cons_succ, List.setIfInBounds_toArray, List.set_cons_zero, List.set_cons_succ])
            refine wpAnyH_take (i := 32) (v := ?v34) rfl (by kernel_rfl) (by kernel_rfl) (by kernel_rfl) (fun _ _ _ h => h) (Or.inl ⟨by rfl, ?hy34⟩) (by assumption) ?rest34
            case hy34 => (intro w hSw; (try dsimp only at hSw); simp only [List.getElem_toArray, List.getElem_cons_zero, List.getElem_cons_succ]; go_simp; (try with_reducible rfl))
            (try simp only [Act.put, List.getElem_toArray, List.getElem_cons_zero, List.getElem_cons_succ, List.setIfInBounds_toArray, List.set_cons_zero, List.set_cons_succ])
            refine wpAnyH_take (i := 33) (v := ?v35) rfl (by kernel_rfl) (by kernel_rfl) (by kernel_rfl) (fun _ _ _ h => h) (Or.inl ⟨by rfl, ?hy35⟩) (by assumption) ?rest35
            case hy35 => (intro w hSw; (try dsimp only at hSw); simp only [List.getElem_toArray, List.getElem_cons_zero, List.getElem_cons_succ]; go_simp; (try with_reducible rfl))
            (try simp only [Act.put, List.getElem_toArray, List.getElem_cons_zero, List.getElem_cons_succ, List.setIfInBounds_toArray, List.set_cons_zero, List.set_cons_succ])
            refine wpAnyH_take (i := 34) (v := ?v36) rfl (by kernel_rfl) (by kernel_rfl) (by kernel_rfl) (fun _ _ _ h => h) (Or.inl ⟨by rfl, ?hy36⟩) (by assumption) ?rest36
            case hy36 => (intro w hSw; (try dsimp only at hSw); simp only [List.getElem_toArray, List.getElem_cons_zero, List.getElem_cons_succ]; go_simp; (try with_reducible rfl))
            (try simp only [Act.put, List.getElem_toArray, List.getElem_cons_zero, List.getElem_cons_succ, List.setIfInBounds_toArray, List.set_cons_zero, List.set_cons_succ])
            refine wpAnyH_take (i := 35) (v := ?v37) rfl (by kernel_rfl) (by kernel_rfl) (by kernel_rfl) (fun _ _ _ h => h) (Or.inl ⟨by rfl, ?hy37⟩) (by assumption) ?rest37
            case hy37 => (intro w hSw; (try dsimp only at hSw); simp only [List.getElem_toArray, List.getElem_cons_zero, List.getElem_cons_succ]; go_simp; (try with_reducible rfl))
            (try simp only [Act.put, List.getElem_toArray, List.getElem_cons_zero, List.getElem_cons_succ, List.setIfInBounds_toArray, List.set_cons_zero, List.set_cons_succ])
            refine wpAnyH_take (i := 36) (v := ?v38) rfl (by kernel_rfl) (by kernel_rfl) (by kernel_rfl) (fun _ _ _ h => h) (Or.inl ⟨by rfl, ?hy38⟩) (by assumption) ?rest38
            case hy38 => (intro w hSw; (try dsimp only at hSw); simp only [List.getElem_toArray, List.getElem_cons_zero, List.getElem_cons_succ]; go_simp; (try with_reducible rfl))
            (try simp only [Act.put, List.getElem_toArray, List.getElem_cons_zero, List.getElem_cons_succ, List.setIfInBounds_toArray, List.set_cons_zero, List.set_cons_succ])
            refine wpAnyH_take (i := 37) (v := ?v39) rfl (by kernel_rfl) (by kernel_rfl) (by kernel_rfl) (fun _ _ _ h => h) (Or.inl ⟨by rfl, ?hy39⟩) (by assumption) ?rest39
            case hy39 => (intro w hSw; (try dsimp only at hSw); simp only [List.getElem_toArray, List.getElem_cons_zero, List.getElem_cons_succ]; go_simp; (try with_reducible rfl))
            (try simp only [Act.put, List.getElem_toArray, List.getElem_cons_zero, List.getElem_cons_succ, List.setIfInBounds_toArray, List.set_cons_zero, List.set_cons_succ])
            refine wpAnyH_take (i := 38) (v := ?v40) rfl (by kernel_rfl) (by kernel_rfl) (by kernel_rfl) (fun _ _ _ h => h) (Or.inl ⟨by rfl, ?hy40⟩) (by assumption) ?rest40
            case hy40 => (intro w hSw; (try dsimp only at hSw); simp only [List.getElem_toArray, List.getElem_cons_zero, List.getElem_cons_succ]; go_simp; (try with_reducible rfl))
            (try simp only [Act.put, List.getElem_toArray, List.getElem_cons_zero, List.getElem_cons_succ, List.setIfInBounds_toArray, List.set_cons_zero, List.set_cons_succ])
            refine wpAnyH_take (i := 39) (v := ?v41) rfl (by kernel_rfl) (by kernel_rfl) (by kernel_rfl) (fun _ _ _ h => h) (Or.inl ⟨by rfl, ?hy41⟩) (by assumption) ?rest41
            case hy41 => (intro w hSw; (try dsimp only at hSw); simp only [List.getElem_toArray, List.getElem_cons_zero, List.getElem_cons_succ]; go_simp; (try with_reducible rfl))
            (try simp only [Act.put, List.getElem_toArray, List.getElem_cons_zero, List.getElem_cons_succ, List.setIfInBounds_toArray, List.set_cons_zero, List.set_cons_succ])
            refine wpAnyH_take (i := 40) (v := ?v42) rfl (by kernel_rfl) (by kernel_rfl) (by kernel_rfl) (fun _ _ _ h => h) (Or.inl ⟨by rfl, ?hy42⟩) (by assumption) ?rest42
            case hy42 => (intro w hSw; (try dsimp only at hSw); simp only [List.getElem_toArray, List.getElem_cons_zero, List.getElem_cons_succ]; go_simp; (try with_reducible rfl))
            (try simp only [Act.put, List.getElem_toArray, List.getElem_cons_zero, List.getElem_cons_succ, List.setIfInBounds_toArray, List.set_cons_zero, List.set_cons_succ])
            refine wpAnyH_take (i := 41) (v := ?v43) rfl (by kernel_rfl) (by kernel_rfl) (by kernel_rfl) (fun _ _ _ h => h) (Or.inl ⟨by rfl, ?hy43⟩) (by assumption) ?rest43
            case hy43 => (intro w hSw; (try dsimp only at hSw); simp only [List.getElem_toArray, List.getElem_cons_zero, List.getElem_cons_succ]; go_simp; (try with_reducible rfl))
            (try simp only [Act.put, List.getElem_toArray, List.getElem_cons_zero, List.getElem_cons_succ, List.setIfInBounds_toArray, List.set_cons_zero, List.set_cons_succ])
            refine wpAnyH_take (i := 42) (v := ?v44) rfl (by kernel_rfl) (by kernel_rfl) (by kernel_rfl) (fun _ _ _ h => h) (Or.inl ⟨by rfl, ?hy44⟩) (by assumption) ?rest44
            case hy44 => (intro w hSw; (try dsimp only at hSw); simp only [List.getElem_toArray, List.getElem_cons_zero, List.getElem_cons_succ]; go_simp; (try with_reducible rfl))
            (try simp only [Act.put, List.getElem_toArray, List.getElem_cons_zero, List.getElem_cons_succ, List.setIfInBounds_toArray, List.set_cons_zero, List.set_cons_succ])
            refine wpAnyH_ready (rs := [43]) (by kernel_rfl) (by simp) ?_
            refine AllReadyH.cons rfl (fun KK hK => ?_) AllReadyH.nil
            simp only [List.getElem_toArray, List.getElem_cons_zero, List.getElem_cons_succ]
            go_simp
            refine (poke_far fR3 (b := _) ?hbb43 x).mono ?_
            case hbb43 => (unfold inB; simp; omega)
            rintro e V4 ⟨rfl, fR4, o1⟩
            have OV4 : Out lo hi wr V4 := OV3.trans o1
            clear fR3 OV3
            refine hK.out _ _ ?hS45 (fun hHeld2 => ?rest45)
            case hS45 => exact ⟨o1.cell hHeld.1 (.inl hb1.1), o1.cell hHeld.2 (.inl hb1.1)⟩
            clear o1
            clear hK KK
            (try clear hHeld)
            have hHeld := hHeld2
            clear hHeld2
            (try simp only [Act.put, List.getElem_toArray, List.getElem_cons_zero, List.getElem_cons_succ, List.setIfInBounds_toArray, List.set_cons_zero, List.set_cons_succ])
            refine wpAnyH_take (i := 44) (v := ?v46) rfl (by kernel_rfl) (by kernel_rfl) (by kernel_rfl) (fun _ _ _ h => h) (Or.inl ⟨by rfl, ?hy46⟩) (by assumption) ?rest46
            case hy46 => (intro w hSw; (try dsimp only at hSw); simp only [List.getElem_toArray, List.getElem_cons_zero, List.getElem_cons_succ]; go_simp; (try with_reducible rfl))
            (try simp only [Act.put, List.getElem_toArray, List.getElem_cons_zero, List.getElem_cons_succ, List.setIfInBounds_toArray, List.set_cons_zero, List.set_cons_succ])
            refine wpAnyH_done (by kernel_rfl) ?_ _
            clear hHeld
            have HR4 := hid_mk fR4
            have HO4' := hid_mk OV4
            clear fR4 OV4 OZ9 c0 c1
            have c1 := ((HC.out.kept HO7.out (.inr (Nat.zero_le _))).kept HO4'.out (.inl hb1.1)).cells.2.1
            have HC4 := hid_mk ((HC.out.kept HO7.out (.inr (Nat.zero_le _))).kept HO4'.out (.inl hb1.1))
            clear hwa hwM hwb
            rcases HCk.out with ⟨hb0, hE, hA, hI2⟩ | ⟨hb0, hxo, hE, hA, hI2⟩ | ⟨hb0, hxo, hE, hA⟩
            · subst hb0
              replace hI2 := hI2 1
              cases tt with
              | false =>
                have hwv := HWn.out
                rw [if_neg (by simp)] at hwv
                clear HCk HWn
                have HW1 := hid_mk hwv
                clear hwv
                have HCc := hid_mk (check_any HR4.out (turn_in HI.out.1 a x) (a : Int))
                rw [hE, hA] at HCc
                unfold fltV at HCc
                have HRd := hid_mk (fun w' (o : Out 0 0 V4 w') => read_any (HR4.out.quiet o) (turn_in HI.out.1 a x) (a : Int) 1)
                obtain ⟨rv, hrv⟩ : ∃ rv, rdV (turnR N st a x) (a : Int) 1 = rv := ⟨_, rfl⟩
                rw [hI2] at HRd
                clear hI2
                rw [hrv, hA] at HRd
                clear hrv hE hA
                go_wp2_with fail
                refine HCc.out.mono ?_
                rintro e w12 ⟨rfl, ho12⟩
                have oA : Out 0 0 w12 (w12.alloc (.cells #[.int .i64 22, .int .i64 0] 57)) := (Out.refl 0 0 w12).alloc _
                clear c1
                have c1 := (HC4.out.kept (ho12.trans oA) (.inr (Nat.zero_le _))).cells.2.1
                have HO12 := hid_mk ho12
                clear oA ho12 HCc
                go_wp2_with fail
                obtain ⟨W13, hW13⟩ : ∃ W, w12.alloc (.cells #[.int .i64 22, .int .i64 0] 57) = W := ⟨_, rfl⟩
                obtain ⟨F1, hF1⟩ : ∃ F, w12.heap.size = F := ⟨_, rfl⟩
                have o13 : Out 0 0 w12 W13 := by rw [← hW13]; exact (Out.refl 0 0 w12).alloc _
                have f1 : W13.heap[F1]? = some (.cells #[.int .i64 22, .int .i64 0] 57 (0, 0)) := by rw [← hW13, ← hF1]; exact heap_alloc_new _ _
                have HO13 := hid_mk (HO12.out.trans o13)
                have HF1 := hid_mk f1
                rw [hW13]
                (try rw [hF1])
                clear hW13 hF1 c1 o13 f1
                refine (HRd.out _ HO13.out).mono ?_
                rintro e w14 ⟨rfl, ho14⟩
                have HO14 := hid_mk (HO13.out.trans ho14)
                have oB : Out 0 0 w14 (w14.alloc (.cells #[.int .i64 22, .int .i64 0] 57)) := (Out.refl 0 0 w14).alloc _
                have hf1 := (ho14.trans oB).heap HF1.out (.inr (Nat.zero_le _))
                have f10 : (w14.alloc (.cells #[.int .i64 22, .int .i64 0] 57)).cell? ⟨F1, 0, none⟩ = some (.int .i64 22) := by simp [World.cell?, hf1]
                have f11 : (w14.alloc (.cells #[.int .i64 22, .int .i64 0] 57)).cell? ⟨F1, 1, none⟩ = some (.int .i64 0) := by simp [World.cell?, hf1]
                have c1 := (HC4.out.kept (HO14.out.trans oB) (.inr (Nat.zero_le _))).cells.2.1
                have HW2 := hid_mk (wrong_is (HR4.out.quiet (HO14.out.trans oB)) (turn_told a x) HW1.out)
                have HO15 := hid_mk (HO14.out.trans oB)
                clear ho14 oB hf1 HRd
                go_wp2_with fail
                refine HW2.out.mono ?_
                rintro e w16 ⟨rfl, ho16⟩
                have o16 := HO15.out.trans ho16
                clear c1 f10 f11
                have c1 := (HC4.out.kept o16 (.inr (Nat.zero_le _))).cells.2.1
                have hpb := poke_back (HR4.out.quiet o16) HTa.out.2
                rw [HOd.out] at hpb
                have HPb := hid_mk hpb
                have HO16 := hid_mk (HO4'.out.trans (o16.any _ _))
                clear hpb ho16 o16 HW2
                go_wp2_with fail
                refine HPb.out.mono ?_
                rintro e w17 ⟨rfl, hr17, ho17⟩
                have o17 := HO16.out.trans ho17
                clear c1
                have c1 := ((HC.out.kept HO7.out (.inr (Nat.zero_le _))).kept o17 (.inl hb1.1)).cells.2.1
                have HW3 := hid_mk (wrong_is hr17 (told_of st) (wrong_none HI.out.1 HI.out.2.1))
                have HO17 := hid_mk o17
                clear hr17 ho17 o17 HPb
                go_wp2_with fail
                refine HW3.out.mono ?_
                rintro e w18 ⟨rfl, ho18⟩
                have HO18 := hid_mk ho18
                clear ho18 c1 HW3
                go_wp2
                go_ret
                have hq := HQ.out
                exact ⟨rfl, (((HO4.out.trans HO7.out).past HO17.out (by omega))).trans HO18.out⟩
              | true =>
                by_cases hxo : x = od
                · have hwv := HWn.out
                  rw [if_neg (by simp [hxo])] at hwv
                  clear HCk HWn
                  have HW1 := hid_mk hwv
                  clear hwv
                  have HCc := hid_mk (check_any HR4.out (turn_in HI.out.1 a x) (a : Int))
                  rw [hE, hA] at HCc
                  unfold fltV at HCc
                  have HRd := hid_mk (fun w' (o : Out 0 0 V4 w') => read_any (HR4.out.quiet o) (turn_in HI.out.1 a x) (a : Int) 1)
                  obtain ⟨rv, hrv⟩ : ∃ rv, rdV (turnR N st a x) (a : Int) 1 = rv := ⟨_, rfl⟩
                  rw [hI2] at HRd
                  clear hI2
                  rw [hrv, hA] at HRd
                  clear hrv hE hA
                  go_wp2_with fail
                  refine HCc.out.mono ?_
                  rintro e w12 ⟨rfl, ho12⟩
                  have oA : Out 0 0 w12 (w12.alloc (.cells #[.int .i64 22, .int .i64 0] 57)) := (Out.refl 0 0 w12).alloc _
                  clear c1
                  have c1 := (HC4.out.kept (ho12.trans oA) (.inr (Nat.zero_le _))).cells.2.1
                  have HO12 := hid_mk ho12
                  clear oA ho12 HCc
                  go_wp2_with fail
                  obtain ⟨W13, hW13⟩ : ∃ W, w12.alloc (.cells #[.int .i64 22, .int .i64 0] 57) = W := ⟨_, rfl⟩
                  obtain ⟨F1, hF1⟩ : ∃ F, w12.heap.size = F := ⟨_, rfl⟩
                  have o13 : Out 0 0 w12 W13 := by rw [← hW13]; exact (Out.refl 0 0 w12).alloc _
                  have f1 : W13.heap[F1]? = some (.cells #[.int .i64 22, .int .i64 0] 57 (0, 0)) := by rw [← hW13, ← hF1]; exact heap_alloc_new _ _
                  have HO13 := hid_mk (HO12.out.trans o13)
                  have HF1 := hid_mk f1
                  rw [hW13]
                  (try rw [hF1])
                  clear hW13 hF1 c1 o13 f1
                  refine (HRd.out _ HO13.out).mono ?_
                  rintro e w14 ⟨rfl, ho14⟩
                  have HO14 := hid_mk (HO13.out.trans ho14)
                  have oB : Out 0 0 w14 (w14.alloc (.cells #[.int .i64 22, .int .i64 0] 57)) := (Out.refl 0 0 w14).alloc _
                  have hf1 := (ho14.trans oB).heap HF1.out (.inr (Nat.zero_le _))
                  have f10 : (w14.alloc (.cells #[.int .i64 22, .int .i64 0] 57)).cell? ⟨F1, 0, none⟩ = some (.int .i64 22) := by simp [World.cell?, hf1]
                  have f11 : (w14.alloc (.cells #[.int .i64 22, .int .i64 0] 57)).cell? ⟨F1, 1, none⟩ = some (.int .i64 0) := by simp [World.cell?, hf1]
                  have c1 := (HC4.out.kept (HO14.out.trans oB) (.inr (Nat.zero_le _))).cells.2.1
                  have HW2 := hid_mk (wrong_is (HR4.out.quiet (HO14.out.trans oB)) (turn_told a x) HW1.out)
                  have HO15 := hid_mk (HO14.out.trans oB)
                  clear ho14 oB hf1 HRd
                  go_wp2_with fail
                  refine HW2.out.mono ?_
                  rintro e w16 ⟨rfl, ho16⟩
                  have o16 := HO15.out.trans ho16
                  clear c1 f10 f11
                  have c1 := (HC4.out.kept o16 (.inr (Nat.zero_le _))).cells.2.1
                  have hpb := poke_back (HR4.out.quiet o16) HTa.out.2
                  rw [HOd.out] at hpb
                  have HPb := hid_mk hpb
                  have HO16 := hid_mk (HO4'.out.trans (o16.any _ _))
                  clear hpb ho16 o16 HW2
                  go_wp2_with fail
                  refine HPb.out.mono ?_
                  rintro e w17 ⟨rfl, hr17, ho17⟩
                  have o17 := HO16.out.trans ho17
                  clear c1
                  have c1 := ((HC.out.kept HO7.out (.inr (Nat.zero_le _))).kept o17 (.inl hb1.1)).cells.2.1
                  have HW3 := hid_mk (wrong_is hr17 (told_of st) (wrong_none HI.out.1 HI.out.2.1))
                  have HO17 := hid_mk o17
                  clear hr17 ho17 o17 HPb
                  go_wp2_with fail
                  refine HW3.out.mono ?_
                  rintro e w18 ⟨rfl, ho18⟩
                  have HO18 := hid_mk ho18
                  clear ho18 c1 HW3
                  go_wp2
                  go_ret
                  have hq := HQ.out
                  exact ⟨rfl, (((HO4.out.trans HO7.out).past HO17.out (by omega))).trans HO18.out⟩
                · have hwv := HWn.out
                  rw [if_pos ⟨rfl, hxo⟩] at hwv
                  clear HCk HWn
                  have HW1 := hid_mk hwv
                  clear hwv
                  have HCc := hid_mk (check_any HR4.out (turn_in HI.out.1 a x) (a : Int))
                  rw [hE, hA] at HCc
                  unfold fltV at HCc
                  have HRd := hid_mk (fun w' (o : Out 0 0 V4 w') => read_any (HR4.out.quiet o) (turn_in HI.out.1 a x) (a : Int) 1)
                  obtain ⟨rv, hrv⟩ : ∃ rv, rdV (turnR N st a x) (a : Int) 1 = rv := ⟨_, rfl⟩
                  rw [hI2] at HRd
                  clear hI2
                  rw [hrv, hA] at HRd
                  clear hrv hE hA
                  go_wp2_with fail
                  refine HCc.out.mono ?_
                  rintro e w12 ⟨rfl, ho12⟩
                  have oA : Out 0 0 w12 (w12.alloc (.cells #[.int .i64 22, .int .i64 0] 57)) := (Out.refl 0 0 w12).alloc _
                  clear c1
                  have c1 := (HC4.out.kept (ho12.trans oA) (.inr (Nat.zero_le _))).cells.2.1
                  have HO12 := hid_mk ho12
                  clear oA ho12 HCc
                  go_wp2_with fail
                  obtain ⟨W13, hW13⟩ : ∃ W, w12.alloc (.cells #[.int .i64 22, .int .i64 0] 57) = W := ⟨_, rfl⟩
                  obtain ⟨F1, hF1⟩ : ∃ F, w12.heap.size = F := ⟨_, rfl⟩
                  have o13 : Out 0 0 w12 W13 := by rw [← hW13]; exact (Out.refl 0 0 w12).alloc _
                  have f1 : W13.heap[F1]? = some (.cells #[.int .i64 22, .int .i64 0] 57 (0, 0)) := by rw [← hW13, ← hF1]; exact heap_alloc_new _ _
                  have HO13 := hid_mk (HO12.out.trans o13)
                  have HF1 := hid_mk f1
                  rw [hW13]
                  (try rw [hF1])
                  clear hW13 hF1 c1 o13 f1
                  refine (HRd.out _ HO13.out).mono ?_
                  rintro e w14 ⟨rfl, ho14⟩
                  have HO14 := hid_mk (HO13.out.trans ho14)
                  have oB : Out 0 0 w14 (w14.alloc (.cells #[.int .i64 22, .int .i64 0] 57)) := (Out.refl 0 0 w14).alloc _
                  have hf1 := (ho14.trans oB).heap HF1.out (.inr (Nat.zero_le _))
                  have f10 : (w14.alloc (.cells #[.int .i64 22, .int .i64 0] 57)).cell? ⟨F1, 0, none⟩ = some (.int .i64 22) := by simp [World.cell?, hf1]
                  have f11 : (w14.alloc (.cells #[.int .i64 22, .int .i64 0] 57)).cell? ⟨F1, 1, none⟩ = some (.int .i64 0) := by simp [World.cell?, hf1]
                  have c1 := (HC4.out.kept (HO14.out.trans oB) (.inr (Nat.zero_le _))).cells.2.1
                  have HW2 := hid_mk (wrong_is (HR4.out.quiet (HO14.out.trans oB)) (turn_told a x) HW1.out)
                  have HO15 := hid_mk (HO14.out.trans oB)
                  clear ho14 oB hf1 HRd
                  go_wp2_with fail
                  refine HW2.out.mono ?_
                  rintro e w16 ⟨rfl, ho16⟩
                  have o16 := HO15.out.trans ho16
                  clear c1 f10 f11
                  have c1 := (HC4.out.kept o16 (.inr (Nat.zero_le _))).cells.2.1
                  have hpb := poke_back (HR4.out.quiet o16) HTa.out.2
                  rw [HOd.out] at hpb
                  have HPb := hid_mk hpb
                  have HO16 := hid_mk (HO4'.out.trans (o16.any _ _))
                  clear hpb ho16 o16 HW2
                  go_wp2_with fail
                  refine HPb.out.mono ?_
                  rintro e w17 ⟨rfl, hr17, ho17⟩
                  have o17 := HO16.out.trans ho17
                  clear c1
                  have c1 := ((HC.out.kept HO7.out (.inr (Nat.zero_le _))).kept o17 (.inl hb1.1)).cells.2.1
                  have HW3 := hid_mk (wrong_is hr17 (told_of st) (wrong_none HI.out.1 HI.out.2.1))
                  have HO17 := hid_mk o17
                  clear hr17 ho17 o17 HPb
                  go_wp2_with fail
                  refine HW3.out.mono ?_
                  rintro e w18 ⟨rfl, ho18⟩
                  have HO18 := hid_mk ho18
                  clear ho18 c1 HW3
                  go_wp2
                  go_ret
                  have hq := HQ.out
                  exact ⟨rfl, (((HO4.out.trans HO7.out).past HO17.out (by omega))).trans HO18.out⟩
            · subst hb0
              replace hI2 := hI2 1
              have ht1 : tt = true := by rw [← HTt.out]; rfl
              subst ht1
              have hwv := HWn.out
              rw [if_pos ⟨rfl, hxo⟩] at hwv
              clear HCk HWn
              have HW1 := hid_mk hwv
              clear hwv
              have HCc := hid_mk (check_any HR4.out (turn_in HI.out.1 a x) (a : Int))
              rw [hE, hA] at HCc
              unfold fltV at HCc
              have HRd := hid_mk (fun w' (o : Out 0 0 V4 w') => read_any (HR4.out.quiet o) (turn_in HI.out.1 a x) (a : Int) 1)
              obtain ⟨rv, hrv⟩ : ∃ rv, rdV (turnR N st a x) (a : Int) 1 = rv := ⟨_, rfl⟩
              rw [hI2] at HRd
              clear hI2
              rw [hrv, hA] at HRd
              clear hrv hE hA
              go_wp2_with fail
              refine HCc.out.mono ?_
              rintro e w12 ⟨rfl, ho12⟩
              have oA : Out 0 0 w12 (w12.alloc (.cells #[.int .i64 21, .int .i64 (a : Int)] 57)) := (Out.refl 0 0 w12).alloc _
              clear c1
              have c1 := (HC4.out.kept (ho12.trans oA) (.inr (Nat.zero_le _))).cells.2.1
              have HO12 := hid_mk ho12
              clear oA ho12 HCc
              go_wp2_with fail
              obtain ⟨W13, hW13⟩ : ∃ W, w12.alloc (.cells #[.int .i64 21, .int .i64 (a : Int)] 57) = W := ⟨_, rfl⟩
              obtain ⟨F1, hF1⟩ : ∃ F, w12.heap.size = F := ⟨_, rfl⟩
              have o13 : Out 0 0 w12 W13 := by rw [← hW13]; exact (Out.refl 0 0 w12).alloc _
              have f1 : W13.heap[F1]? = some (.cells #[.int .i64 21, .int .i64 (a : Int)] 57 (0, 0)) := by rw [← hW13, ← hF1]; exact heap_alloc_new _ _
              have HO13 := hid_mk (HO12.out.trans o13)
              have HF1 := hid_mk f1
              rw [hW13]
              (try rw [hF1])
              clear hW13 hF1 c1 o13 f1
              refine (HRd.out _ HO13.out).mono ?_
              rintro e w14 ⟨rfl, ho14⟩
              have HO14 := hid_mk (HO13.out.trans ho14)
              have oB : Out 0 0 w14 (w14.alloc (.cells #[.int .i64 21, .int .i64 (a : Int)] 57)) := (Out.refl 0 0 w14).alloc _
              have hf1 := (ho14.trans oB).heap HF1.out (.inr (Nat.zero_le _))
              have f10 : (w14.alloc (.cells #[.int .i64 21, .int .i64 (a : Int)] 57)).cell? ⟨F1, 0, none⟩ = some (.int .i64 21) := by simp [World.cell?, hf1]
              have f11 : (w14.alloc (.cells #[.int .i64 21, .int .i64 (a : Int)] 57)).cell? ⟨F1, 1, none⟩ = some (.int .i64 (a : Int)) := by simp [World.cell?, hf1]
              have c1 := (HC4.out.kept (HO14.out.trans oB) (.inr (Nat.zero_le _))).cells.2.1
              have HW2 := hid_mk (wrong_is (HR4.out.quiet (HO14.out.trans oB)) (turn_told a x) HW1.out)
              have HO15 := hid_mk (HO14.out.trans oB)
              clear ho14 oB hf1 HRd
              go_wp2_with fail
              refine HW2.out.mono ?_
              rintro e w16 ⟨rfl, ho16⟩
              have o16 := HO15.out.trans ho16
              clear c1 f10 f11
              have c1 := (HC4.out.kept o16 (.inr (Nat.zero_le _))).cells.2.1
              have hpb := poke_back (HR4.out.quiet o16) HTa.out.2
              rw [HOd.out] at hpb
              have HPb := hid_mk hpb
              have HO16 := hid_mk (HO4'.out.trans (o16.any _ _))
              clear hpb ho16 o16 HW2
              go_wp2_with fail
              refine HPb.out.mono ?_
              rintro e w17 ⟨rfl, hr17, ho17⟩
              have o17 := HO16.out.trans ho17
              clear c1
              have c1 := ((HC.out.kept HO7.out (.inr (Nat.zero_le _))).kept o17 (.inl hb1.1)).cells.2.1
              have HW3 := hid_mk (wrong_is hr17 (told_of st) (wrong_none HI.out.1 HI.out.2.1))
              have HO17 := hid_mk o17
              clear hr17 ho17 o17 HPb
              go_wp2_with fail
              refine HW3.out.mono ?_
              rintro e w18 ⟨rfl, ho18⟩
              have HO18 := hid_mk ho18
              clear ho18 c1 HW3
              go_wp2
              go_ret
              have hq := HQ.out
              exact ⟨rfl, (((HO4.out.trans HO7.out).past HO17.out (by omega))).trans HO18.out⟩
            · subst hb0
              have ht1 : tt = true := by rw [← HTt.out]; rfl
              subst ht1
              have hwv := HWn.out
              rw [if_neg (by simp [hxo])] at hwv
              clear HCk HWn
              have HW1 := hid_mk hwv
              clear hwv
              have HCc := hid_mk (check_any HR4.out (turn_in HI.out.1 a x) (a : Int))
              rw [hE, hA] at HCc
              unfold fltV at HCc
              have HRd := hid_mk (fun w' (o : Out 0 0 V4 w') => read_any (HR4.out.quiet o) (turn_in HI.out.1 a x) (a : Int) 1)
              obtain ⟨rv, hrv⟩ : ∃ rv, rdV (turnR N st a x) (a : Int) 1 = rv := ⟨_, rfl⟩
              obtain ⟨e3, he3⟩ : ∃ e3, wrdE (turnR N st a x) (a : Int) 1 = e3 := ⟨_, rfl⟩
              rw [he3] at HRd
              clear he3
              rw [hrv, hA] at HRd
              clear hrv hE hA
              go_wp2_with fail
              refine HCc.out.mono ?_
              rintro e w12 ⟨rfl, ho12⟩
              have oA : Out 0 0 w12 (w12.alloc (.cells #[.int .i64 0, .int .i64 0] 57)) := (Out.refl 0 0 w12).alloc _
              clear c1
              have c1 := (HC4.out.kept (ho12.trans oA) (.inr (Nat.zero_le _))).cells.2.1
              have HO12 := hid_mk ho12
              clear oA ho12 HCc
              go_wp2_with fail
              obtain ⟨W13, hW13⟩ : ∃ W, w12.alloc (.cells #[.int .i64 0, .int .i64 0] 57) = W := ⟨_, rfl⟩
              obtain ⟨F1, hF1⟩ : ∃ F, w12.heap.size = F := ⟨_, rfl⟩
              have o13 : Out 0 0 w12 W13 := by rw [← hW13]; exact (Out.refl 0 0 w12).alloc _
              have f1 : W13.heap[F1]? = some (.cells #[.int .i64 0, .int .i64 0] 57 (0, 0)) := by rw [← hW13, ← hF1]; exact heap_alloc_new _ _
              have HO13 := hid_mk (HO12.out.trans o13)
              have HF1 := hid_mk f1
              rw [hW13]
              (try rw [hF1])
              clear hW13 hF1 c1 o13 f1
              refine (HRd.out _ HO13.out).mono ?_
              rintro e w14 ⟨rfl, ho14⟩
              have HO14 := hid_mk (HO13.out.trans ho14)
              have oB : Out 0 0 w14 (w14.alloc (.cells #[.int .i64 e3, .int .i64 0] 57)) := (Out.refl 0 0 w14).alloc _
              have hf1 := (ho14.trans oB).heap HF1.out (.inr (Nat.zero_le _))
              have f10 : (w14.alloc (.cells #[.int .i64 e3, .int .i64 0] 57)).cell? ⟨F1, 0, none⟩ = some (.int .i64 0) := by simp [World.cell?, hf1]
              have f11 : (w14.alloc (.cells #[.int .i64 e3, .int .i64 0] 57)).cell? ⟨F1, 1, none⟩ = some (.int .i64 0) := by simp [World.cell?, hf1]
              have c1 := (HC4.out.kept (HO14.out.trans oB) (.inr (Nat.zero_le _))).cells.2.1
              have HW2 := hid_mk (wrong_is (HR4.out.quiet (HO14.out.trans oB)) (turn_told a x) HW1.out)
              have HO15 := hid_mk (HO14.out.trans oB)
              clear ho14 oB hf1 HRd
              go_wp2_with fail
              refine HW2.out.mono ?_
              rintro e w16 ⟨rfl, ho16⟩
              have o16 := HO15.out.trans ho16
              clear c1 f10 f11
              have c1 := (HC4.out.kept o16 (.inr (Nat.zero_le _))).cells.2.1
              have hpb := poke_back (HR4.out.quiet o16) HTa.out.2
              rw [HOd.out] at hpb
              have HPb := hid_mk hpb
              have HO16 := hid_mk (HO4'.out.trans (o16.any _ _))
              clear hpb ho16 o16 HW2
              go_wp2_with fail
              refine HPb.out.mono ?_
              rintro e w17 ⟨rfl, hr17, ho17⟩
              have o17 := HO16.out.trans ho17
              clear c1
              have c1 := ((HC.out.kept HO7.out (.inr (Nat.zero_le _))).kept o17 (.inl hb1.1)).cells.2.1
              have HW3 := hid_mk (wrong_is hr17 (told_of st) (wrong_none HI.out.1 HI.out.2.1))
              have HO17 := hid_mk o17
              clear hr17 ho17 o17 HPb
              go_wp2_with fail
              refine HW3.out.mono ?_
              rintro e w18 ⟨rfl, ho18⟩
              have HO18 := hid_mk ho18
              clear ho18 c1 HW3
              go_wp2
              go_ret
              have hq := HQ.out
              exact ⟨rfl, (((HO4.out.trans HO7.out).past HO17.out (by omega))).trans HO18.out⟩
end Go.Proofs.YtjbbkeoolodeaabDoor
