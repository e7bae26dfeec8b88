/- package code: a number is read, walked -/
import Derived.Test.YtkghabmgofgclaaDoorUs
namespace Go.Proofs.YtkghabmgofgclaaDoor
open Go.RowKit
set_option linter.unusedVariables false
set_option linter.unusedSimpArgs false

set_option maxRecDepth 100000 in
set_option maxHeartbeats 1000000 in
theorem rnum_any {w : World} {r B n cap : Nat} {ba : Option Addr} {bs : List Int} {a : Nat} (h : RD w r B ba n cap bs a) (lo hi : Nat) :
    Calls Tryd.prog 83 #[.pointer (some ⟨r, 0, none⟩), .int .i64 lo, .int .i64 hi] w fun e w' => Out r (r + 1) w w' ∧ ((∃ v c, numR lo hi bs a = .inr (v, c) ∧ e = .returned (.int .i64 (v : Int)) ∧ RD w' r B ba n cap bs c) ∨ ∃ x q, numR lo hi bs a = .inl (x, q) ∧ e = .panicked [stopP x (q : Int)]) := by
  have c1 := h.1.cell (i := 1) rfl
  have HR := hid_mk h
  have hlen : Hid (bs.length = n) := h.2.2.1
  have HS := hid_mk (size_any h)
  clear h
  by_cases hj : lead 9 (bs.drop a) < 9 ∧ lead 9 (bs.drop a) < n - a
  · have hrow : rowR bs a = _ := row_ok hj.1 (by rw [hlen.out]; exact hj.2)
    obtain ⟨k, hk⟩ : ∃ k, lead 9 (bs.drop a) + 1 = k := ⟨_, rfl⟩
    obtain ⟨row, hro⟩ : ∃ row, (bs.drop a).take k = row := ⟨_, rfl⟩
    rw [hk, hro] at hrow
    have hrl : row.length = k := by rw [← hro, List.length_take, List.length_drop, hlen.out]; omega
    have HRow := hid_mk hrow
    have HRl := hid_mk hrl
    have HK : Hid (1 ≤ k ∧ k ≤ 9 ∧ a + k ≤ n) := hid_mk (by omega)
    have HS1 : Hid (Calls Tryd.prog 98 #[.pointer (some ⟨r, 0, none⟩)] w fun e w' => Out 0 0 w w' ∧ e = .returned (.int .i64 (k : Int))) := hid_mk (HS.out.mono fun e w' ⟨ho, q⟩ => ⟨ho, by
      rcases q with ⟨_, q⟩ | ⟨q, _⟩
      · rw [q, hk]
      · exact absurd hj q⟩)
    have HT : Hid (∀ w2, Out 0 0 w w2 → Calls Tryd.prog 85 #[.pointer (some ⟨r, 0, none⟩), .int .i64 (k : Int)] w2 fun e w' => ∃ A' C', e = .returned (.slice A' k C') ∧ ByIn w' B A' row ∧ RD w' r B ba n cap bs (a + k) ∧ Out r (r + 1) w w') := hid_mk fun w2 o2 => (take_go (HR.out.out o2) k HK.out.2.2).mono fun e w' ⟨A', C', h1, _, h2, h3, h4⟩ => ⟨A', C', h1, hro ▸ h2, h3, (o2.any _ _).trans h4⟩
    clear hj hrow hk hro hrl
    go_enter Tryd.func83, Tryd.ntmps83
    go_wp2_with (first
      | (go_at_call 98; refine HS1.out.mono ?_; rintro e w2 ⟨ho2, rfl⟩)
      | (go_at_call 85; refine (HT.out _ ho2).mono ?_; rintro e w3 ⟨A', C', rfl, hin, hrd, ho3⟩))
    have HI := hid_mk hin
    have HRD := hid_mk hrd
    have HO := hid_mk ho3
    clear hin hrd ho3 ho2
    have hk9 : (k : Int) ≤ 9 := by have := HK.out; omega
    go_loopw [8, 23] (fun nv iv wr => ∃ i : Nat, iv = .int .i64 i ∧ i ≤ k ∧ nv = .int .i64 ((valN (row.take i) : Nat) : Int) ∧ wr = w3) (fun _ iv _ => k - (intOf iv).toNat)
    case atStart => exact ⟨0, rfl, Nat.zero_le _, rfl, rfl⟩
    case round =>
      obtain ⟨i, rfl, hik, rfl, rfl⟩ := hrel
      by_cases hgo : i < k
      · have g1 : (i : Int) < (k : Int) := by omega
        obtain ⟨b, hb⟩ : ∃ b, row[i]? = some b := ⟨_, List.getElem?_eq_getElem (by have := HRl.out; omega)⟩
        have HX := hid_mk hb
        have HB0 := hid_mk (HI.out.1 b (List.mem_of_getElem? hb))
        rcases HI.out.2 with h0 | ⟨g, off, rfl, hg, hc⟩
        · rw [h0] at hb; cases hb
        have d0 := hc i b hb
        have b0 := HB0.out.1
        have b1 := HB0.out.2
        clear hb hc hg
        have HV := hid_mk (or_val HI.out.1 HX.out (by omega))
        go_wp2
        go_roundw
        case rel => exact ⟨i + 1, by go_num, by omega, HV.out, trivial⟩
        case measure => simp [intOf]; omega
      · have hiE : i = k := by omega
        have g1 : ¬ ((i : Int) < (k : Int)) := by omega
        clear hgo hik
        subst hiE
        have hT : row.take i = row := take_all HRl.out
        rw [hT]
        clear hT
        obtain ⟨m, rfl⟩ : ∃ m, i = m + 1 := ⟨i - 1, by have := HK.out; omega⟩
        obtain ⟨b, hb⟩ : ∃ b, row[m]? = some b := ⟨_, List.getElem?_eq_getElem (by have := HRl.out; omega)⟩
        have HX := hid_mk hb
        have hlast : Hid (row.getLast? = some b) := hid_mk (by rw [List.getLast?_eq_getElem?, HRl.out]; exact hb)
        rcases HI.out.2 with h0 | ⟨g, off, rfl, hg, hc⟩
        · rw [h0] at hb; cases hb
        have d0 := hc m b hb
        clear hb hc hg
        obtain ⟨v, hv⟩ : ∃ v, valN row = v := ⟨_, rfl⟩
        rw [hv]
        have HV := hid_mk hv
        clear hv
        have HQ : Hid (∀ ok, okRow lo hi row = ok → True) := hid_mk fun _ _ => trivial
        by_cases hA : m = 0
        · subst hA
          by_cases hB : lo ≤ v ∧ v ≤ hi
          · have e1 : decide (lo ≤ v) = true := by simpa using hB.1
            have e2 : decide (v ≤ hi) = true := by simpa using hB.2
            have HOK : Hid (okRow lo hi row) := hid_mk ⟨.inl (by rw [HRl.out]), by rw [HV.out]; omega⟩
            clear hB
            go_wp2_with (go_at_call 40; refine calls_same (want_yes _ _ _) ?_)
            go_ret
            refine ⟨HO.out, .inl ⟨v, _, ?_, rfl, HRD.out⟩⟩
            unfold numR
            rw [bnd_ok (chk_ok HRow.out HOK.out), HV.out]; rfl
          · have HOK : Hid (¬ okRow lo hi row) := hid_mk fun q => hB (by have := q.2; rw [HV.out] at this; omega)
            have HE : Hid ((decide (lo ≤ v) && decide (v ≤ hi)) = false) := hid_mk (by simp; omega)
            clear hB
            rcases e1 : decide (lo ≤ v) with _ | _
            · go_wp2_with (go_at_call 40; refine want_any _ _ _ ?_ ?_ <;> intro hh <;> first | (exact absurd hh (by decide)) | clear hh)
              refine ⟨rfl, HO.out, .inr ⟨60, a, ?_, rfl⟩⟩
              unfold numR
              exact bnd_err (chk_no HRow.out HOK.out)
            · have e2 : decide (v ≤ hi) = false := by have := HE.out; rw [e1] at this; simpa using this
              go_wp2_with (go_at_call 40; refine want_any _ _ _ ?_ ?_ <;> intro hh <;> first | (exact absurd hh (by decide)) | clear hh)
              refine ⟨rfl, HO.out, .inr ⟨60, a, ?_, rfl⟩⟩
              unfold numR
              exact bnd_err (chk_no HRow.out HOK.out)
        · have hm0 : ((m : Int) == 0) = false := by simp; omega
          have hmk : (m : Int) + 1 ≤ 9 := by have := HK.out; omega
          by_cases hb0 : b = 0
          · have hbn : (b != 0) = false := by simp [hb0]
            have HOK : Hid (¬ okRow lo hi row) := hid_mk fun q => by
              rcases q.1 with q | q
              · rw [HRl.out] at q; omega
              · rw [hlast.out, hb0] at q; exact q rfl
            clear hb0 hA
            go_wp2_with (go_at_call 40; refine want_any _ _ _ ?_ ?_ <;> intro hh <;> first | (exact absurd hh (by decide)) | clear hh)
            refine ⟨rfl, HO.out, .inr ⟨60, a, ?_, rfl⟩⟩
            unfold numR
            exact bnd_err (chk_no HRow.out HOK.out)
          · have hbn : (b != 0) = true := by simpa using hb0
            have HB0 := hid_mk hb0
            clear hb0 hA
            by_cases hB : lo ≤ v ∧ v ≤ hi
            · have e1 : decide (lo ≤ v) = true := by simpa using hB.1
              have e2 : decide (v ≤ hi) = true := by simpa using hB.2
              have HOK : Hid (okRow lo hi row) := hid_mk ⟨.inr (by rw [hlast.out]; intro q; exact HB0.out (Option.some.inj q)), by rw [HV.out]; omega⟩
              clear hB
              go_wp2_with (go_at_call 40; refine calls_same (want_yes _ _ _) ?_)
              go_ret
              refine ⟨HO.out, .inl ⟨v, _, ?_, rfl, HRD.out⟩⟩
              unfold numR
              rw [bnd_ok (chk_ok HRow.out HOK.out), HV.out]; rfl
            · have HOK : Hid (¬ okRow lo hi row) := hid_mk fun q => hB (by have := q.2; rw [HV.out] at this; omega)
              have HE : Hid ((decide (lo ≤ v) && decide (v ≤ hi)) = false) := hid_mk (by simp; omega)
              clear hB
              rcases e1 : decide (lo ≤ v) with _ | _
              · go_wp2_with (go_at_call 40; refine want_any _ _ _ ?_ ?_ <;> intro hh <;> first | (exact absurd hh (by decide)) | clear hh)
                refine ⟨rfl, HO.out, .inr ⟨60, a, ?_, rfl⟩⟩
                unfold numR
                exact bnd_err (chk_no HRow.out HOK.out)
              · have e2 : decide (v ≤ hi) = false := by have := HE.out; rw [e1] at this; simpa using this
                go_wp2_with (go_at_call 40; refine want_any _ _ _ ?_ ?_ <;> intro hh <;> first | (exact absurd hh (by decide)) | clear hh)
                refine ⟨rfl, HO.out, .inr ⟨60, a, ?_, rfl⟩⟩
                unfold numR
                exact bnd_err (chk_no HRow.out HOK.out)
  · have hj' : ¬ (lead 9 (bs.drop a) < 9 ∧ lead 9 (bs.drop a) < bs.length - a) := by rw [hlen.out]; exact hj
    have HJ := hid_mk hj'
    have HJ2 := hid_mk hj
    clear hj hj'
    go_enter Tryd.func83, Tryd.ntmps83
    go_wp2_with fail
    refine HS.out.mono ?_
    rintro e w2 ⟨ho2, ⟨q, _⟩ | ⟨_, ⟨q, rfl⟩ | ⟨q, rfl⟩⟩⟩
    · exact absurd q HJ2.out
    · refine ⟨rfl, ho2.any _ _, .inr ⟨61, n, ?_, rfl⟩⟩
      have := row_end HJ.out (by rw [hlen.out]; exact q)
      rw [hlen.out] at this
      unfold numR
      exact bnd_err (chk_err this)
    · refine ⟨rfl, ho2.any _ _, .inr ⟨60, a, ?_, rfl⟩⟩
      unfold numR
      exact bnd_err (chk_err (row_bad HJ.out (by rw [hlen.out]; exact q)))
end Go.Proofs.YtkghabmgofgclaaDoor
