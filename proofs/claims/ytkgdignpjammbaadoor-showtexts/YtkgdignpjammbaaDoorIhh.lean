/- ShowTexts: a text -/
import Derived.Test.YtkgdignpjammbaaDoorIhi
namespace Go.Proofs.YtkgdignpjammbaaDoor
open Go.RowKit
set_option linter.unusedVariables false
set_option linter.unusedSimpArgs false

set_option maxRecDepth 100000 in
set_option maxHeartbeats 8000000 in
theorem texts_any {W : World} {ba : Option Addr} {c : Nat} (bs : List Nat) (hb : ∀ b ∈ bs, b < 256) (ht : Tp W) (hz : Tz W) (hN : bs.length ≤ maxLen)
    (ha : bs = [] ∨ ∃ g o, ba = some ⟨g, o, none⟩ ∧ ∀ (j : Nat) b, bs[j]? = some b → W.cell? ⟨g, o + j, none⟩ = some (.int .u8 b)) :
    Calls Tryd.prog 5 #[.slice ba bs.length c] W fun e w' => e = .returned (.bool true) ∧ Out 0 0 W w' := by
  have HAl := hid_mk (alive_any ht)
  have HZ := hid_mk hz
  have HB := hid_mk hb
  have HR := hid_mk ha
  obtain ⟨i0, hi0, hz0, hz1, hz2⟩ := info_p info_int
  obtain ⟨n, hn⟩ : ∃ n, bs.length = n := ⟨_, rfl⟩
  rw [hn] at hN ⊢
  have hN' : (n : Int) ≤ 9223372036854775807 := by unfold maxLen at hN; omega
  have HN := hid_mk hn
  clear ht hz hb ha hn hN
  by_cases hL : 4096 < n
  · have hL' : (4096 : Int) < n := by omega
    go_enter Tryd.func5, Tryd.ntmps5
    go_wp2_with (go_at_call 7; refine HAl.out.mono ?_; rintro e w1 ⟨rfl, o1⟩)
    go_ret
    exact ⟨rfl, o1⟩
  · have hL' : (n : Int) ≤ 4096 := by omega
    go_enter Tryd.func5, Tryd.ntmps5
    go_wp2_with (go_at_call 7; refine HAl.out.mono ?_; rintro e w1 ⟨rfl, o1⟩)
    have HO1 := hid_mk o1
    clear o1
    go_loopw [4, 5] (fun o x wr => ∃ p : Nat, p ≤ n ∧ x = .int .i64 p ∧ Ints wr w1.heap.size o (tkB bs p) ∧ Out 0 0 w1 wr) (fun _ x _ => n - (intOf x).toNat)
    case atStart => exact ⟨0, Nat.zero_le _, rfl, World.ownsRow_nil _ _ _ _, Out.refl _ _ _⟩
    case round =>
      obtain ⟨p, p2, rfl, hl, ho⟩ := hrel
      have HLs := hid_mk hl
      have HO := hid_mk ho
      have p0 : (0 : Int) ≤ (p : Int) := by omega
      clear hl ho
      by_cases hgo : p < n
      · have g1 : (p : Int) < (n : Int) := by omega
        obtain ⟨b, hb⟩ : ∃ b, bs[p]? = some b := ⟨_, List.getElem?_eq_getElem (by have := HN.out; omega)⟩
        have hb1 : (b : Int) < 256 := by have := HB.out b (List.mem_of_getElem? hb); omega
        have HE := hid_mk (take_up hb)
        rcases HR.out with h0 | ⟨g, o, rfl, hc⟩
        · rw [h0] at hb; cases hb
        have hcell := HO.out.cell (HO1.out.cell (hc p b hb) (.inr (Nat.zero_le _))) (.inr (Nat.zero_le _))
        clear hb hc
        go_wp2_with (at_builtin; refine wpList_append_lies _ rfl _ _ 39 rfl w1.heap.size 3 i0 (.int .i64 0) 1 8 Tryd.underlying39 hi0 hz0 hz1 hz2 rfl (by decide) _ _ _ rfl (HLs.out.kept ((Out.refl 0 0 wr).alloc _) (Nat.zero_le _)) ⟨wr.heap.size, 0, none⟩ 1 1 [.int .i64 b] rfl rfl (cell_one_new _ _ _) ?c2 (by decide) ?c3 ?c4 ?c5 _ rfl ?_)
        case c2 => intro u hu; simp at hu; subst hu; rfl
        case c3 => rw [take_len HN.out p2]; unfold maxLen; omega
        case c4 => rw [take_len HN.out p2]; omega
        case c5 => have := HO.out.size; simp; omega
        intro gg cap w2 hown hgrow hat hlt
        have hO1 := own_out (HLs.out.kept ((Out.refl 0 0 wr).alloc _) (Nat.zero_le _)) hgrow
        have HO2 : Hid (Out 0 0 w1 w2) := (HO.out.alloc _).past hO1 (Nat.le_refl _)
        have HL1 : Hid (Ints w2 w1.heap.size (.slice (some ⟨gg, 0, none⟩) ((tkB bs p).length + 1) cap) (tkB bs (p + 1))) := by
          show World.ownsRow _ _ _ _ _ _ _
          rw [HE.out, List.length_append, List.map_append]
          exact hown
        generalize (tkB bs p).length + 1 = ln at *
        clear hown hgrow hat hlt hO1
        go_wp2
        go_roundw
        case rel => exact ⟨p + 1, by omega, by go_num, HL1.out, HO2.out⟩
        case measure => simp [intOf]; omega
      · have g1 : (n : Int) ≤ (p : Int) := by omega
        have : p = n := by omega
        subst this
        clear hgo
        have hl2 := HLs.out
        rw [← HN.out, tkB_all] at hl2
        obtain ⟨ra, cr, rfl, hraw⟩ := hl2.open_
        rw [HN.out]
        have HLf : Hid (∀ W1, Out 0 0 wr W1 → Calls Tryd.prog 41 #[.agg #[.int .i64 1, .int .i64 4, .slice ra p cr, .slice none 0 0, .slice none 0 0]] W1 fun e w' => e = .returned (.string ⟨(quoV bs).toArray⟩) ∧ Out 0 0 W1 w') := by
          intro W1 o
          have := leaf_text (W := W1) (i := 1) (ra := ra) (c := cr) (a2 := none) (a3 := none) (l2 := 0) (l3 := 0) (c2 := 0) (c3 := 0) (HZ.out.kept ((HO1.out.trans HO.out).trans o) (.inr rfl)) bs HB.out (by rw [HN.out]; omega) (hraw.imp id (fun ⟨g, e, q⟩ => ⟨g, e, fun j b hj => o.cell (q j b hj) (.inr (Nat.zero_le _))⟩))
          rwa [HN.out] at this
        have HO2 := hid_mk (HO1.out.trans HO.out)
        clear hl2 hraw HLs HO HO1
        go_wp2_with (first
          | (go_at_call 12; refine (ref_any _ _).mono ?_; rintro e w2 ⟨rfl, o2⟩))
        have kL : Bl w2 wr.heap.size #[.int .i64 1, .int .i64 4, .slice ra p cr, .slice none 0 0, .slice none 0 0] 42 := (Bl.new wr _ _).kept o2 (.inr (Nat.zero_le _))
        have o3 : Out 0 0 wr w2 := ((Out.refl 0 0 wr).alloc _).trans o2
        by_cases hsm : 499 < p
        · refine (graph_large (c := 1) hL' (by omega) (by decide) kL).mono ?_
          rintro e w3 ⟨rfl, o4⟩
          have hsm' : (499 : Int) < p := by omega
          have HO3 := hid_mk ((HO2.out.trans o3).trans o4)
          clear kL o3 o2 o4
          go_wp2_with (first
            | (go_at_call 11; refine (good_ok _).mono ?_; rintro e w4 ⟨rfl, o5⟩))
          go_ret
          exact ⟨ret_bool (by decide +kernel), HO3.out.alloc _ |>.trans o5⟩
        · refine (graph_text (c := 1) hL' (by omega) (fun W1 o => HLf.out W1 (o3.trans o)) (by decide) kL).mono ?_
          rintro e w3 ⟨rfl, o4⟩
          have hsm' : (p : Int) ≤ 499 := by omega
          have HO3 := hid_mk ((HO2.out.trans o3).trans o4)
          obtain ⟨s, m, hs, hm, hsz, hm1, hm2, q0, qm⟩ := quo_facts HN.out (by omega)
          rw [← hs]
          have HS := hid_mk (And.intro hs hm)
          have hm1' : (1 : Int) ≤ m := by omega
          clear kL o3 o2 o4 hs hm
          go_wp2_with (first
            | (go_at_call 11; refine (good_ok _).mono ?_; rintro e w4 ⟨rfl, o5⟩))
          have HO4 := hid_mk ((HO3.out.alloc _).trans o5)
          clear o5 q0 qm HO3 HLf HO2
          go_loopw [8, 9] (fun y x wr => ∃ k : Nat, k ≤ p ∧ x = .int .i64 k ∧ y = .int .i64 ((1 + flt bs k : Nat) : Int) ∧ Out 0 0 W wr) (fun _ x _ => p - (intOf x).toNat)
          case atStart => exact ⟨0, Nat.zero_le _, rfl, rfl, HO4.out⟩
          case round =>
            obtain ⟨k, k2, rfl, rfl, ho⟩ := hrel
            have HO := hid_mk ho
            have k0 : (0 : Int) ≤ (k : Int) := by omega
            clear ho
            by_cases hgo : k < p
            · have g1 : (k : Int) < (p : Int) := by omega
              obtain ⟨b, hb⟩ : ∃ b, bs[k]? = some b := ⟨_, List.getElem?_eq_getElem (by have := HN.out; omega)⟩
              have hb1 : (b : Int) < 256 := by have := HB.out b (List.mem_of_getElem? hb); omega
              obtain ⟨f, hf⟩ : ∃ f, flt bs k = f := ⟨_, rfl⟩
              rw [hf]
              have HF := hid_mk (And.intro hb hf)
              rcases HR.out with h0 | ⟨g, o, rfl, hc⟩
              · rw [h0] at hb; cases hb
              have hcell := HO.out.cell (hc k b hb) (.inr (Nat.zero_le _))
              clear hb hc hf
              by_cases hq : b = 34 ∨ b = 92
              · by_cases h34 : b = 34
                · have e34 : ((b : Int) == 34) = true := by simp; omega
                  have e92 : ((b : Int) == 92) = false := by simp; omega
                  have hcv := conv_b wr b
                  obtain ⟨hle, hup, hsl⟩ := slice_piece HS.out hsz HN.out HF.out (⟨#[92]⟩ ++ ⟨#[UInt8.ofNat b]⟩) (by rw [esc_back hq]; rfl) (1 + f + 2) (by rw [esc_back hq]; rfl)
                  rw [esc_back hq] at hle hup
                  have hle' : (1 : Int) + f + 2 ≤ m := hle
                  have dle : decide ((m : Int) < 1 + f + 2) = false := by simp; omega
                  have HUP := hid_mk hup
                  clear hq h34 hle hup
                  go_wp2_with fail
                  exact ⟨⟨k + 1, by omega, by go_num, by rw [HUP.out]; exact congrArg _ (by simp; omega), HO.out.alloc _⟩, by simp [intOf]; omega⟩
                · have e34 : ((b : Int) == 34) = false := by simp; omega
                  have e92 : ((b : Int) == 92) = true := by simp; omega
                  have hcv := conv_b wr b
                  obtain ⟨hle, hup, hsl⟩ := slice_piece HS.out hsz HN.out HF.out (⟨#[92]⟩ ++ ⟨#[UInt8.ofNat b]⟩) (by rw [esc_back hq]; rfl) (1 + f + 2) (by rw [esc_back hq]; rfl)
                  rw [esc_back hq] at hle hup
                  have hle' : (1 : Int) + f + 2 ≤ m := hle
                  have dle : decide ((m : Int) < 1 + f + 2) = false := by simp; omega
                  have HUP := hid_mk hup
                  clear hq h34 hle hup
                  go_wp2_with fail
                  exact ⟨⟨k + 1, by omega, by go_num, by rw [HUP.out]; exact congrArg _ (by simp; omega), HO.out.alloc _⟩, by simp [intOf]; omega⟩
              · by_cases hx : b < 32 ∨ 126 < b
                · have e34 : ((b : Int) == 34) = false := by simp; omega
                  have e92 : ((b : Int) == 92) = false := by simp; omega
                  have hcv := conv_b wr b
                  by_cases h32 : b < 32
                  · skip
                    have d32 : decide ((b : Int) < 32) = true := by simp; omega
                    have d126 : decide (126 < (b : Int)) = false := by simp; omega
                    obtain ⟨q, hq1, hq2⟩ : ∃ q : Nat, b / 16 = q ∧ q < 16 := ⟨_, rfl, by omega⟩
                    obtain ⟨r, hr1, hr2⟩ : ∃ r : Nat, b % 16 = r ∧ r < 16 := ⟨_, rfl, by omega⟩
                    have dq : (b : Int) / 16 = (q : Int) := by omega
                    have dr : (b : Int) % 16 = (r : Int) := by omega
                    have lq : (q : Int) < 16 := by omega
                    have lr : (r : Int) < 16 := by omega
                    have uq := dgU q hq2
                    have ur := dgU r hr2
                    have hcc := conv_c (wr.alloc (.cells #[.int .u8 b] 5)) (hxU q) (hxU r) (wr.heap.size + 1) (by simp)
                    obtain ⟨hle, hup, hsl⟩ := slice_piece HS.out hsz HN.out HF.out (⟨#[92, 120]⟩ ++ ⟨#[hxU q, hxU r]⟩ ++ ⟨#[59]⟩) (by rw [esc_hex hx, hq1, hr1]; rfl) (1 + f + 5) (by rw [esc_hex hx]; rfl)
                    rw [esc_hex hx] at hle hup
                    have hle' : (1 : Int) + f + 5 ≤ m := hle
                    have dle : decide ((m : Int) < 1 + f + 5) = false := by simp; omega
                    have HUP := hid_mk hup
                    clear hx hq h32 hle hup hq1 hq2 hr1 hr2
                    go_wp2_with fail
                    go_region
                    go_wp2_with fail
                    exact ⟨⟨k + 1, by omega, by go_num, by rw [HUP.out]; exact congrArg _ (by simp; omega), ((HO.out.alloc _).alloc _).drew⟩, by simp [intOf]; omega⟩
                  · skip
                    have d32 : decide ((b : Int) < 32) = false := by simp; omega
                    have d126 : decide (126 < (b : Int)) = true := by simp; omega
                    obtain ⟨q, hq1, hq2⟩ : ∃ q : Nat, b / 16 = q ∧ q < 16 := ⟨_, rfl, by omega⟩
                    obtain ⟨r, hr1, hr2⟩ : ∃ r : Nat, b % 16 = r ∧ r < 16 := ⟨_, rfl, by omega⟩
                    have dq : (b : Int) / 16 = (q : Int) := by omega
                    have dr : (b : Int) % 16 = (r : Int) := by omega
                    have lq : (q : Int) < 16 := by omega
                    have lr : (r : Int) < 16 := by omega
                    have uq := dgU q hq2
                    have ur := dgU r hr2
                    have hcc := conv_c (wr.alloc (.cells #[.int .u8 b] 5)) (hxU q) (hxU r) (wr.heap.size + 1) (by simp)
                    obtain ⟨hle, hup, hsl⟩ := slice_piece HS.out hsz HN.out HF.out (⟨#[92, 120]⟩ ++ ⟨#[hxU q, hxU r]⟩ ++ ⟨#[59]⟩) (by rw [esc_hex hx, hq1, hr1]; rfl) (1 + f + 5) (by rw [esc_hex hx]; rfl)
                    rw [esc_hex hx] at hle hup
                    have hle' : (1 : Int) + f + 5 ≤ m := hle
                    have dle : decide ((m : Int) < 1 + f + 5) = false := by simp; omega
                    have HUP := hid_mk hup
                    clear hx hq h32 hle hup hq1 hq2 hr1 hr2
                    go_wp2_with fail
                    go_region
                    go_wp2_with fail
                    exact ⟨⟨k + 1, by omega, by go_num, by rw [HUP.out]; exact congrArg _ (by simp; omega), ((HO.out.alloc _).alloc _).drew⟩, by simp [intOf]; omega⟩
                · have h34 : (b : Int) ≠ 34 := by omega
                  have h92 : (b : Int) ≠ 92 := by omega
                  have h32 : (32 : Int) ≤ b := by omega
                  have h126 : (b : Int) ≤ 126 := by omega
                  have e34 : ((b : Int) == 34) = false := by simpa using h34
                  have e92 : ((b : Int) == 92) = false := by simpa using h92
                  have d32 : decide ((b : Int) < 32) = false := by simp; omega
                  have d126 : decide (126 < (b : Int)) = false := by simp; omega
                  have hcv := conv_b wr b
                  obtain ⟨hle, hup, hsl⟩ := slice_piece HS.out hsz HN.out HF.out ⟨#[UInt8.ofNat b]⟩ (by rw [esc_plain hx hq]) (1 + f + 1) (by rw [esc_plain hx hq]; rfl)
                  rw [esc_plain hx hq] at hle hup
                  have hle' : (1 : Int) + f + 1 ≤ m := hle
                  have dle : decide ((m : Int) < 1 + f + 1) = false := by simp; omega
                  have HUP := hid_mk hup
                  clear hq hx hle hup
                  go_wp2_with fail
                  exact ⟨⟨k + 1, by omega, by go_num, by rw [HUP.out]; exact congrArg _ (by simp; omega), HO.out.alloc _⟩, by simp [intOf]; omega⟩
            · have g1 : (p : Int) ≤ (k : Int) := by omega
              have : k = p := by omega
              subst this
              have e1 : ((1 + flt bs k : Nat) : Int) = m := by have := HS.out.2; omega
              rw [e1]
              clear hgo e1
              go_wp2_with fail
              go_ret
              exact ⟨ret_bool (by simp), HO.out⟩
end Go.Proofs.YtkgdignpjammbaaDoor
