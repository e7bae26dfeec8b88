/- layout.Size -/
import Derived.Test.YtocncffplcfpbaaGreatDoorYbg
namespace Go.Proofs.YtocncffplcfpbaaGreatDoor
open Go.RowKit
set_option linter.unusedVariables false
set_option linter.unusedSimpArgs false

theorem size_bad {k n : Int} (h : sizeB k n = false) : sizeV k n = 0 := by unfold sizeV; rw [h]; rfl
theorem size_good {k n : Int} (h : sizeB k n = true) : sizeV k n = wd k + partW k n := by unfold sizeV; rw [h]; rfl
set_option maxHeartbeats 800000 in
theorem size_any (k n : Int) {w : World} (hT : Tab w) :
    Calls Tryz.prog 38 #[.int .i64 k, .int .i64 n] w fun e w' => e = .returned (.tuple #[.int .i64 (sizeV k n), .bool (sizeB k n)]) ∧ w' = w := by
  have HK := hid_mk (known_any k)
  cases hk : knownB k
  · have hb : sizeB k n = false := by unfold sizeB; rw [hk]; rfl
    rw [size_bad hb, hb]
    rw [hk] at HK
    clear hb hk
    go_enter Tryz.func38, Tryz.ntmps38
    go_wp2_with (go_at_call 56; refine calls_same (HK.out _) ?_)
    go_ret2
    exact ⟨rfl, rfl⟩
  · rw [hk] at HK
    obtain ⟨j, rfl, j1, j2⟩ := known_nat hk
    obtain ⟨c1, c2⟩ := hT.2.1 j (by omega)
    have W := hid_mk (wd_mo j1 j2)
    by_cases hn : n < 0
    · have hb : sizeB j n = false := by unfold sizeB; rw [hk]; simp; omega
      rw [size_bad hb, hb]
      clear hb hk
      go_enter Tryz.func38, Tryz.ntmps38
      go_wp2_with (go_at_call 56; refine calls_same (HK.out _) ?_)
      go_ret2
      exact ⟨rfl, rfl⟩
    have n0 : 0 ≤ n := by omega
    have j0 : (0 : Int) ≤ (j : Int) := by omega
    have j14 : (j : Int) < 14 := by omega
    by_cases hm : mo j < n
    · have hb : sizeB j n = false := by unfold sizeB; rw [hk]; simp; omega
      rw [size_bad hb, hb]
      clear hb hk hn
      generalize mo j = m at *
      go_enter Tryz.func38, Tryz.ntmps38
      go_wp2_with (go_at_call 56; refine calls_same (HK.out _) ?_)
      go_ret2
      exact ⟨rfl, rfl⟩
    have hm' : n ≤ mo j := by omega
    have hp : ∀ b, (decide ((0 : Int) ≤ n) && decide (n ≤ mo j) && b) = b := by intro b; simp [n0, hm']
    by_cases h12 : j = 12
    · subst h12
      obtain ⟨q, rfl⟩ : ∃ q : Nat, n = q := ⟨n.toNat, by omega⟩
      have hq : q ≤ 512 := by have := (W.out.2.2.2.2.2.2 rfl).2; omega
      have HD := hid_mk (doubled_any q hq)
      have hsb : sizeB 12 q = spineB q := by
        unfold sizeB; rw [show knownB 12 = true from rfl, Bool.true_and, show ((12 : Int) != 12) = false from rfl, Bool.false_or]
        exact hp _
      have hwd := (W.out.2.2.2.2.2.2 rfl).1
      have hq' : (q : Int) ≤ 512 := by omega
      cases hs : spineB q
      · rw [hs] at HD
        have hsb' := hsb.trans hs
        rw [show ((12 : Nat) : Int) = 12 from rfl] at *
        rw [size_bad hsb', hsb']
        clear hk hn hm hp hsb hs hsb'
        generalize mo 12 = m at *
        go_enter Tryz.func38, Tryz.ntmps38
        go_wp2_with (first | (go_at_call 56; refine calls_same (HK.out _) ?_) | (go_at_call 57; refine calls_same (HD.out _) ?_))
        go_ret2
        exact ⟨rfl, rfl⟩
      · rw [hs] at HD
        have hsb' := hsb.trans hs
        rw [show ((12 : Nat) : Int) = 12 from rfl] at *
        rw [size_good hsb', hsb', hwd, show partW 12 q = q from rfl]
        rw [hwd] at c1
        clear hk hn hm hp hsb hs hsb' hwd
        generalize mo 12 = m at *
        go_enter Tryz.func38, Tryz.ntmps38
        go_wp2_with (first | (go_at_call 56; refine calls_same (HK.out _) ?_) | (go_at_call 57; refine calls_same (HD.out _) ?_))
        go_ret2
        exact ⟨rfl, rfl⟩
    have hj12 : ((j : Int) != 12) = true := by simp; omega
    have hj12' : ((j : Int) == 12) = false := by simp; omega
    have hsb : sizeB j n = true := by
      unfold sizeB; rw [hk, Bool.true_and, hj12, Bool.true_or]
      exact hp _
    rw [size_good hsb, hsb]
    by_cases h4 : j = 4
    · subst h4
      obtain ⟨w4, m4⟩ := W.out.2.2.2.2.2.1 rfl
      rw [show ((4 : Nat) : Int) = 4 from rfl] at *
      rw [w4] at c1 ⊢
      rw [show partW 4 n = (n + 7) / 8 from rfl]
      have b3 : n ≤ 4096 := by omega
      clear hk hn hm hp hsb w4 m4
      generalize mo 4 = m at *
      go_enter Tryz.func38, Tryz.ntmps38
      go_wp2_with (first | (go_at_call 56; refine calls_same (HK.out _) ?_))
      go_ret2
      exact ⟨ret_ib (k := .i64) (a := 2 + (n + 8 - 1) / 8) (by omega) rfl, rfl⟩
    · have hj4 : ((j : Int) == 4) = false := by simp; omega
      rw [show partW j n = n from by unfold partW; rw [if_neg (by omega)]]
      obtain ⟨w1, w2, w3, w4, w5, w6⟩ := W.out
      have b3 := w5 h4
      have b4 : n ≤ 1023 := by omega
      clear hk hn hm hp hsb w6 w5 w4 w3 b3
      generalize mo j = m at *
      generalize wd j = x at *
      go_enter Tryz.func38, Tryz.ntmps38
      go_wp2_with (first | (go_at_call 56; refine calls_same (HK.out _) ?_))
      go_ret2
      exact ⟨rfl, rfl⟩
end Go.Proofs.YtocncffplcfpbaaGreatDoor
