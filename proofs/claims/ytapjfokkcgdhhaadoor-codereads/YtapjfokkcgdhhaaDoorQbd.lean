import Derived.Test.YtapjfokkcgdhhaaDoorQbc
namespace Go.Proofs.YtapjfokkcgdhhaaDoor
open Go.RowKit
set_option linter.unusedVariables false
set_option linter.unusedSimpArgs false

set_option maxRecDepth 100000 in
set_option maxHeartbeats 4000000 in
theorem codereads_any {w : World} (hT : Ty w) (ba : Option Addr) (bs : List Int) (nb cb : Nat) (hin : ByIn w w.heap.size ba bs) (hnb : bs.length = nb) (hcb : nb ≤ cb) :
    Calls Tryd.prog 3 #[.slice ba nb cb] w fun e w' => e = .returned (.bool true) ∧ Out 0 0 w w' := by
  have HH := hid_mk (And.intro hT (And.intro hin (And.intro hnb hcb)))
  by_cases hmax : nb ≤ 300000
  · have l1 : decide ((300000 : Int) < (nb : Int)) = false := by simp; omega
    have l2 : decide (300000 < nb) = false := by simp; omega
    have HM := hid_mk hmax
    obtain ⟨bk, hbk⟩ : ∃ bk, w.heap.size = bk := ⟨_, rfl⟩
    obtain ⟨W1, hW1⟩ : ∃ W1, w.alloc (.cells #[.slice none 0 0, .slice none 0 0, .slice none 0 0, .slice none 0 0] 28) = W1 := ⟨_, rfl⟩
    have oK : Out 0 0 w W1 := by rw [← hW1]; exact (Out.refl 0 0 w).alloc _
    have bK : Bl W1 bk #[.slice none 0 0, .slice none 0 0, .slice none 0 0, .slice none 0 0] 28 := by rw [← hW1, ← hbk]; exact Bl.new _ _ _
    have HAl := hid_mk (alive_any (w := W1) (hT.out oK (.inr rfl)))
    have HK1 := hid_mk (And.intro (kp_start bK) (And.intro oK (And.intro bK.lt hbk)))
    clear hT hin hnb hcb hmax oK bK
    go_enter Tryd.func3, Tryd.ntmps3
    go_wp2_with fail
    (try rw [hW1])
    (try rw [hbk])
    clear hW1 hbk
    refine HAl.out.mono ?_
    clear HAl
    rintro e w2 ⟨rfl, o2⟩
    obtain ⟨hT, hin, hnb, hcb⟩ := HH.out
    obtain ⟨hKP, oK, hlt, hbk⟩ := HK1.out
    have ow2 := oK.trans o2
    have hs2 := o2.size
    have HRs := hid_mk (reads_any (w := w2) (B := w.heap.size) (hT.out ow2 (.inr rfl)) ow2.size ba bs nb cb (hin.kept (Lo.of_out ow2) (Nat.le_refl _)) hnb hcb HM.out (by omega : bk + 1 ≤ w2.heap.size) ⟨Nat.zero_le _, by omega, hT.lt⟩ (hKP.quiet o2))
    have HO2 : Hid (Out 0 0 w w2 ∧ bk + 1 ≤ w2.heap.size ∧ w.heap.size = bk) := hid_mk ⟨ow2, by omega, hbk⟩
    clear hT hin hnb hcb hKP oK hlt hbk ow2 hs2 o2 HK1
    go_wp2_with fail
    refine HRs.out.mono ?_
    clear HRs
    rintro e w3 ⟨rfl, x3, hK3⟩
    have HAp := hid_mk (kapart_any (w := w3) (Nat.le_trans HO2.out.2.1 x3.size) (by omega) (by omega) hK3)
    have HX3 := hid_mk x3
    clear hK3 x3
    go_wp2_with (go_at_call 7; refine HAp.out.mono ?_; rintro e w4 ⟨rfl, x4⟩; have HX4 := hid_mk x4; clear x4)
    go_ret
    refine ⟨rfl, out_fx (out_fx HO2.out.1 HX3.out (fun k hk => ?_)) HX4.out (fun k hk => ?_)⟩
    · have := HO2.out.2.2; omega
    · have := HO2.out.2.2; omega
  · have l1 : decide ((300000 : Int) < (nb : Int)) = true := by simp; omega
    have l2 : decide (300000 < nb) = true := by simp; omega
    have HAl := hid_mk (alive_any (w := w) hT)
    clear hT hin hnb hcb hmax
    go_enter Tryd.func3, Tryd.ntmps3
    go_wp2_with (go_at_call 5; refine HAl.out.mono ?_; rintro e w2 ⟨rfl, o2⟩; have HO2 := hid_mk o2; clear o2)
    go_ret
    exact ⟨rfl, HO2.out⟩
end Go.Proofs.YtapjfokkcgdhhaaDoor
