/- an All gone over by BitmapWalk's own function -/
import Derived.Test.YtnkobcldagajeabDoorMc
namespace Go.Proofs.YtnkobcldagajeabDoor
open Go.RowKit
set_option linter.unusedVariables false
set_option linter.unusedSimpArgs false

def meas (n : Nat) (x : Value) : Nat := if intOf x < 0 then 0 else ((n : Int) - intOf x).toNat
theorem meas_lt {n : Nat} {i j : Int} (h0 : 0 ≤ i) (h1 : i < n) (h2 : j < 0 ∨ i < j) : meas n (.int .i64 j) < meas n (.int .i64 i) := by
  have e : ∀ k : Int, meas n (.int .i64 k) = if k < 0 then 0 else ((n : Int) - k).toNat := fun _ => rfl
  rw [e, e, if_neg (show ¬ i < 0 by omega)]
  by_cases h : j < 0
  · rw [if_pos h]; omega
  · rw [if_neg h]; omega
theorem nxr_after (S : Nat → Bool) (n k : Nat) (hk : k < n) : nxr S n (k + 1) < 0 ∨ (k : Int) < nxr S n (k + 1) := by
  rcases step_facts S n (k + 1) hk with ⟨e, _⟩ | ⟨j, e, h1, _⟩
  · left; omega
  · right; omega
theorem mid_get {pre rest L : List Nat} {k : Nat} (h : pre ++ k :: rest = L) : ∃ h : pre.length < L.length, L[pre.length] = k := by
  subst h
  refine ⟨by simp, by simp⟩
set_option maxRecDepth 100000 in
set_option maxHeartbeats 4000000 in
theorem allWalk {w : World} {lo hi m n g' a t nb cap : Nat} {S : Nat → Bool} {ao : Option Addr} (hm : MapAt w lo hi m n S) (hhi : hi ≤ a) (hg' : g' = a + 1) (hb' : Box w g' 24 (.pointer (some ⟨m, 0, none⟩))) (ha : Box w a 3 (.int .i64 0)) (htl : t < a)
    (ht : Box w t 22 (.slice ao (lst S n 0).length cap)) (hr : 0 < (lst S n 0).length → ∃ g, ao = some ⟨g, 0, none⟩ ∧ g < a ∧ ∀ i (hi : i < (lst S n 0).length), w.cell? ⟨g, i, none⟩ = some (.int .i64 ((lst S n 0)[i] : Nat))) (hL : (lst S n 0).length ≤ 20000) (hn : n ≤ 20000) :
    Calls Tryd.prog 33 #[.func (.func 17) #[] #[.pointer (some ⟨a, 0, none⟩), .pointer (some ⟨t, 0, none⟩), .pointer (some ⟨nb, 0, none⟩)], .pointer (some ⟨g', 0, none⟩)] w
      fun e w' => e = .returned (.tuple #[]) ∧ Box w' a 3 (.int .i64 ((lst S n 0).length : Nat)) ∧ Out a (a + 1) w w' := by
  have c0 := hb'.cell
  have HM := hid_mk hm
  have HB := hid_mk hb'
  have HA := hid_mk ha
  have HT := hid_mk ht
  have HR := hid_mk hr
  have HL := hid_mk hL
  have HN := hid_mk hn
  have HX0 := hid_mk (next_any hm 0)
  rw [show (0 : Int).toNat = 0 from rfl] at HX0
  have HP : Hid (hi ≤ a ∧ g' = a + 1 ∧ t < a ∧ 0 < a) := ⟨hhi, hg', htl, by have := hm.bounds; omega⟩
  clear hm hb' ha ht hr hL hn hhi hg' htl
  go_enter Tryd.func33, Tryd.ntmps33
  go_wp2_with fail
  refine HX0.out.mono ?_
  rintro e w1 ⟨rfl, ho⟩
  have HO1 := hid_mk (ho.any a (a + 1))
  have HA1 := hid_mk (HA.out.kept ho (.inr (Nat.zero_le _)))
  clear ho c0 HX0
  go_wp2_with fail
  go_loopw [3] (fun v wr => ∃ (p : Nat) (pre : List Nat), p ≤ n ∧ v = .int .i64 (nxr S n p) ∧ pre ++ lst S n p = lst S n 0 ∧ Box wr a 3 (.int .i64 (pre.length : Nat)) ∧ Out a (a + 1) w wr) (fun v _ => meas n v)
  case atStart => exact ⟨0, [], Nat.zero_le _, rfl, rfl, HA1.out, HO1.out⟩
  case round =>
    clear HA1 HO1
    obtain ⟨p, pre, a1, rfl, a3, a4, a5⟩ := hrel
    have HO := hid_mk a5
    have c0 := (HB.out.kept a5 (.inr (by have := HP.out; omega))).cell
    rcases step_facts S n p a1 with ⟨e1, e2⟩ | ⟨k, e1, e2, e3, e4, e5⟩
    · have HE : Hid (pre = lst S n 0) := by show pre = _; rw [← a3, e2, List.append_nil]
      have HB4 := hid_mk a4
      rw [e1]
      clear a3 a4 a5 e1 e2 a1
      go_wp2
      exact bodyPost_end (results_none Tryd.results33 _ _ _) rfl ⟨rfl, by rw [← HE.out]; exact HB4.out, HO.out⟩
    · rw [e5] at a3
      obtain ⟨q1, q2⟩ := mid_get a3
      obtain ⟨g, rfl, g2, g3⟩ := HR.out (by omega)
      have hc := g3 pre.length q1
      rw [q2] at hc
      have HY := hid_mk (walk1_any (nb := nb) a4 (HT.out.kept a5 (.inl (HP.out.2.2.1))) q1 HL.out (a5.cell hc (.inl g2)))
      have H3 := hid_mk a3
      have HK := hid_mk e3
      have k0 : (0 : Int) ≤ (k : Int) := by omega
      have k1 : (k : Int) < 20000 := by have := HN.out; omega
      rw [e1]
      clear a3 a4 a5 e1 e2 a1 e4 e5 q1 q2 hc g3 e3
      go_wp2_with fail
      refine HY.out.mono ?_
      rintro e w2 ⟨rfl, b2, o2⟩
      have HB2 := hid_mk b2
      have HO2 := hid_mk (HO.out.trans o2)
      have c2 := (HB.out.kept (HO.out.trans o2) (.inr (by have := HP.out; omega))).cell
      have HX := hid_mk (next_any (HM.out.kept (HO.out.trans o2) (.inl HP.out.1) (.inl HP.out.2.2.2)) ((k : Int) + 1))
      rw [show ((k : Int) + 1).toNat = k + 1 from by omega] at HX
      clear b2 o2 c0 HY
      go_wp2_with fail
      refine HX.out.mono ?_
      rintro e w3 ⟨rfl, ho3⟩
      have HB3 := hid_mk (HB2.out.kept ho3 (.inr (Nat.zero_le _)))
      have HO3 := hid_mk (HO2.out.trans (ho3.any _ _))
      clear ho3 c2 HX
      go_wp2
      go_roundw
      case rel =>
        refine ⟨k + 1, pre ++ [k], HK.out, rfl, by rw [List.append_assoc]; exact H3.out, ?_, HO3.out⟩
        rw [List.length_append]; exact HB3.out
      case measure => exact meas_lt (by omega) (by have := HK.out; omega) (nxr_after S n k HK.out)
end Go.Proofs.YtnkobcldagajeabDoor
