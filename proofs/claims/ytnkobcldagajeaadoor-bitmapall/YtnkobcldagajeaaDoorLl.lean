/- a script that is played -/
import Derived.Test.YtnkobcldagajeaaDoorLk
namespace Go.Proofs.YtnkobcldagajeaaDoor
open Go.RowKit
set_option linter.unusedVariables false
set_option linter.unusedSimpArgs false

set_option maxRecDepth 100000 in
set_option maxHeartbeats 16000000 in
theorem plays_none (n k : Nat) (u v : Int) (hn : n ≤ 20000) (hk : k ≤ 20000) (ao : Option Addr) (cap : Nat) {w : World} (hT : Tab w) :
    Calls Tryd.prog 12 #[.int .i64 n, .int .i64 k, .slice ao 0 cap, .int .i64 u, .int .i64 v] w fun e w' => e = .returned (.bool true) ∧ Out 0 0 w w' := by
  have HA := hid_mk (alive_any w hT)
  have HM := hid_mk (fun w hT => made_yes n w (by omega) hT)
  have HM' := hid_mk (fun w hT => made_yes k w (by omega) hT)
  have HT := hid_mk hT
  have n1 : (n : Int) ≤ 20000 := by omega
  have k1 : (k : Int) ≤ 20000 := by omega
  clear hT hn hk
  go_enter Tryd.func12, Tryd.ntmps12
  go_wp2_with fail
  refine HA.out.mono ?_
  rintro e w1 ⟨rfl, ho⟩
  have HO := hid_mk ho
  clear ho HA
  go_wp2_with fail
  refine (HM.out w1 (HT.out.kept HO.out (.inr (Nat.le_refl _)))).mono ?_
  rintro e w2 ⟨pa, rfl, hpa, ho2⟩
  have HO2 := hid_mk (HO.out.trans ho2)
  have HPA := hid_mk hpa
  have HZ2 : Hid (w.heap.size ≤ w1.heap.size ∧ w1.heap.size ≤ w2.heap.size) := ⟨HO.out.size, ho2.size⟩
  clear ho2 hpa HM
  go_wp2_with fail
  refine (HM'.out w2 (HT.out.kept HO2.out (.inr (Nat.le_refl _)))).mono ?_
  rintro e w3 ⟨pb, rfl, hpb, ho3⟩
  have HO3 := hid_mk (HO2.out.trans ho3)
  have HPA3 := hid_mk (HPA.out.quiet ho3)
  have HPB := hid_mk hpb
  have HZ3 : Hid (w2.heap.size ≤ w3.heap.size) := ho3.size
  clear ho3 hpb HM' HPA HO HO2
  -- the list of two pairs
  obtain ⟨L, hL⟩ : ∃ L, w3.heap.size = L := ⟨_, rfl⟩
  obtain ⟨w4, hw4⟩ : ∃ w4, w3.alloc (.cells #[.pointer (some ⟨pa, 0, none⟩), .pointer (some ⟨pb, 0, none⟩)] 23) = w4 := ⟨_, rfl⟩
  have hPl : Play w w4 L (w1.heap.size, w2.heap.size, pa) (w2.heap.size, w3.heap.size, pb) (w1.heap.size, w2.heap.size, pa) (w2.heap.size, w3.heap.size, pb) := by
    have o4 : Out 0 0 w3 w4 := by rw [← hw4]; exact (Out.refl _ _ _).alloc _
    have b4 : w4.heap[L]? = some (.cells #[.pointer (some ⟨pa, 0, none⟩), .pointer (some ⟨pb, 0, none⟩)] 23 (0, 0)) := by rw [← hw4, ← hL]; exact heap_alloc_new _ _
    have z2 := HZ2.out
    have z3 := HZ3.out
    have t0 := HT.out.lt
    have s4 := o4.size
    obtain ⟨b, r, g, l1, h1, l2, h2, hPa⟩ := HPA3.out
    obtain ⟨b', r', g', l1', h1', l2', h2', hPb⟩ := HPB.out
    have la := hPa.lim
    have lb := hPb.lim
    have gA : Good w w4 L (w1.heap.size, w2.heap.size, pa) := ⟨⟨n, _, b, r, g, l1, h1, l2, h2, hPa.quiet o4⟩, z2.1, by show w1.heap.size < w2.heap.size; omega, by show w2.heap.size ≤ _; omega, .inr (by show w2.heap.size ≤ L; omega), by show 0 < w1.heap.size; omega, by show w1.heap.size ≤ pa; omega, by show pa < w2.heap.size; omega⟩
    have gB : Good w w4 L (w2.heap.size, w3.heap.size, pb) := ⟨⟨k, _, b', r', g', l1', h1', l2', h2', hPb.quiet o4⟩, by show w.heap.size ≤ w2.heap.size; omega, by show w2.heap.size < w3.heap.size; omega, by show w3.heap.size ≤ _; omega, .inr (by show w3.heap.size ≤ L; omega), by show 0 < w2.heap.size; omega, by show w2.heap.size ≤ pb; omega, by show pb < w3.heap.size; omega⟩
    exact ⟨b4, by omega, by omega, gA, gB, gA, gB, .inl (Nat.le_refl _), .inl rfl, .inl (Nat.le_refl _), .inl rfl, .inr (Nat.le_refl _), .inl (Nat.le_refl _), HO3.out.trans o4⟩
  have HPl := hid_mk hPl
  clear hPl HPA3 HPB HZ2 HZ3 HO3
  generalize hA : (w1.heap.size, w2.heap.size, pa) = A at *
  generalize hB : (w2.heap.size, w3.heap.size, pb) = B at *
  have ePA : pa = A.2.2 := by rw [← hA]
  have ePB : pb = B.2.2 := by rw [← hB]
  rw [ePA, ePB] at hw4
  clear hA hB
  go_wp2_with fail
  clear ePA ePB hw4
  go_loopw [16] (fun x wr => x = .int .i64 0 ∧ wr = w4) (fun _ _ => 0)
  case atStart => exact ⟨rfl, rfl⟩
  case round =>
    obtain ⟨rfl, rfl⟩ := hrel
    have HPr := HPl
    obtain ⟨⟨na, Sa, HGA⟩, _⟩ := HPr.out.2.2.2.1
    obtain ⟨x0, x1, _, _⟩ := HPr.out.cells
    clear HPl
    go_wp2_with fail
    refine (same_any HGA).mono ?_
    rintro e w5 ⟨rfl, o5⟩
    have HP5 := hid_mk (HPr.out.quiet o5)
    obtain ⟨⟨nb, Sb, HGB⟩, _⟩ := HP5.out.2.2.2.2.1
    clear o5 HPr HGA
    go_wp2_with fail
    refine (same_any HGB).mono ?_
    rintro e w6 ⟨rfl, o6⟩
    have HP6 := hid_mk (HP5.out.quiet o6)
    obtain ⟨⟨nx, Sx, HGX⟩, _⟩ := HP6.out.2.2.2.2.2.1
    obtain ⟨y0, y1, _, _⟩ := HP6.out.cells
    clear o6 HP5 HGB x0 x1
    go_wp2_with fail
    refine (same_any HGX).mono ?_
    rintro e w7 ⟨rfl, o7⟩
    have HP7 := hid_mk (HP6.out.quiet o7)
    obtain ⟨⟨ny, Sy, HGY⟩, _⟩ := HP7.out.2.2.2.2.2.2.1
    obtain ⟨x0, x1, _, _⟩ := HP7.out.cells
    clear o7 HP6 HGX y0 y1
    go_wp2_with fail
    refine (same_any HGY).mono ?_
    rintro e w8 ⟨rfl, o8⟩
    have HP8 := hid_mk (HP7.out.quiet o8)
    clear o8 HP7 HGY x0 x1
    go_wp2
    go_ret
    exact ⟨rfl, HP8.out.2.2.2.2.2.2.2.2.2.2.2.2.2⟩
end Go.Proofs.YtnkobcldagajeaaDoor
