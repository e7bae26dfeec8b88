/- the document's own Copy; two lists; alive -/
import Derived.Test.YtfkmaanfgkkjcaaDoorGj
namespace Go.Proofs.YtfkmaanfgkkjcaaDoor
open Go.RowKit
set_option linter.unusedVariables false
set_option linter.unusedSimpArgs false

set_option maxHeartbeats 1000000 in
theorem refCopy_any {w : World} {b bw n : Nat} {S : Nat → Int × Int × Int} (h : TblAt 61 w b bw n S) (hw : 2 ≤ w.heap.size) :
    Calls Tryd.prog 32 #[.pointer (some ⟨b, 0, none⟩)] w fun e w' => ∃ b' bw', e = .returned (.pointer (some ⟨b', 0, none⟩)) ∧ TblAt 61 w' b' bw' n S ∧ w.heap.size ≤ b' ∧ w.heap.size ≤ bw' ∧ Out 0 0 w w' := by
  obtain ⟨cap, c0, _⟩ := h.cell
  obtain ⟨i0, hi0, hz0, hz1, hz2⟩ := info_parts info_page
  have HN := hid_mk h.nums
  have HG := hid_mk h.good
  have HW := hid_mk hw
  have HNE : Hid (∀ j u, (pgs (pgl S n))[j]? = some u → w.cell? ((⟨bw, 0, none⟩ : Addr).add j) = some u) := by
    intro j u hj
    have hjk : j < n * 3 := by
      have := (List.getElem?_eq_some_iff.1 hj).1
      rw [pgs_len, pgl_len] at this
      exact this
    rw [pgs_cell S n hjk] at hj
    cases hj
    rw [Addr.add_lit, Nat.zero_add]
    exact Row.cell h.row hjk
  clear h hw
  go_enter Tryd.func32, Tryd.ntmps32
  go_wp2_with (at_builtin; refine wpList_append_own _ rfl _ _ 37 rfl w.heap.size 45 i0 (.agg #[.int .i64 0, .int .i64 0, .int .i64 0]) 3 24 Tryd.underlying37 hi0 hz0 hz1 hz2 rfl (by decide) (.slice none 0 0) 0 [] rfl (World.ownsRow_nil _ _ _ 3) ⟨bw, 0, none⟩ n cap (pgs (pgl S n)) rfl (by rw [pgs_len, pgl_len]) HNE.out (pgs_one _) (by unfold maxLen; have := HN.out; omega) (by have := HN.out; omega) (Nat.le_refl _) ?_; intro v' w1 hown' hgrow hnil; rw [Nat.zero_add, List.nil_append] at hown'; obtain ⟨g, cap', rfl, hg, _⟩ := hown'.form (by have := HN.out; omega); have HO : Hid (Out 0 0 w w1) := ⟨hgrow.os, hgrow.tape, hgrow.output, hgrow.size, fun j h1 h2 => hgrow.block j h1 (by simp [Value.ownBlock])⟩; have HL : Hid (ListIs w1 w.heap.size (.slice (some ⟨g, 0, none⟩) n cap') (pgl S n)) := (by show World.ownsRow _ _ _ _ _ _ _; rw [pgl_len]; exact hown'); clear hown' hgrow hnil hg)
  go_ret
  obtain ⟨t1, t2, t3⟩ := table_of (T := 61) HW.out HO.out HL.out HN.out.1 HN.out.2.1 HG.out
  exact ⟨_, g, rfl, t1, t3, t2, HO.out.alloc _⟩
set_option maxRecDepth 100000 in
set_option maxHeartbeats 4000000 in
theorem same_any {w : World} {a b : Value} {l : List (Int × Int × Int)} (ha : SliceIs w a l) (hb : SliceIs w b l) (hl : l.length ≤ 4096) : Calls Tryd.prog 21 #[a, b] w fun e w' => e = .returned (.bool true) ∧ Out 0 0 w w' := by
  obtain ⟨aa, ca, rfl, ra⟩ := ha
  obtain ⟨ab, cb, rfl, rb⟩ := hb
  have RA := hid_mk ra
  have RB := hid_mk rb
  have HL := hid_mk hl
  obtain ⟨n, hn⟩ : ∃ n, l.length = n := ⟨_, rfl⟩
  rw [hn]
  have HN := hid_mk hn
  have he : ((n : Int) != (n : Int)) = false := by simp
  clear ra rb hl hn
  go_enter Tryd.func21, Tryd.ntmps21
  go_wp2
  go_loopw [5] (fun x wr => ∃ i : Nat, i ≤ n ∧ x = .int .i64 i ∧ Out 0 0 w wr) (fun x _ => n - (intOf x).toNat)
  case atStart => exact ⟨0, Nat.zero_le _, rfl, Out.refl _ _ _⟩
  case round =>
    obtain ⟨i, i1, rfl, ho⟩ := hrel
    have HO := hid_mk ho
    by_cases hi : i < n
    · have hi' : i < l.length := by rw [HN.out]; exact hi
      obtain ⟨g, rfl, g1, g2⟩ := RA.out (by omega)
      obtain ⟨g', rfl, g1', g2'⟩ := RB.out (by omega)
      obtain ⟨c0, c1, c2⟩ := (g2 i _ (List.getElem?_eq_getElem hi')).kept ho (.inr (Nat.zero_le _))
      obtain ⟨d0, d1, d2⟩ := (g2' i _ (List.getElem?_eq_getElem hi')).kept ho (.inr (Nat.zero_le _))
      generalize (l[i]).1 = x at *
      generalize (l[i]).2.1 = y at *
      generalize (l[i]).2.2 = z at *
      have hx : (x != x) = false := by simp
      have hy : (y != y) = false := by simp
      have hz : (z != z) = false := by simp
      have b0 : (0 : Int) ≤ (i : Int) := by omega
      have b1 : (i : Int) < (n : Int) := by omega
      have b2 : (n : Int) ≤ 4096 := by have := HL.out; have := HN.out; omega
      clear g2 g2' RA RB hi' ho
      go_wp2_with fail
      go_region
      all_goals go_wp2
      all_goals go_roundw
      case rel => exact ⟨i + 1, by omega, by go_num, HO.out.drew⟩
      case measure => simp [intOf]; omega
    · have : i = n := by omega
      subst this
      clear ho
      go_wp2
      go_ret
      exact ⟨rfl, HO.out⟩
theorem tc_alive : tcP (fun _ => (0, 0, 0)) 3 2 = 0 ∧ tcE (fun _ => (0, 0, 0)) 3 2 = 0 := by decide
theorem tr_alive : trP (tcS (fun _ => (0, 0, 0)) 3 2) 3 2 = 1 ∧ trE (tcS (fun _ => (0, 0, 0)) 3 2) 3 2 = 0 ∧ stP (trS (tcS (fun _ => (0, 0, 0)) 3 2) 3 2) 3 1 = (2, 0, 2) := by decide
set_option maxRecDepth 100000 in
set_option maxHeartbeats 4000000 in
theorem alive_any {w : World} (hT : Tab w) : Calls Tryd.prog 10 #[] w fun e w' => e = .returned (.bool true) ∧ Out 0 0 w w' := by
  have HN := hid_mk (new_yes hT 3 (by omega) (by omega))
  rw [show ((3 : Nat) : Int) = 3 from rfl] at HN
  have HT := hid_mk hT
  have HL := hid_mk hT.lt
  clear hT
  go_enter Tryd.func10, Tryd.ntmps10
  go_wp2_with (first | (go_at_call 24; refine HN.out.mono ?_; rintro e w1 ⟨rfl, ht, ho, hs⟩; have HC1 := hid_mk (takeClass_any ht (HT.out.quiet ho) 2); rw [tc_alive.1, tc_alive.2] at HC1; have HO1 := hid_mk ho; have HS1 := hid_mk hs; clear ht ho hs) | (go_at_call 20; refine HC1.out.mono ?_; rintro e w2 ⟨rfl, ht, ho⟩; have HO2 : Hid (Out 0 0 w w2) := HO1.out.past ho (Nat.le_refl _); have HC2 := hid_mk (takeRun_any ht (HT.out.quiet HO2.out) 2); rw [tr_alive.1, tr_alive.2.1] at HC2; clear ht ho) | (go_at_call 19; refine HC2.out.mono ?_; rintro e w3 ⟨rfl, ht, ho⟩; have HO3 : Hid (Out 0 0 w w3) := HO2.out.past ho (Nat.le_refl _); have HC3 := hid_mk (state_any ht 1); rw [tr_alive.2.2, show inB 3 1 = true from by decide, show pgV (2, 0, 2) = .agg #[.int .i64 2, .int .i64 0, .int .i64 2] from rfl] at HC3; clear ht ho) | (go_at_call 22; refine HC3.out.mono ?_; rintro e w4 ⟨rfl, ho⟩; have HO4 : Hid (Out 0 0 w w4) := HO3.out.trans ho; clear ho))
  all_goals go_ret
  all_goals exact ⟨rfl, by first | exact HO4.out | exact HO4.out.alloc _⟩
end Go.Proofs.YtfkmaanfgkkjcaaDoor
