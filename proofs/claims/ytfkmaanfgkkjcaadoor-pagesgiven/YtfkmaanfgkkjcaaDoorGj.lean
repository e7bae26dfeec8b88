/- the document's own table: Give, Copy; two lists; alive -/
import Derived.Test.YtfkmaanfgkkjcaaDoorGi
namespace Go.Proofs.YtfkmaanfgkkjcaaDoor
open Go.RowKit
set_option linter.unusedVariables false
set_option linter.unusedSimpArgs false

set_option maxRecDepth 100000 in
set_option maxHeartbeats 4000000 in
theorem refGive_class {w : World} {b bw n : Nat} {S : Nat → Int × Int × Int} (h : TblAt 61 w b bw n S) (p : Nat) (hp : p < n) (y z : Int) (hS : S p = (1, y, z)) (hg : Good n (setF S p 1)) (hpL : p + 1 ≤ n) :
    Calls Tryd.prog 40 #[.pointer (some ⟨b, 0, none⟩), .int .i64 p] w fun e w' => e = .returned (.int .i64 0) ∧ TblAt 61 w' b bw n (setF S p 1) ∧ Out bw (bw + 1) w w' := by
  obtain ⟨cap, c0, _⟩ := h.cell
  have HH := hid_mk h
  have HN := hid_mk h.nums
  have HG := hid_mk hg
  obtain ⟨q0, q1, q2⟩ := h.row.page hp hS
  have HR1 : Hid (PRow w bw n (putA S p 0 (0, 0, 0))) := by rw [putA_zero]; exact h.row
  have b0 : (0 : Int) ≤ (p : Int) := by omega
  have b1 : (p : Int) < (n : Int) := by omega
  have b2 : (n : Int) ≤ 4096 := by have := HN.out; omega
  have HC : Hid (∀ wr, Out bw (bw + 1) w wr → wr.cell? ⟨b, 0, none⟩ = some (.slice (some ⟨bw, 0, none⟩) n cap)) := fun wr o => o.cell c0 (by have := HN.out; omega)
  clear h hS hg
  go_enter Tryd.func40, Tryd.ntmps40
  go_wp2_with fail
  clear q0 q1 q2 c0
  go_loopw [6] (fun u wr => ∃ i : Nat, i ≤ 1 ∧ u = .int .i64 i ∧ PRow wr bw n (putA S p i (0, 0, 0)) ∧ Out bw (bw + 1) w wr) (fun u _ => 1 - (intOf u).toNat)
  case atStart => exact ⟨0, Nat.zero_le _, rfl, HR1.out, Out.refl _ _ _⟩
  case round =>
    clear HR1
    obtain ⟨i, i1, rfl, hr, ho⟩ := hrel
    have HO := hid_mk ho
    have c0 := HC.out _ ho
    have a0 : (0 : Int) ≤ (i : Int) := by omega
    by_cases hi : i < 1
    · have a1 : (i : Int) < (1 : Int) := by omega
      obtain ⟨x', y', z', hp'⟩ := page_of (putA S p i (0, 0, 0) (p + i))
      obtain ⟨q0, q1, q2⟩ := hr.page (by omega) hp'
      have fz0 := Row.frozen hr ((p + i) * 3)
      have fz1 := Row.frozen hr ((p + i) * 3 + 1)
      have fz2 := Row.frozen hr ((p + i) * 3 + 2)
      have hr2 := hr.set (p + i) 0 0 0
      rw [putA_step] at hr2
      have HR2 := hid_mk hr2
      have HO2 := hid_mk (ho.set3 (b := bw) (o := (p + i) * 3) (.inl ⟨Nat.le_refl _, Nat.lt_succ_self _⟩) (.int .i64 0) (.int .i64 0) (.int .i64 0))
      have b6 : ((p + i : Nat) : Int) < (n : Int) := by omega
      clear hr ho hp' hr2 HO
      go_wp2
      go_roundw
      case rel => exact ⟨i + 1, by omega, by go_num, HR2.out, HO2.out⟩
      case measure => simp [intOf]; omega
    · have a1 : (1 : Int) ≤ (i : Int) := by omega
      have HR2 : Hid (PRow wr bw n (setF S p 1)) := by rw [setF_eq]; rw [show i = 1 from by omega] at hr; exact hr
      clear hr ho hi
      go_wp2
      go_ret
      exact ⟨rfl, HH.out.turn HO.out HR2.out HG.out, HO.out⟩
set_option maxRecDepth 100000 in
set_option maxHeartbeats 4000000 in
theorem refGive_run {w : World} {b bw n : Nat} {S : Nat → Int × Int × Int} (h : TblAt 61 w b bw n S) (p : Nat) (hp : p < n) (y z : Int) (k : Nat) (hk2 : k ≤ 16) (hz : z = (k : Int)) (hS : S p = (2, y, z)) (hg : Good n (setF S p k)) (hpL : p + k ≤ n) :
    Calls Tryd.prog 40 #[.pointer (some ⟨b, 0, none⟩), .int .i64 p] w fun e w' => e = .returned (.int .i64 0) ∧ TblAt 61 w' b bw n (setF S p k) ∧ Out bw (bw + 1) w w' := by
  obtain ⟨cap, c0, _⟩ := h.cell
  have HH := hid_mk h
  have HN := hid_mk h.nums
  have HG := hid_mk hg
  obtain ⟨q0, q1, q2⟩ := h.row.page hp hS
  have HR1 : Hid (PRow w bw n (putA S p 0 (0, 0, 0))) := by rw [putA_zero]; exact h.row
  have b0 : (0 : Int) ≤ (p : Int) := by omega
  have b1 : (p : Int) < (n : Int) := by omega
  have b2 : (n : Int) ≤ 4096 := by have := HN.out; omega
  have HC : Hid (∀ wr, Out bw (bw + 1) w wr → wr.cell? ⟨b, 0, none⟩ = some (.slice (some ⟨bw, 0, none⟩) n cap)) := fun wr o => o.cell c0 (by have := HN.out; omega)
  clear h hS hg
  subst hz
  have b3 : (k : Int) ≤ 16 := by omega
  go_enter Tryd.func40, Tryd.ntmps40
  go_wp2_with fail
  clear q0 q1 q2 c0
  go_loopw [6] (fun u wr => ∃ i : Nat, i ≤ k ∧ u = .int .i64 i ∧ PRow wr bw n (putA S p i (0, 0, 0)) ∧ Out bw (bw + 1) w wr) (fun u _ => k - (intOf u).toNat)
  case atStart => exact ⟨0, Nat.zero_le _, rfl, HR1.out, Out.refl _ _ _⟩
  case round =>
    clear HR1
    obtain ⟨i, i1, rfl, hr, ho⟩ := hrel
    have HO := hid_mk ho
    have c0 := HC.out _ ho
    have a0 : (0 : Int) ≤ (i : Int) := by omega
    by_cases hi : i < k
    · have a1 : (i : Int) < (k : Int) := by omega
      obtain ⟨x', y', z', hp'⟩ := page_of (putA S p i (0, 0, 0) (p + i))
      obtain ⟨q0, q1, q2⟩ := hr.page (by omega) hp'
      have fz0 := Row.frozen hr ((p + i) * 3)
      have fz1 := Row.frozen hr ((p + i) * 3 + 1)
      have fz2 := Row.frozen hr ((p + i) * 3 + 2)
      have hr2 := hr.set (p + i) 0 0 0
      rw [putA_step] at hr2
      have HR2 := hid_mk hr2
      have HO2 := hid_mk (ho.set3 (b := bw) (o := (p + i) * 3) (.inl ⟨Nat.le_refl _, Nat.lt_succ_self _⟩) (.int .i64 0) (.int .i64 0) (.int .i64 0))
      have b6 : ((p + i : Nat) : Int) < (n : Int) := by omega
      clear hr ho hp' hr2 HO
      go_wp2
      go_roundw
      case rel => exact ⟨i + 1, by omega, by go_num, HR2.out, HO2.out⟩
      case measure => simp [intOf]; omega
    · have a1 : (k : Int) ≤ (i : Int) := by omega
      have HR2 : Hid (PRow wr bw n (setF S p k)) := by rw [setF_eq]; rw [show i = k from by omega] at hr; exact hr
      clear hr ho hi
      go_wp2
      go_ret
      exact ⟨rfl, HH.out.turn HO.out HR2.out HG.out, HO.out⟩
theorem refGive_no {w : World} {b bw n : Nat} {S : Nat → Int × Int × Int} (h : TblAt 61 w b bw n S) (p : Int) (hb : giveB S n p = false) :
    Calls Tryd.prog 40 #[.pointer (some ⟨b, 0, none⟩), .int .i64 p] w fun e w' => e = .returned (.int .i64 1) ∧ w' = w := by
  obtain ⟨cap, c0, _⟩ := h.cell
  have hn := h.nums
  by_cases hi : inB n p = true
  · unfold inB at hi
    simp at hi
    obtain ⟨k, rfl⟩ : ∃ k : Nat, p = k := ⟨p.toNat, by omega⟩
    have e1 : inB n (k : Int) = true := by unfold inB; simp; omega
    have hk : k < n := by omega
    have b0 : (0 : Int) ≤ (k : Int) := by omega
    have b1 : (k : Int) < (n : Int) := by omega
    have b2 : (n : Int) ≤ 4096 := by omega
    unfold giveB at hb
    rw [e1] at hb
    rcases h.good.cases hk with e | ⟨c, _, _, e⟩ | ⟨c, _, _, _, e⟩ | e
    · obtain ⟨q0, q1, q2⟩ := h.row.page hk e
      clear h hn hb e e1 hi
      go_enter Tryd.func40, Tryd.ntmps40
      go_wp2
      go_ret
      exact ⟨rfl, rfl⟩
    · rw [show ((k : Nat) : Int).toNat = k from by omega, e] at hb; simp at hb
    · rw [show ((k : Nat) : Int).toNat = k from by omega, e] at hb; simp at hb
    · obtain ⟨q0, q1, q2⟩ := h.row.page hk e
      clear h hn hb e e1 hi
      go_enter Tryd.func40, Tryd.ntmps40
      go_wp2
      go_ret
      exact ⟨rfl, rfl⟩
  · unfold inB at hi
    simp at hi
    have b2 : (n : Int) ≤ 4096 := by omega
    by_cases h0 : 0 ≤ p
    · have b1 : (n : Int) ≤ p := by omega
      clear h hn hb hi
      go_enter Tryd.func40, Tryd.ntmps40
      go_wp2
      go_ret
      exact ⟨rfl, rfl⟩
    · have b1 : p < 0 := by omega
      clear h hn hb hi h0
      go_enter Tryd.func40, Tryd.ntmps40
      go_wp2
      go_ret
      exact ⟨rfl, rfl⟩
theorem refGive_any {w : World} {b bw n : Nat} {S : Nat → Int × Int × Int} (h : TblAt 61 w b bw n S) (p : Int) :
    Calls Tryd.prog 40 #[.pointer (some ⟨b, 0, none⟩), .int .i64 p] w fun e w' => e = .returned (.int .i64 (gvE S n p)) ∧ TblAt 61 w' b bw n (gvS S n p) ∧ Out bw (bw + 1) w w' := by
  unfold gvE gvS
  by_cases hb : giveB S n p = true
  · rw [if_pos hb, if_pos hb]
    unfold giveB inB at hb
    simp at hb
    obtain ⟨k, rfl⟩ : ∃ k : Nat, p = k := ⟨p.toNat, by omega⟩
    have hk : k < n := by omega
    have hkind : (S k).1 = 1 ∨ (S k).1 = 2 := by simpa using hb.2
    rw [show ((k : Nat) : Int).toNat = k from by omega]
    obtain ⟨l1, l2, l3, _, hc⟩ := give_cases h.good hk hkind
    have hg := good_give h.good hk hkind
    obtain ⟨x, y, z, e⟩ := page_of (S k)
    rcases hc with ⟨c1, c2, c3⟩ | ⟨c1, c2⟩
    · rw [c2] at hg l3 ⊢
      rw [e] at c1
      simp at c1
      subst c1
      exact refGive_class h k hk y z e hg l3
    · rw [e] at c1 c2
      simp at c1 c2
      subst c1
      rw [e] at hg l3 l2 ⊢
      exact refGive_run h k hk y z (lenP (2, y, z)) l2 c2 e hg l3
  · rw [if_neg hb, if_neg hb]
    exact (refGive_no h p (by simpa using hb)).mono fun e w' ⟨a, o⟩ => ⟨a, by rw [o]; exact h, by rw [o]; exact Out.refl _ _ _⟩
/-! a copy of a list -/
theorem copy_run (w : World) (ty : TypeId) {bw n cap : Nat} {S : Nat → Int × Int × Int} (hr : PRow w bw n S) (h1 : 1 ≤ n) (h2 : n ≤ 4096) :
    ∃ g cap' w', (Builtin.append_ #[37, 37] ty #[.slice none 0 0, .slice (some ⟨bw, 0, none⟩) n cap]).run Tryd.prog w = .ok (.slice (some ⟨g, 0, none⟩) n cap') w' ∧ Out 0 0 w w' ∧ ListIs w' w.heap.size (.slice (some ⟨g, 0, none⟩) n cap') (pgl S n) := by
  obtain ⟨i0, hi0, hz0, hz1, hz2⟩ := info_parts info_page
  have hnews : ∀ j u, (pgs (pgl S n))[j]? = some u → w.cell? ((⟨bw, 0, none⟩ : Addr).add j) = some u := by
    intro j u hj
    have hjk : j < n * 3 := by
      have := (List.getElem?_eq_some_iff.1 hj).1
      rw [pgs_len, pgl_len] at this
      exact this
    rw [pgs_cell S n hjk] at hj
    cases hj
    rw [Addr.add_lit, Nat.zero_add]
    exact Row.cell hr hjk
  obtain ⟨v', w', hrun, r1, r2, r3⟩ := run_append_own (P := Tryd.prog) w w.heap.size 37 ty 45 i0 _ 3 24 Tryd.underlying37 hi0 hz0 hz1 hz2 rfl (by decide) (.slice none 0 0) 0 [] (World.ownsRow_nil w _ _ 3) ⟨bw, 0, none⟩ n cap (pgs (pgl S n)) (by rw [pgs_len, pgl_len]) hnews (pgs_one _) (by unfold maxLen; omega) (by omega) (Nat.le_refl _)
  rw [Nat.zero_add, List.nil_append] at r1
  obtain ⟨g, cap', rfl, hg, _⟩ := r1.form (by omega)
  refine ⟨g, cap', w', hrun, ⟨r2.os, r2.tape, r2.output, r2.size, fun k hk _ => r2.block k hk (by simp [Value.ownBlock])⟩, ?_⟩
  show World.ownsRow _ _ _ _ _ _ _
  rw [pgl_len]
  exact r1
end Go.Proofs.YtfkmaanfgkkjcaaDoor
