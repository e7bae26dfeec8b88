/- the law of chapter 10: Parts, fits -/
import Derived.Test.YtghlbdmldahnlaaGreatDoorGse
namespace Go.Proofs.YtghlbdmldahnlaaGreatDoor
open Go.RowKit
set_option linter.unusedVariables false
set_option linter.unusedSimpArgs false

/-- no list is longer than the machine's -/
def Lm (ns : List (Int × Int × List Int × List Int × List Int)) (rs : List Int) : Prop := (ns.length : Int) ≤ 1152921504606846976 ∧ (rs.length : Int) ≤ 1152921504606846976 ∧ ∀ n ∈ ns, (n.2.2.1.length : Int) ≤ 1152921504606846976 ∧ (n.2.2.2.1.length : Int) ≤ 1152921504606846976 ∧ (n.2.2.2.2.length : Int) ≤ 1152921504606846976
def Ub (ns : List (Int × Int × List Int × List Int × List Int)) (rs : List Int) (i : Nat) (N : Int) : Prop := (i : Int) ≤ N ∧ (rs.length : Int) ≤ 2 * N ∧ N ≤ 4611686018427387904 ∧ ∀ n ∈ ns.take i, (n.2.2.1.length : Int) ≤ N ∧ (n.2.2.2.1.length : Int) ≤ 2 * N ∧ (n.2.2.2.2.length : Int) ≤ 4 * N
theorem Ub.up {ns : List (Int × Int × List Int × List Int × List Int)} {rs : List Int} {i : Nat} {N : Int} (h : Ub ns rs i N) {a k : Int} {r f e : List Int} {nr nf ne : Nat} (hn : ns[i]? = some (a, k, r, f, e)) (h1 : r.length = nr * 1) (h2 : f.length = nf * 2) (h3 : e.length = ne * 4) (hN : N ≤ 20000) (hl : Lm ns rs) :
    wrap64 (wrap64 (wrap64 (wrap64 (N + 1) + (nr : Int)) + (nf : Int)) + (ne : Int)) = N + 1 + nr + nf + ne ∧ Ub ns rs (i + 1) (N + 1 + nr + nf + ne) := by
  have hm := hl.2.2 _ (List.mem_of_getElem? hn)
  simp only [] at hm
  have h0 : 0 ≤ N := by have := h.1; omega
  have w1 : wrap64 (N + 1) = N + 1 := by unfold wrap64; omega
  have w2 : wrap64 (N + 1 + (nr : Int)) = N + 1 + nr := by unfold wrap64; omega
  have w3 : wrap64 (N + 1 + nr + (nf : Int)) = N + 1 + nr + nf := by unfold wrap64; omega
  have w4 : wrap64 (N + 1 + nr + nf + (ne : Int)) = N + 1 + nr + nf + ne := by unfold wrap64; omega
  refine ⟨by rw [w1, w2, w3, w4], by have := h.1; omega, by have := h.2.1; omega, by omega, fun n q => ?_⟩
  rw [List.take_add_one, hn] at q
  rcases List.mem_append.1 q with q | q
  · have := h.2.2.2 n q
    omega
  · simp at q
    subst q
    simp only []
    omega
/-- what Parts tells -/
def PtQ (w : World) (ns : List (Int × Int × List Int × List Int × List Int)) (rs : List Int) (e : Ending) (w' : World) : Prop := (∃ N : Int, e = .returned (.int .i64 N) ∧ (N ≤ 20000 → Ub ns rs ns.length N)) ∧ Out 0 0 w w'
theorem PtQ.mk' {w w' : World} {ns : List (Int × Int × List Int × List Int × List Int)} {rs : List Int} {N : Int} (h : N ≤ 20000 → Ub ns rs ns.length N) (o : Out 0 0 w w') : PtQ w ns rs (.returned (.int .i64 N)) w' := ⟨⟨N, rfl, h⟩, o⟩
set_option maxRecDepth 100000 in
set_option maxHeartbeats 4000000 in
theorem parts_any {w : World} {B : Nat} (na ra : Option Addr) (nn nr cn cr : Nat) (ns : List (Int × Int × List Int × List Int × List Int)) (rs : List Int) (h1 : ns.length = nn) (h2 : rs.length = nr * 2) (h3 : NdIn w B na ns) (hl : Lm ns rs) :
    Calls Tryz.prog 14 #[.agg #[.slice na nn cn, .slice ra nr cr], .int .i64 20000] w (PtQ w ns rs) := by
  have b1 := Bl.new w #[.slice na nn cn, .slice ra nr cr] 25
  have o0 := (Out.refl 0 0 w).alloc (.cells #[.slice na nn cn, .slice ra nr cr] 25)
  obtain ⟨V, hV⟩ : ∃ V, w.alloc (.cells #[.slice na nn cn, .slice ra nr cr] 25) = V := ⟨_, rfl⟩
  obtain ⟨z, hz⟩ : ∃ z, w.heap.size = z := ⟨_, rfl⟩
  rw [hV] at b1 o0
  rw [hz] at b1
  have H := hid_mk (And.intro h1 (And.intro h2 (And.intro (h3.quiet o0) (And.intro hl o0))))
  have HB := hid_mk b1
  have c1 := b1.cell (i := 1) rfl
  have HU : Hid (Ub ns rs 0 (nr : Int)) := hid_mk ⟨by omega, by omega, by have := hl.2.1; omega, by simp⟩
  clear b1 h1 h2 h3 hl o0
  go_enter Tryz.func14, Tryz.ntmps14
  go_upto_region 1 with fail
  (try rw [hV]); (try rw [hz])
  clear hV hz
  go_wp2_with fail
  clear c1
  go_loopw [5, 6] (fun nv iv wr => ∃ (i : Nat) (N : Int), iv = .int .i64 i ∧ i ≤ nn ∧ nv = .int .i64 N ∧ Ub ns rs i N ∧ Out 0 0 V wr) (fun _ iv _ => nn - (intOf iv).toNat)
  case atStart => exact ⟨0, _, rfl, Nat.zero_le _, rfl, HU.out, Out.refl _ _ _⟩
  case round =>
    obtain ⟨i, N, rfl, him, rfl, hU, ho⟩ := hrel
    have HU2 := hid_mk hU
    have HO := hid_mk ho
    have v0 := ho.cell (HB.out.cell (i := 0) rfl) (.inr (Nat.zero_le _))
    clear hU ho
    by_cases hgo : i < nn
    · have g1 := lt_i hgo
      obtain ⟨m1, m2⟩ := lt_d hgo
      by_cases hN : N ≤ 20000
      · have hNd : decide (N ≤ 20000) = true := by simpa using hN
        obtain ⟨⟨a, k, r, f, e⟩, ha⟩ : ∃ x, ns[i]? = some x := ⟨_, List.getElem?_eq_getElem (by have := H.out.1; omega)⟩
        obtain ⟨g, off, rfl, hg, hc⟩ := (H.out.2.2.1.quiet HO.out).at ha
        obtain ⟨pr, lr, cr', pf, lf, cf, pe, le, ce, c0, c1, c2, c3, c4, q1, q2, q3, q4, q5, q6⟩ := hc
        simp only [] at c0 c1 c2 c3 c4 q1 q2 q3 q4 q5 q6
        have HX := hid_mk (HU2.out.up ha q1 q2 q3 hN H.out.2.2.2.1)
        have nb : (i : Int) ≤ 20000 := by have := HU2.out.1; omega
        have u1 := cell_lt c0
        clear ha q1 q2 q3 q4 q5 q6 hN
        go_wp2_with fail
        go_roundw
        case rel => exact ⟨i + 1, _, by go_num, hgo, rfl, by rw [HX.out.1]; exact HX.out.2, HO.out.trans ((Out.refl 0 0 wr).alloc _)⟩
        case measure => simp [intOf]; omega
      · have hNd : decide (N ≤ 20000) = false := by simpa using hN
        have HN := hid_mk hN
        clear hN
        go_wp2_with fail
        go_ret
        exact PtQ.mk' (fun q => by have := HN.out; omega) (H.out.2.2.2.2.trans HO.out)
    · obtain rfl : nn = i := by omega
      have m1 : decide ((nn : Int) < (nn : Int)) = false := by simp
      clear hgo him
      go_wp2_with fail
      go_ret
      exact PtQ.mk' (fun _ => by rw [H.out.1]; exact HU2.out) (H.out.2.2.2.2.trans HO.out)
def FtQ (w : World) (ns : List (Int × Int × List Int × List Int × List Int)) (rs : List Int) (e : Ending) (w' : World) : Prop := (∃ b, e = .returned (.bool b) ∧ (b = true → ns.length ≤ 20000 ∧ Sn ns ∧ rs.length ≤ 200000)) ∧ Out 0 0 w w'
theorem Ub.sn {ns : List (Int × Int × List Int × List Int × List Int)} {rs : List Int} {N : Int} (h : Ub ns rs ns.length N) (hN : N ≤ 20000) : ns.length ≤ 20000 ∧ Sn ns ∧ rs.length ≤ 200000 := by
  refine ⟨by have := h.1; omega, ⟨by have := h.1; omega, fun n hn => ?_⟩, by have := h.2.1; omega⟩
  have := h.2.2.2 n (by rw [List.take_length]; exact hn)
  omega
set_option maxRecDepth 100000 in
set_option maxHeartbeats 4000000 in
theorem fits_any {w : World} {B : Nat} (na ra : Option Addr) (nn nr cn cr : Nat) (ns : List (Int × Int × List Int × List Int × List Int)) (rs : List Int) (h1 : ns.length = nn) (h2 : rs.length = nr * 2) (h3 : NdIn w B na ns) (hl : Lm ns rs) :
    Calls Tryz.prog 5 #[.agg #[.slice na nn cn, .slice ra nr cr]] w (FtQ w ns rs) := by
  have HQ := hid_mk (And.intro h1 (And.intro h2 (And.intro (h3.quiet ((Out.refl 0 0 w).alloc (.cells #[.slice na nn cn, .slice ra nr cr] 25))) hl)))
  clear h1 h2 h3 hl
  go_enter Tryz.func5, Tryz.ntmps5
  go_wp2_with (go_at_call 14; refine (parts_any na ra nn nr cn cr ns rs HQ.out.1 HQ.out.2.1 HQ.out.2.2.1 HQ.out.2.2.2).mono ?_; rintro en w1 ⟨⟨N, rfl, hN⟩, o1⟩; have HN := hid_mk hN; clear hN)
  go_ret
  exact ⟨⟨_, rfl, fun q => (HN.out (by simpa using q)).sn (by simpa using q)⟩, ((Out.refl 0 0 w).alloc _).trans o1⟩
end Go.Proofs.YtghlbdmldahnlaaGreatDoor
