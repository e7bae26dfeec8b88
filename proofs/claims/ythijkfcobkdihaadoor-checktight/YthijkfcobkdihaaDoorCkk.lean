/- package check: through an instruction, in one -/
import Derived.Test.YthijkfcobkdihaaDoorCkj1
import Derived.Test.YthijkfcobkdihaaDoorCkj2
import Derived.Test.YthijkfcobkdihaaDoorCkj3
import Derived.Test.YthijkfcobkdihaaDoorCkj4
namespace Go.Proofs.YthijkfcobkdihaaDoor
open Go.RowKit
set_option linter.unusedVariables false
set_option linter.unusedSimpArgs false

theorem wr_sub {di t : Int} (h1 : -1 ≤ di ∧ di ≤ 64) (h2 : 0 ≤ t ∧ t ≤ 64) : IntKind.i64.wrap (di - t) = di - t := by
  simp [IntKind.wrap, IntKind.signed, IntKind.bits]; omega
theorem wr_add {e1 pv : Int} (h1 : -65 ≤ e1 ∧ e1 ≤ 64) (h2 : 0 ≤ pv ∧ pv ≤ 2) : wrap64 (e1 + pv) = e1 + pv := by unfold wrap64; omega
theorem wr_one {i : Nat} (h : i ≤ 5000) : IntKind.i64.wrap ((i : Int) + 1) = ((i + 1 : Nat) : Int) ∧ wrap64 ((i : Int) + 1) = ((i + 1 : Nat) : Int) := by
  constructor
  · simp [IntKind.wrap, IntKind.signed, IntKind.bits]; omega
  · unfold wrap64; omega
theorem pt_le (op : Int) : ptV op ≤ 2 := by unfold ptV; split; decide; split <;> decide
theorem on_len {s s' : List Int × List Nat} {j : Nat} {d : Int} (h : onF s j d = some s') : s'.2.length ≤ s.2.length + 1 := by
  unfold onF at h
  split at h
  · cases h; simp [ins_len]
  · split at h
    · cases h; omega
    · cases h
theorem in_cells {w : World} {B i : Nat} {ca : Option Addr} {cd : List (Int × Int)} {op a : Int} (h : InIn w B ca cd) (hx : cd[i]? = some (op, a)) : ∃ q off, ca = some ⟨q, off, none⟩ ∧ q < B ∧ w.cell? ⟨q, off + i * 2, none⟩ = some (.int .i64 op) ∧ w.cell? ⟨q, off + i * 2 + 1, none⟩ = some (.int .i64 a) := by
  rcases h with h | ⟨q, off, h1, h2, h3⟩
  · rw [h] at hx; simp at hx
  · obtain ⟨c1, c2⟩ := h3 i _ hx
    exact ⟨q, off, h1, h2, c1, c2⟩
theorem st_74 {t di : Int} {n i : Nat} {x : Int × Int} {s : List Int × List Nat} (hg : s.1.getD i 0 = di) (c1 : di - t < 0) : stF t n i x s = .inl 74 := by
  unfold stF; rw [if_pos (by rw [hg]; exact c1)]
theorem st_75 {t di : Int} {n i : Nat} {x : Int × Int} {s : List Int × List Nat} (hg : s.1.getD i 0 = di) (c1 : ¬ di - t < 0) (c2 : 64 < di - t + ptV x.1) : stF t n i x s = .inl 75 := by
  unfold stF; rw [if_neg (by rw [hg]; exact c1), if_pos (by rw [hg]; exact c2)]
theorem st_er {t di e : Int} {n i : Nat} {x : Int × Int} {s : List Int × List Nat} (hg : s.1.getD i 0 = di) (c1 : ¬ di - t < 0) (c2 : ¬ 64 < di - t + ptV x.1) (h : nxF n i x.1 (di - t + ptV x.1) s = .inl e) : stF t n i x s = .inl e := by
  unfold stF; rw [if_neg (by rw [hg]; exact c1), if_neg (by rw [hg]; exact c2), hg, h]
theorem st_go {t di : Int} {n i : Nat} {x : Int × Int} {s s1 : List Int × List Nat} (hg : s.1.getD i 0 = di) (c1 : ¬ di - t < 0) (c2 : ¬ 64 < di - t + ptV x.1) (h : nxF n i x.1 (di - t + ptV x.1) s = .inr s1) : stF t n i x s = juF x.1 x.2 (di - t + ptV x.1) s1 := by
  unfold stF; rw [if_neg (by rw [hg]; exact c1), if_neg (by rw [hg]; exact c2), hg, h]
theorem ju_of {op a d : Int} {s : List Int × List Nat} (h : juB op = true) : juF op a d s = ofO (onF s a.toNat d) := by
  unfold juF ofO; rw [if_pos h]
  rcases onF s a.toNat d with _ | s2 <;> rfl
theorem lt_dec {m n : Nat} (h : m < n) : decide ((m : Int) < (n : Int)) = true ∧ decide (m < n) = true := ⟨by simp; omega, by simpa using h⟩
theorem ge_dec {m n : Nat} (h : ¬ m < n) : decide ((m : Int) < (n : Int)) = false ∧ decide (m < n) = false := ⟨by simp; omega, by simpa using h⟩
theorem le_dec {e : Int} (h : ¬ 64 < e) : decide (e ≤ 64) = true := by simp; omega
theorem gt_dec {e : Int} (h : 64 < e) : decide (e ≤ 64) = false := by simp; omega
theorem nn_dec {e : Int} (h : ¬ e < 0) : decide (0 ≤ e) = true := by simp; omega
theorem ng_dec {e : Int} (h : e < 0) : decide (0 ≤ e) = false := by simp; omega
theorem sb_rng {di t : Int} (hd : -1 ≤ di ∧ di ≤ 64) (ht : 0 ≤ t ∧ t ≤ 64) : -65 ≤ di - t ∧ di - t ≤ 64 := by omega
theorem on_rng {e pv : Int} (h : ¬ e < 0) (hp : 0 ≤ pv) (h2 : ¬ 64 < e + pv) : 0 ≤ e + pv ∧ e + pv ≤ 64 := by omega
theorem le5 {n : Nat} (h : n ≤ 4500) : n ≤ 5000 := by omega
theorem le6 {n m : Nat} (h : n ≤ 4500) (h2 : m ≤ n + 1) : m ≤ 5000 := by omega
theorem le7 {i n : Nat} (h : i < n) (h2 : n ≤ 4096) : i ≤ 5000 := by omega
theorem nat_of {a : Int} {n : Nat} (h : 0 ≤ a ∧ a < (n : Int)) : a.toNat < n ∧ a = (a.toNat : Int) := by omega
set_option maxHeartbeats 1000000 in
theorem thr_any {w : World} (P L C : Int) (ca : Option Addr) (n cc : Nat) (k g : Int) (ta : Option Addr) (nt tc : Nat) (fa : Option Addr) (nf fc : Nat) {p dg B i : Nat} {D : List Int} {R : List Nat} {ro : Option Nat} {fs : List (Int × Int × Int × List (Int × Int))} {cd : List (Int × Int)} {op a di : Int} (h : WK w P L C ca n cc k g ta nt tc fa nf fc p dg D R ro) (hO : WO n (D, R)) (hcode : InIn w B ca cd) (hcl : cd.length = n) (hn : n ≤ 4096) (hfs : FnIn w B fa fs) (hnf : fs.length = nf) (hB : B ≤ dg) (hx : cd[i]? = some (op, a)) (hop : opS op ≠ 0) (h16 : op = 16 → 0 ≤ a ∧ a < (nf : Int)) (h17 : op = 17 ∨ op = 18 → 0 ≤ a ∧ a ≤ 8) (hju : juB op = true → 0 ≤ a ∧ a < (n : Int)) (ht : 0 ≤ tkV fs (op, a) ∧ tkV fs (op, a) ≤ 64) (hdi : D[i]? = some di) (hR : R.length ≤ 4500) :
    Calls Tryd.prog 76 #[.pointer (some ⟨p, 0, none⟩), .int .i64 i] w (ThQ w P L C ca n cc k g ta nt tc fa nf fc p dg ro i (stF (tkV fs (op, a)) n i (op, a) (D, R))) := by
  have hin : i < n := by have := (List.getElem?_eq_some_iff.1 hx).1; omega
  obtain ⟨q, off, rfl, hq, i0, i1⟩ := in_cells hcode hx
  have hd2 := hO.2.1 i di hdi
  have HT : Hid (∀ w' : World, FnIn w' B fa fs → B ≤ w'.heap.size → Calls Tryd.prog 89 #[.agg #[.int .i64 P, .int .i64 L, .int .i64 C, .slice (some ⟨q, off, none⟩) n cc, .int .i64 k, .int .i64 g, .slice ta nt tc, .slice fa nf fc], .agg #[.int .i64 op, .int .i64 a]] w' fun x w'' => x = .returned (.int .i64 (tkV fs (op, a))) ∧ Out 0 0 w' w'') := hid_mk fun w' z1 z2 => takes_any op a P L C (some ⟨q, off, none⟩) n cc k g ta nt tc fa nf fc hop z1 hnf z2 h16 h17
  have hg : (D, R).1.getD i 0 = di := by show D.getD i 0 = di; rw [List.getD_eq_getElem?_getD, hdi]; rfl
  generalize htt : tkV fs (op, a) = t at *
  have hw1 := hid_mk (wr_sub hd2 ht)
  have HP : Hid (∀ w : World, Calls Tryd.prog 90 #[.int .i64 op] w fun x w' => x = .returned (.int .i64 (ptV op)) ∧ w' = w) := hid_mk (puts_any op)
  by_cases c1 : di - t < 0
  · rw [st_74 hg c1]
    exact thr_A h hq i0 i1 hin hfs hB HT hdi hw1.out (ng_dec c1)
  have hw2 := hid_mk (wr_add (e1 := di - t) (pv := ptV op) (sb_rng hd2 ht) ⟨pt_nn op, pt_le op⟩)
  have d1 := nn_dec c1
  by_cases c2 : 64 < di - t + ptV op
  · rw [st_75 hg c1 c2]
    exact thr_B h hq i0 i1 hin hfs hB HT hdi hw1.out d1 HP hw2.out (gt_dec c2)
  have d2 := le_dec c2
  have HJ0 := hid_mk (jumps_any op)
  have HG0 := hid_mk (goesOn_any op)
  by_cases cg : goB op = true
  · have HG : Hid (∀ w : World, Calls Tryd.prog 91 #[.int .i64 op] w fun x w' => x = .returned (.bool true) ∧ w' = w) := hid_mk fun w => by have := HG0.out w; rwa [cg] at this
    have hm := hid_mk (wr_one (le7 hin hn))
    by_cases cm : i + 1 < n
    · have l1 := lt_dec cm
      rcases ho : onF (D, R) (i + 1) (di - t + ptV op) with _ | s1
      · rw [st_er hg c1 c2 (e := 76) (by unfold nxF; rw [if_pos cg, if_pos cm, ho])]
        exact thr_C4 h hq i0 i1 hin hfs hB HT hdi hw1.out hO hR d1 HP hw2.out d2 HG hm.out.1 hm.out.2 cm l1.1 l1.2 ho
      · rw [st_go hg c1 c2 (s1 := s1) (by unfold nxF; rw [if_pos cg, if_pos cm, ho])]
        by_cases cj : juB op = true
        · have HJ : Hid (∀ w : World, Calls Tryd.prog 52 #[.int .i64 op] w fun x w' => x = .returned (.bool true) ∧ w' = w) := hid_mk fun w => by have := HJ0.out w; rwa [cj] at this
          obtain ⟨a0, a1⟩ := nat_of (hju cj)
          have hW1 := (on_ok hO (on_rng c1 (pt_nn op) c2).1 (on_rng c1 (pt_nn op) c2).2 ho).1
          rw [ju_of cj]
          exact thr_C6 h hq i0 i1 hin hfs hB HT hdi hw1.out hO hR d1 HP hw2.out d2 HG hm.out.1 hm.out.2 cm l1.1 l1.2 HJ ho (mj := a.toNat) a0 a1 ⟨hW1, le6 hR (on_len ho)⟩ rfl
        · have cj' : juB op = false := by simpa using cj
          have HJ : Hid (∀ w : World, Calls Tryd.prog 52 #[.int .i64 op] w fun x w' => x = .returned (.bool false) ∧ w' = w) := hid_mk fun w => by have := HJ0.out w; rwa [cj'] at this
          rw [show juF op a (di - t + ptV op) s1 = .inr s1 by unfold juF; rw [if_neg cj]]
          exact thr_C5 h hq i0 i1 hin hfs hB HT hdi hw1.out hO hR d1 HP hw2.out d2 HG hm.out.1 hm.out.2 cm l1.1 l1.2 HJ ho
    · have l1 := ge_dec cm
      rw [st_er hg c1 c2 (e := 77) (by unfold nxF; rw [if_pos cg, if_neg cm])]
      exact thr_C3 h hq i0 i1 hin hfs hB HT hdi hw1.out d1 HP hw2.out d2 HG hm.out.1 hm.out.2 l1.1 l1.2
  · have cg' : goB op = false := by simpa using cg
    have HG : Hid (∀ w : World, Calls Tryd.prog 91 #[.int .i64 op] w fun x w' => x = .returned (.bool false) ∧ w' = w) := hid_mk fun w => by have := HG0.out w; rwa [cg'] at this
    rw [st_go hg c1 c2 (s1 := (D, R)) (by unfold nxF; rw [if_neg cg])]
    by_cases cj : juB op = true
    · have HJ : Hid (∀ w : World, Calls Tryd.prog 52 #[.int .i64 op] w fun x w' => x = .returned (.bool true) ∧ w' = w) := hid_mk fun w => by have := HJ0.out w; rwa [cj] at this
      obtain ⟨a0, a1⟩ := nat_of (hju cj)
      rw [ju_of cj]
      exact thr_C2 h hq i0 i1 hin hfs hB HT hdi hw1.out hO (le5 hR) (mj := a.toNat) a0 a1 d1 HP hw2.out d2 HG HJ rfl
    · have cj' : juB op = false := by simpa using cj
      have HJ : Hid (∀ w : World, Calls Tryd.prog 52 #[.int .i64 op] w fun x w' => x = .returned (.bool false) ∧ w' = w) := hid_mk fun w => by have := HJ0.out w; rwa [cj'] at this
      rw [show juF op a (di - t + ptV op) (D, R) = .inr (D, R) by unfold juF; rw [if_neg cj]]
      exact thr_C1 h hq i0 i1 hin hfs hB HT hdi hw1.out d1 HP hw2.out d2 HG HJ
end Go.Proofs.YthijkfcobkdihaaDoor
