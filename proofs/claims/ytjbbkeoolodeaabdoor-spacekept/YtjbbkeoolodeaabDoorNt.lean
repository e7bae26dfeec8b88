import Derived.Test.YtjbbkeoolodeaabDoorNi
import Derived.Test.YtjbbkeoolodeaabDoorNh
import Derived.Test.YtjbbkeoolodeaabDoorMl
import Derived.Test.YtjbbkeoolodeaabDoorNe
namespace Go.Proofs.YtjbbkeoolodeaabDoor
open Go.RowKit
set_option linter.unusedVariables false
set_option linter.unusedSimpArgs false

section
variable {n : Nat} {st : Sp} {l : List (Nat × Blk)}
theorem hd_none (hI : Inv n st) (hR : Rt n st) (k : Nat) : hdBad (rawOf n st) k = false := by
  unfold hdBad
  cases hP : (rawOf n st).P k with
  | false => rfl
  | true =>
    have hb : hasB (st.O k) = true := by rw [← ob_has hI]; exact hP
    obtain ⟨b, hM⟩ := told_of st k hP
    obtain ⟨rfl, _⟩ := obM_of hM
    rw [hM]
    have := hR.2 k hb
    show (true && !(st.W k == _)) = false
    rw [this]; simp
theorem lk_none (hR : Rt n st) (c k : Nat) : lkBad n (rawOf n st) c k = false := by
  unfold lkBad
  cases hF : (rawOf n st).F c k with
  | false => rfl
  | true =>
    have := hR.1 (c : Int) k hF
    show (true && !(st.W k == linkV (nxr (fr n st c) (64 * n) (k + 1)))) = false
    rw [this]
    show (true && !(linkV (nf n st c (k + 1)) == linkV (nf n st c (k + 1)))) = false
    simp
theorem wr_none (hI : Inv n st) (hR : Rt n st) : ∀ c k, wrTo n (rawOf n st) c k = false
  | 0, k => hd_none hI hR k
  | c + 1, k => by
    show (wrTo n (rawOf n st) c k || lkBad n (rawOf n st) c k) = false
    rw [wr_none hI hR c k, lk_none hR c k]; rfl
theorem wrong_none (hI : Inv n st) (hR : Rt n st) : nxr (wrTo n (rawOf n st) 8) (64 * n) 0 = -1 := by
  rcases nxr_cases (wrTo n (rawOf n st) 8) (64 * n) 0 with ⟨e, _⟩ | ⟨i, _, _, _, e, _⟩
  · exact e
  · rw [wr_none hI hR 8 i] at e; cases e
end
end Go.Proofs.YtjbbkeoolodeaabDoor
namespace Go.Proofs.YtjbbkeoolodeaabDoor
open Go.RowKit
set_option linter.unusedVariables false
set_option linter.unusedSimpArgs false

def smG : List OpQ → Nat → Nat → Bool
  | _, n, 0 => decide (n ≤ 8000)
  | [], n, _ + 1 => decide (n ≤ 8000)
  | o :: t, n, k + 1 => decide (n ≤ 8000) && (decide (o.L.length ≤ 400) && smG t (n + o.L.length) k)
def smB (os : List OpQ) : Bool := smG os 0 120
theorem smG_all : ∀ (k : Nat) (os : List OpQ) (n : Nat), smG os n k = true → ∀ (j : Nat) (o : OpQ), os[j]? = some o → j < k → o.L.length ≤ 400
  | 0, _, _, _, j, o, _, hj => by omega
  | k + 1, [], _, _, j, o, h, _ => by simp at h
  | k + 1, q :: t, n, h, j, o, ho, hj => by
    unfold smG at h
    simp only [Bool.and_eq_true, decide_eq_true_eq] at h
    cases j with
    | zero => simp at ho; subst ho; exact h.2.1
    | succ j => exact smG_all k t _ h.2.2 j o (by simpa using ho) (by omega)
theorem smB_all {os : List OpQ} (h : smB os = true) : ∀ (j : Nat) (o : OpQ), os[j]? = some o → j < 120 → o.L.length ≤ 400 := smG_all 120 os 0 h
theorem smG_end {os : List OpQ} {n k : Nat} (h : os = [] ∨ k = 0) : smG os n k = decide (n ≤ 8000) := by
  rcases h with rfl | rfl
  · cases k <;> rfl
  · cases os <;> rfl
theorem smG_step {os : List OpQ} {o : OpQ} {i n : Nat} (ho : os[i]? = some o) (hi : i < 120) : smG (os.drop i) n (120 - i) = (decide (n ≤ 8000) && (decide (o.L.length ≤ 400) && smG (os.drop (i + 1)) (n + o.L.length) (120 - (i + 1)))) := by
  obtain ⟨h1, h2⟩ := List.getElem?_eq_some_iff.1 ho
  rw [List.drop_eq_getElem_cons h1, h2, show 120 - i = (120 - (i + 1)) + 1 from by omega]
  rfl
set_option maxRecDepth 100000 in
set_option maxHeartbeats 4000000 in
theorem small_at {w : World} {b : Nat} {os : List OpQ} {p : Option Addr} {cp : Nat} (hS : ScrAt w b p os) :
    Calls Tryd.prog 9 #[.slice p os.length cp] w fun e w' => w' = w ∧ e = .returned (.bool (smB os)) := by
  have HSc := hid_mk hS
  have ll0 : (0 : Int) ≤ (os.length : Int) := by omega
  clear hS
  go_enter Tryd.func9, Tryd.ntmps9
  go_wp2_with fail
  go_loopw [3, 4] (fun nv u wr => ∃ (i n : Nat), u = .int .i64 (i : Int) ∧ nv = .int .i64 (n : Int) ∧ i ≤ os.length ∧ i ≤ 120 ∧ n ≤ 400 * i ∧ wr = w ∧ smG (os.drop i) n (120 - i) = smB os) (fun _ u _ => 120 - (intOf u).toNat)
  case atStart => exact ⟨0, 0, rfl, rfl, Nat.zero_le _, by omega, by omega, rfl, rfl⟩
  case round =>
    obtain ⟨i, n, rfl, rfl, i1, i2, i3, rfl, hl⟩ := hrel
    have i0 : (0 : Int) ≤ (i : Int) := by omega
    have n0 : (0 : Int) ≤ (n : Int) := by omega
    have i4 : (i : Int) ≤ 120 := by omega
    have n4 : (n : Int) ≤ 48000 := by omega
    have HL := hid_mk hl
    clear hl
    by_cases hi : i < os.length ∧ i < 120
    · have j1 : (i : Int) < (os.length : Int) := by omega
      have j2 : (i : Int) < 120 := by omega
      obtain ⟨o, ho⟩ : ∃ o, os[i]? = some o := ⟨_, List.getElem?_eq_getElem hi.1⟩
      have hst := smG_step (n := n) ho hi.2
      rw [HL.out] at hst
      by_cases hn : n ≤ 8000
      · have j3 : (n : Int) ≤ 8000 := by omega
        rw [decide_eq_true hn, Bool.true_and] at hst
        rcases HSc.out.2 with e | ⟨g, off, hp, hgb, hcell⟩
        · rw [e] at hi; simp at hi
        subst hp
        obtain ⟨x, lp, lc, c0, c1, c2, c3, c4, c5, c6⟩ := hcell i o ho
        obtain ⟨m, hm⟩ : ∃ m, o.L.length = m := ⟨_, rfl⟩
        rw [hm] at c5 hst
        have m0 : (0 : Int) ≤ (m : Int) := by omega
        clear hcell c0 c1 c2 c3 c4 c6 ho hm
        by_cases hm4 : m ≤ 400
        · have m4 : ¬ (400 : Int) < (m : Int) := by omega
          have m5 : decide ((400 : Int) < (m : Int)) = false := decide_eq_false m4
          have m6 : (m : Int) ≤ 400 := by omega
          rw [decide_eq_true hm4, Bool.true_and] at hst
          have HST := hid_mk hst
          clear hst
          go_wp2
          go_roundw
          case rel => exact ⟨i + 1, n + m, by go_num, by go_num, by omega, by omega, by omega, trivial, HST.out.symm⟩
          case measure => simp [intOf]; omega
        · have m4 : (400 : Int) < (m : Int) := by omega
          rw [decide_eq_false hm4, Bool.false_and] at hst
          have HST := hid_mk hst
          clear hst
          go_wp2
          go_ret
          exact ⟨rfl, by rw [HST.out]; rfl⟩
      · have j3 : ¬ (n : Int) ≤ 8000 := by omega
        have j4 : decide ((n : Int) ≤ 8000) = false := decide_eq_false j3
        rw [decide_eq_false hn, Bool.false_and] at hst
        have HST := hid_mk hst
        clear hst
        go_wp2
        go_ret
        exact ⟨rfl, by rw [HST.out]; rfl⟩
    · have hE : smB os = decide ((n : Int) ≤ 8000) := by
        rw [← HL.out, smG_end]
        · by_cases e : n ≤ 8000
          · rw [decide_eq_true e, decide_eq_true (by omega)]
          · rw [decide_eq_false e, decide_eq_false (by omega)]
        · by_cases e : i < os.length
          · right; omega
          · left; exact List.drop_eq_nil_of_le (by omega)
      obtain ⟨r, hr⟩ : ∃ r, decide ((n : Int) ≤ 8000) = r := ⟨_, rfl⟩
      rw [hr] at hE
      have HE := hid_mk hE
      clear hE
      by_cases hi2 : i < os.length
      · have j1 : (i : Int) < (os.length : Int) := by omega
        have j2 : ¬ (i : Int) < 120 := by omega
        have j3 : decide ((i : Int) < 120) = false := decide_eq_false j2
        cases r
        · go_wp2
          go_ret
          exact ⟨rfl, by rw [HE.out]; first | rfl | (simp; omega)⟩
        · go_wp2
          go_ret
          exact ⟨rfl, by rw [HE.out]; first | rfl | (simp; omega)⟩
      · have j1 : ¬ (i : Int) < (os.length : Int) := by omega
        have j3 : decide ((i : Int) < (os.length : Int)) = false := decide_eq_false j1
        cases r
        · go_wp2
          go_ret
          exact ⟨rfl, by rw [HE.out]; first | rfl | (simp; omega)⟩
        · go_wp2
          go_ret
          exact ⟨rfl, by rw [HE.out]; first | rfl | (simp; omega)⟩
end Go.Proofs.YtjbbkeoolodeaabDoor
