/- the graphs of GraphDeep, in plain mathematics -/
import Derived.Test.YtocncffplcfpbaaGreatDoorGtm
namespace Go.Proofs.YtocncffplcfpbaaGreatDoor
set_option linter.unusedVariables false
set_option linter.unusedSimpArgs false

theorem rng_len {ks : List Int} {a n : Nat} (hn : ks.Nodup) (hm : ∀ y, y ∈ ks ↔ (a : Int) + 1 ≤ y ∧ y ≤ a + n) : ks.length = n := by
  have hd : ((List.range n).map fun i => ((a + i + 1 : Nat) : Int)).Nodup := by
    unfold List.Nodup
    rw [List.pairwise_map]
    exact (List.nodup_range (n := n)).imp (fun h e => h (by omega))
  have h1 := nodup_sub _ ks hd (fun x hx => by
    rw [List.mem_map] at hx
    obtain ⟨i, hi, rfl⟩ := hx
    rw [List.mem_range] at hi
    exact (hm _).2 ⟨by omega, by omega⟩)
  have h2 := nodup_sub ks ((List.range n).map fun i => ((a + i + 1 : Nat) : Int)) hn (fun x hx => by
    have := (hm x).1 hx
    rw [List.mem_map]
    exact ⟨(x - a - 1).toNat, by rw [List.mem_range]; omega, by omega⟩)
  simp at h1 h2
  omega
theorem pl_ref {K : Nat → Nat} {n : Nat} {x : Int} (h : 1 ≤ x ∧ x ≤ n) (hn : n ≤ 1000000) (hk : ∀ i, i < n → 1 ≤ K i ∧ K i ≤ 10) : plB (kA K n) 2 x = true := by
  have hv : validB_v 2 x = true := by unfold validB_v; simp; omega
  have hka : kA K n x = (K (x - 1).toNat : Int) := by unfold kA; rw [if_pos h]
  have := hk (x - 1).toNat (by omega)
  unfold plB kdV
  rw [if_pos rfl, if_pos ⟨rfl, hv⟩, hka]
  simp only [Bool.and_eq_true, decide_eq_true_eq]
  omega
theorem pl_void (kd : Int → Int) : plB kd 3 3 = true := by unfold plB; rw [if_neg (by decide)]; decide
theorem rt_ref {K : Nat → Nat} {n : Nat} {x : Int} (h : 1 ≤ x ∧ x ≤ n) (hn : n ≤ 1000000) (hk : ∀ i, i < n → 1 ≤ K i ∧ K i ≤ 10) : validB_v 2 x = true ∧ ((2 : Int) = 2 → kA K n x ≠ 0) := by
  have hv : validB_v 2 x = true := by unfold validB_v; simp; omega
  have hka : kA K n x = (K (x - 1).toNat : Int) := by unfold kA; rw [if_pos h]
  have := hk (x - 1).toNat (by omega)
  exact ⟨hv, fun _ => by rw [hka]; omega⟩

/-- the list: a pair's next one -/
def nx (n i : Nat) : VP := if i + 1 = n then (3, 3) else (2, ((i + 2 : Nat) : Int))
def lP (n : Nat) (kk : Bool) (i : Nat) : List VP := if kk then [nx n i, (3, 3)] else [(3, 3), nx n i]
theorem lP_len (n : Nat) (kk : Bool) (i : Nat) : (lP n kk i).length = 2 := by unfold lP; split <;> rfl
theorem lP_mem {n : Nat} {kk : Bool} {i : Nat} {v : VP} (h : v ∈ lP n kk i) : v = nx n i ∨ v = (3, 3) := by
  unfold lP at h
  split at h <;> simp at h
  · exact h
  · exact h.symm
theorem nx_in (n : Nat) (kk : Bool) (i : Nat) : nx n i ∈ lP n kk i := by unfold lP; split <;> simp
theorem okD {n : Nat} (kk : Bool) (h1 : 1 ≤ n) (hn : n ≤ 30000) : Okay n (fun _ => 1) (fun _ => 2) (lP n kk) [(2, 1)] := by
  refine ⟨by omega, fun i hi => ?_, fun v hv => ?_⟩
  · dsimp only
    refine ⟨by decide, by decide, by decide, by decide +kernel, by decide +kernel, fun v hv => ?_⟩
    rcases lP_mem hv with rfl | rfl
    · unfold nx
      split
      · exact pl_void _
      · exact pl_ref (by omega) (by omega) (fun _ _ => by omega)
    · exact pl_void _
  · simp at hv
    subst hv
    exact rt_ref (by omega) (by omega) (fun _ _ => by omega)
theorem lvP {n : Nat} (kk : Bool) : ∀ i, i < n → LvG n (fun _ => 1) (lP n kk) [(2, 1)] ((i + 1 : Nat) : Int)
  | 0, hi => (lv_cls _ _ _).1 (2, 1) (by simp) rfl
  | i + 1, hi => by
    have ih := lvP (n := n) kk i (by omega)
    have h := ((lv_cls (fun y => stK (kA (fun _ => 1) n y) (lI n (lP n kk) y)) (fun y => gdK (kA (fun _ => 1) n y) (lI n (lP n kk) y)) [(2, 1)]).2 _ ih).1 (nx n i) (by
      simp only []
      rw [kA_at (by omega), lI_at (by omega)]
      exact nx_in n kk i)
    have e : nx n i = (2, ((i + 2 : Nat) : Int)) := by unfold nx; rw [if_neg (by omega)]
    rw [e] at h
    exact h rfl

/-- the boxes, and the ephemerons -/
def KE (n i : Nat) : Nat := if i < n then 2 else 9
def nfE (n i : Nat) : Nat := if i < n then 1 else 2
def vE (n t : Nat) : VP := if t + 1 < n then (2, (n : Int) - t - 1) else (3, 3)
def lE (n i : Nat) : List VP := if i < n then [(3, 3)] else [(2, (n : Int) - (i - n : Nat)), vE n (i - n)]
def rE (n : Nat) : List VP := (List.range n).map fun (t : Nat) => ((2, 2 * (n : Int) - (t : Int)) : VP)
theorem rE_len (n : Nat) : (rE n).length = n := by simp [rE]
theorem rE_mem {n : Nat} {v : VP} : v ∈ rE n ↔ ∃ t : Nat, t < n ∧ v = (2, 2 * (n : Int) - t) := by
  unfold rE
  rw [List.mem_map]
  constructor
  · rintro ⟨t, ht, rfl⟩
    exact ⟨t, List.mem_range.1 ht, rfl⟩
  · rintro ⟨t, ht, rfl⟩
    exact ⟨t, List.mem_range.2 ht, rfl⟩
theorem lE_len (n i : Nat) : (lE n i).length = nfE n i := by unfold lE nfE; split <;> rfl
theorem KE_in (n i : Nat) : 1 ≤ KE n i ∧ KE n i ≤ 10 := by unfold KE; split <;> omega
theorem okE {n : Nat} (h1 : 1 ≤ n) (hn : n ≤ 30000) (r : List VP) (hr : ∀ v ∈ r, v.1 = 2 ∧ 1 ≤ v.2 ∧ v.2 ≤ 2 * (n : Int)) : Okay (2 * n) (KE n) (nfE n) (lE n) r := by
  refine ⟨by omega, fun i hi => ?_, fun v hv => ?_⟩
  · by_cases h : i < n
    · rw [show KE n i = 2 from if_pos h, show nfE n i = 1 from if_pos h, show lE n i = [(3, 3)] from if_pos h]
      refine ⟨by decide, by decide, by decide, by decide +kernel, by decide +kernel, fun v hv => ?_⟩
      simp at hv
      subst hv
      exact pl_void _
    · rw [show KE n i = 9 from if_neg h, show nfE n i = 2 from if_neg h, show lE n i = [(2, (n : Int) - (i - n : Nat)), vE n (i - n)] from if_neg h]
      refine ⟨by decide, by decide, by decide, by decide +kernel, by decide +kernel, fun v hv => ?_⟩
      simp at hv
      rcases hv with rfl | rfl
      · exact pl_ref (by omega) (by omega) (fun _ _ => KE_in n _)
      · unfold vE
        split
        · exact pl_ref (by omega) (by omega) (fun _ _ => KE_in n _)
        · exact pl_void _
  · obtain ⟨k, x⟩ := v
    obtain ⟨q1, q2, q3⟩ := hr _ hv
    simp only at q1 q2 q3
    subst q1
    exact rt_ref ⟨q2, by omega⟩ (by omega) (fun _ _ => KE_in n _)
theorem stE {n : Nat} {y : Int} {v : VP} (h1 : 1 ≤ y) (h2 : y ≤ 2 * (n : Int)) (hv : v ∈ stK (kA (KE n) (2 * n) y) (lI (2 * n) (lE n) y)) : v = (3, 3) := by
  obtain ⟨i, hi, rfl⟩ : ∃ i : Nat, i < 2 * n ∧ y = ((i + 1 : Nat) : Int) := ⟨(y - 1).toNat, by omega, by omega⟩
  rw [kA_at hi, lI_at hi] at hv
  by_cases h : i < n
  · rw [show KE n i = 2 from if_pos h, show lE n i = [(3, 3)] from if_pos h] at hv
    simpa [stK] using hv
  · rw [show KE n i = 9 from if_neg h] at hv
    simp [stK] at hv
theorem gdE {n : Nat} {y : Int} {q : VP × VP} (h1 : 1 ≤ y) (h2 : y ≤ 2 * (n : Int)) (hq : q ∈ gdK (kA (KE n) (2 * n) y) (lI (2 * n) (lE n) y)) : ∃ t : Nat, t < n ∧ y = (n : Int) + t + 1 ∧ q = ((2, (n : Int) - t), vE n t) := by
  obtain ⟨i, hi, rfl⟩ : ∃ i : Nat, i < 2 * n ∧ y = ((i + 1 : Nat) : Int) := ⟨(y - 1).toNat, by omega, by omega⟩
  rw [kA_at hi, lI_at hi] at hq
  by_cases h : i < n
  · rw [show KE n i = 2 from if_pos h] at hq
    simp [gdK] at hq
  · rw [show KE n i = 9 from if_neg h, show lE n i = [(2, (n : Int) - (i - n : Nat)), vE n (i - n)] from if_neg h] at hq
    simp [gdK] at hq
    exact ⟨i - n, by omega, by omega, hq⟩
theorem lvE1 {n : Nat} (y : Int) : LvG (2 * n) (KE n) (lE n) (rE n) y ↔ (n : Int) + 1 ≤ y ∧ y ≤ n + n := by
  constructor
  · intro h
    refine h (fun y => (n : Int) + 1 ≤ y ∧ y ≤ n + n) ⟨fun v hv _ => ?_, fun y hy => ⟨fun v hv e => ?_, fun q hq hk e => ?_⟩⟩
    · obtain ⟨t, ht, rfl⟩ := rE_mem.1 hv
      simp only []
      omega
    · rw [stE (by omega) (by omega) hv] at e
      simp at e
    · obtain ⟨t, ht, rfl, rfl⟩ := gdE (by omega) (by omega) hq
      have := hk rfl
      simp only [] at this
      omega
  · intro h
    have := (lv_cls (fun y => stK (kA (KE n) (2 * n) y) (lI (2 * n) (lE n) y)) (fun y => gdK (kA (KE n) (2 * n) y) (lI (2 * n) (lE n) y)) (rE n)).1 (2, y) (rE_mem.2 ⟨(2 * (n : Int) - y).toNat, by omega, by rw [show 2 * (n : Int) - ((2 * (n : Int) - y).toNat : Int) = y by omega]⟩) rfl
    exact this
theorem lvE2 {n : Nat} (h1 : 1 ≤ n) (y : Int) : LvG (2 * n) (KE n) (lE n) (rE n ++ [(2, (n : Int))]) y ↔ ((0 : Nat) : Int) + 1 ≤ y ∧ y ≤ ((0 : Nat) : Int) + ((2 * n : Nat) : Int) := by
  have hc := lv_cls (fun y => stK (kA (KE n) (2 * n) y) (lI (2 * n) (lE n) y)) (fun y => gdK (kA (KE n) (2 * n) y) (lI (2 * n) (lE n) y)) (rE n ++ [(2, (n : Int))])
  constructor
  · intro h
    refine h (fun y => ((0 : Nat) : Int) + 1 ≤ y ∧ y ≤ ((0 : Nat) : Int) + ((2 * n : Nat) : Int)) ⟨fun v hv _ => ?_, fun y hy => ⟨fun v hv e => ?_, fun q hq hk e => ?_⟩⟩
    · rw [List.mem_append] at hv
      rcases hv with hv | hv
      · obtain ⟨t, ht, rfl⟩ := rE_mem.1 hv
        simp only []
        omega
      · simp at hv
        subst hv
        simp only []
        omega
    · rw [stE (by omega) (by omega) hv] at e
      simp at e
    · obtain ⟨t, ht, rfl, rfl⟩ := gdE (by omega) (by omega) hq
      simp only [] at e ⊢
      unfold vE at e ⊢
      split at e
      · rename_i h
        rw [if_pos h]
        simp only []
        omega
      · simp at e
  · have heph : ∀ y : Int, (n : Int) + 1 ≤ y → y ≤ n + n → LvG (2 * n) (KE n) (lE n) (rE n ++ [(2, (n : Int))]) y := fun y q1 q2 =>
      hc.1 (2, y) (List.mem_append.2 (.inl (rE_mem.2 ⟨(2 * (n : Int) - y).toNat, by omega, by rw [show 2 * (n : Int) - ((2 * (n : Int) - y).toNat : Int) = y by omega]⟩))) rfl
    have hbox : ∀ t : Nat, t < n → LvG (2 * n) (KE n) (lE n) (rE n ++ [(2, (n : Int))]) ((n : Int) - t) := by
      intro t
      induction t with
      | zero => intro _; rw [show (n : Int) - ((0 : Nat) : Int) = n by omega]; exact hc.1 (2, (n : Int)) (by simp) rfl
      | succ t ih =>
        intro ht
        have hk := ih (by omega)
        have he := heph ((n : Int) + t + 1) (by omega) (by omega)
        have := (hc.2 _ he).2 ((2, (n : Int) - t), vE n t) (by
          simp only []
          rw [show (n : Int) + t + 1 = ((n + t + 1 : Nat) : Int) by omega, kA_at (i := n + t) (by omega), lI_at (i := n + t) (by omega), show KE n (n + t) = 9 from if_neg (by omega), show lE n (n + t) = [(2, (n : Int) - (n + t - n : Nat)), vE n (n + t - n)] from if_neg (by omega), show n + t - n = t by omega]
          simp [gdK]) (fun _ => hk)
        have e : vE n t = (2, (n : Int) - t - 1) := by unfold vE; rw [if_pos (by omega)]
        rw [e] at this
        have h9 := this rfl
        simp only [] at h9
        rw [show (n : Int) - ((t + 1 : Nat) : Int) = (n : Int) - t - 1 by omega]
        exact h9
    intro h
    by_cases hy : y ≤ n
    · have := hbox ((n : Int) - y).toNat (by omega)
      rwa [show (n : Int) - (((n : Int) - y).toNat : Int) = y by omega] at this
    · exact heph y (by omega) (by omega)
end Go.Proofs.YtocncffplcfpbaaGreatDoor
