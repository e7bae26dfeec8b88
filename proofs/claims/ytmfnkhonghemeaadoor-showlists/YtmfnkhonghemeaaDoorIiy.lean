/- package show: the teller over a chain: its steps -/
import Derived.Test.YtmfnkhonghemeaaDoorIix
namespace Go.Proofs.YtmfnkhonghemeaaDoor
open Go.RowKit
set_option linter.unusedVariables false
set_option linter.unusedSimpArgs false

def dgS (j : Nat) : ByteArray := ⟨(Lib.itoa ((j % 10 : Nat) : Int)).toArray⟩
/-- the pieces when the j-th pair was opened -/
def PcL (rg : Bool) : Nat → List ByteArray
  | 0 => []
  | 1 => (if rg = true then [⟨#[35]⟩, ⟨#[48]⟩, ⟨#[61]⟩] else []) ++ [opS 1]
  | j + 2 => PcL rg (j + 1) ++ [dgS (j + 1)] ++ [⟨#[32]⟩]
theorem PcL_len (rg : Bool) : ∀ j, (PcL rg j).length ≤ 2 * j + 3
  | 0 => by simp [PcL]
  | 1 => by cases rg <;> simp [PcL]
  | j + 2 => by have := PcL_len rg (j + 1); simp [PcL]; omega
theorem PcL_succ (rg : Bool) {j : Nat} (h : 1 ≤ j) : PcL rg (j + 1) = PcL rg j ++ [dgS j] ++ [⟨#[32]⟩] := by
  obtain ⟨i, rfl⟩ : ∃ i, j = i + 1 := ⟨j - 1, by omega⟩
  rfl
def finP (k : Int) (n : Nat) (rg : Bool) : List ByteArray :=
  if k = 1 then (if rg = true then PcL rg n ++ [dgS n] ++ [⟨#[32, 46, 32]⟩] ++ [⟨#[35]⟩, ⟨#[48]⟩, ⟨#[35]⟩] ++ [⟨#[41]⟩] else PcL rg n ++ [dgS n] ++ [⟨#[41]⟩]) else List.replicate n (opS 2) ++ [⟨#[40, 41]⟩]
/-- the teller's states -/
def TxP (k : Int) (n : Nat) (rg : Bool) (r : Nat) (tasks : List Task) (pieces : List ByteArray) (td : Nat → Bool) : Prop :=
  (tasks = [(0, 2, 1)] ∧ pieces = [] ∧ td 0 = false ∧ r = 3 * n + 10) ∨
  (k = 1 ∧ ∃ j, 1 ≤ j ∧ j ≤ n ∧ tasks = [(1, (nx n rg j).1, (nx n rg j).2), (0, 1, ((j % 10 : Nat) : Int))] ∧ pieces = PcL rg j ∧ (rg = true → td 0 = true) ∧ r = 2 * (n - j) + 6) ∨
  (k = 1 ∧ ∃ j, 1 ≤ j ∧ j ≤ n ∧ tasks = [(1, (nx n rg j).1, (nx n rg j).2)] ∧ pieces = PcL rg j ++ [dgS j] ∧ (rg = true → td 0 = true) ∧ r = 2 * (n - j) + 5) ∨
  (k = 1 ∧ rg = true ∧ tasks = [(3, 0, 0), (0, 2, 1)] ∧ pieces = PcL rg n ++ [dgS n] ++ [⟨#[32, 46, 32]⟩] ∧ td 0 = true ∧ r = 3) ∨
  (k = 1 ∧ rg = true ∧ tasks = [(3, 0, 0)] ∧ pieces = PcL rg n ++ [dgS n] ++ [⟨#[32, 46, 32]⟩] ++ [⟨#[35]⟩, ⟨#[48]⟩, ⟨#[35]⟩] ∧ r = 2) ∨
  (k = 2 ∧ ∃ j, 1 ≤ j ∧ j ≤ n ∧ tasks = [(0, (nx n rg j).1, (nx n rg j).2)] ∧ pieces = List.replicate j (opS 2) ∧ r = n - j + 5) ∨
  (tasks = [] ∧ pieces = finP k n rg ∧ r = 0)
theorem TxP.len {k : Int} {n : Nat} {rg : Bool} {r : Nat} {tasks : List Task} {pieces : List ByteArray} {td : Nat → Bool} (h : TxP k n rg r tasks pieces td) (hn : n ≤ 600) : tasks.length ≤ 2 ∧ pieces.length ≤ 1900 := by
  rcases h with ⟨rfl, rfl, _⟩ | ⟨_, j, _, hj, rfl, rfl, _⟩ | ⟨_, j, _, hj, rfl, rfl, _⟩ | ⟨_, _, rfl, rfl, _⟩ | ⟨_, _, rfl, rfl, _⟩ | ⟨_, j, _, hj, rfl, rfl, _⟩ | ⟨rfl, rfl, _⟩
  · simp
  · have := PcL_len rg j; simp; omega
  · have := PcL_len rg j; simp; omega
  · have := PcL_len rg n; simp; omega
  · have := PcL_len rg n; simp; omega
  · simp; omega
  · have := PcL_len rg n
    unfold finP
    split
    · split <;> simp <;> omega
    · simp; omega
section
variable {B t p mb g n r : Nat} {k : Int} {rg : Bool} {gvs : List Nat} {td : Nat → Bool} {W w w' : World} {ta pa : Option Addr} {tc pc : Nat} {tasks : List Task} {pieces : List ByteArray} {e : Ending} {a b c : Int} {wp : Value} {S S' : Nat → Prop}
/-- what a step leaves -/
def TxQ (B t p mb g : Nat) (k : Int) (n : Nat) (rg : Bool) (gvs : List Nat) (W : World) (r : Nat) (e : Ending) (w' : World) : Prop :=
  ∃ r' tasks' pieces' td', r' < r ∧ TxP k n rg r' tasks' pieces' td' ∧ TSQ B t (.pointer (some ⟨p, 0, none⟩)) (fun b => t ≤ b ∨ b = g) W tasks' pieces' e w' ∧ WF w' t p mb g k n rg gvs td'
theorem TSQ.wide (h : TSQ B t wp S W tasks pieces e w') (hS : ∀ b, S b → S' b) : TSQ B t wp S' W tasks pieces e w' := by
  obtain ⟨h1, ta, tc, pa, pc, h2, h3, h4⟩ := h
  exact ⟨h1, ta, tc, pa, pc, h2, h3.wide (fun b _ h => hS b h), fun b h => (h4 b h).imp (hS b) id⟩
theorem tx_keep {r' : Nat} {tasks' : List Task} {pieces' : List ByteArray} (hS : TS B W t wp ta tc pa pc tasks pieces) (hF : WF W t p mb g k n rg gvs td) (hwp : wp = .pointer (some ⟨p, 0, none⟩)) (hr : r' < r) (hP : TxP k n rg r' tasks' pieces' td) (h : TSQ B t wp (RW t ta pa) W tasks' pieces' e w') : TxQ B t p mb g k n rg gvs W r e w' := by
  subst hwp
  refine ⟨r', tasks', pieces', td, hr, hP, h.wide (fun b h => .inl (RW.lt hS h).1), ?_⟩
  obtain ⟨_, _, _, _, _, _, x, _⟩ := h
  exact hF.fx x (fun b h => (RW.lt hS h).1)
set_option maxHeartbeats 1000000 in
theorem tx_step (hk : k = 1 ∨ k = 2) (hrk : k = 2 → rg = false) (hn : 1 ≤ n ∧ n ≤ 600) (hP : TxP k n rg r (tasks ++ [(a, b, c)]) pieces td) (hS : TS B W t (.pointer (some ⟨p, 0, none⟩)) ta tc pa pc tasks pieces) (hF : WF W t p mb g k n rg gvs td) :
    (a = 0 ∧ Calls Tryd.prog 20 #[.pointer (some ⟨t, 0, none⟩), .agg #[.int .i64 b, .int .i64 c]] W (TxQ B t p mb g k n rg gvs W r)) ∨
    (a = 1 ∧ Calls Tryd.prog 21 #[.pointer (some ⟨t, 0, none⟩), .agg #[.int .i64 b, .int .i64 c]] W (TxQ B t p mb g k n rg gvs W r)) ∨
    (a = 3 ∧ ∃ r', r' < r ∧ TxP k n rg r' tasks (pieces ++ [⟨#[41]⟩]) td) := by
  have hl := hP.len hn.2
  have hl1 : tasks.length ≤ 2000 := by have := hl.1; simp at this; omega
  have hgl := hF.2.2.2.1
  have hat : ∀ j, j < n → ∃ gv, gvs[j]? = some gv := fun j h => ⟨_, List.getElem?_eq_getElem (by omega)⟩
  have hT := hF.2.2.2.2.2.2.2.2.2.2.1
  rcases hP with ⟨h1, rfl, htd, rfl⟩ | ⟨rfl, j, hj1, hjn, h1, rfl, htd, rfl⟩ | ⟨rfl, j, hj1, hjn, h1, rfl, htd, rfl⟩ | ⟨rfl, rfl, h1, rfl, htd, rfl⟩ | ⟨rfl, rfl, h1, rfl, rfl⟩ | ⟨rfl, j, hj1, hjn, h1, rfl, rfl⟩ | ⟨h1, rfl, rfl⟩
  · obtain ⟨rfl, h2⟩ := snoc_one h1
    obtain ⟨rfl, h3⟩ := Prod.mk.inj h2
    obtain ⟨rfl, rfl⟩ := Prod.mk.inj h3
    obtain ⟨gv, hgv⟩ := hat 0 (by omega)
    refine .inl ⟨rfl, ?_⟩
    cases rg with
    | true =>
      have hk1 : k = 1 := hk.elim id (fun h => by have := hrk h; cases this)
      subst hk1
      refine (whole_first (j := 0) hk hS hF hgv rfl htd hl1 hl.2).mono (fun e w' h => ?_)
      exact ⟨2 * (n - 1) + 6, _, _, _, by omega, .inr (.inl ⟨rfl, 1, by omega, hn.1, rfl, rfl, fun _ => rfl, rfl⟩), h.1.wide (fun b h => h.imp (fun h => (RW.lt hS h).1) id), h.2⟩
    | false =>
      refine (whole_cont (j := 0) hk hS hF hgv rfl hl1 (by omega)).mono (fun e w' h => ?_)
      rcases hk with rfl | rfl
      · exact tx_keep (r' := 2 * (n - 1) + 6) hS hF rfl (by omega) (.inr (.inl ⟨rfl, 1, by omega, hn.1, rfl, rfl, (fun h => by cases h), rfl⟩)) h
      · exact tx_keep (r' := n - 1 + 5) hS hF rfl (by omega) (.inr (.inr (.inr (.inr (.inr (.inl ⟨rfl, 1, by omega, hn.1, rfl, rfl, rfl⟩)))))) h
  · obtain ⟨rfl, h2⟩ := snoc_two h1
    obtain ⟨rfl, h3⟩ := Prod.mk.inj h2
    obtain ⟨rfl, rfl⟩ := Prod.mk.inj h3
    refine .inl ⟨rfl, (whole_plain (by decide) hS (by omega) (fun W1 o => simple_fix _ (by omega) (by omega) (hT.out o).1)).mono (fun e w' h => ?_)⟩
    exact tx_keep (r' := 2 * (n - j) + 5) hS hF rfl (by omega) (.inr (.inr (.inl ⟨rfl, j, hj1, hjn, rfl, rfl, htd, rfl⟩))) h
  · obtain ⟨rfl, h2⟩ := snoc_one h1
    obtain ⟨rfl, h3⟩ := Prod.mk.inj h2
    refine .inr (.inl ⟨rfl, ?_⟩)
    by_cases hj : j < n
    · have h4 : (b, c) = (2, (j : Int) + 1) := by rw [h3]; show nx n rg j = _; unfold nx; rw [if_pos hj]
      obtain ⟨rfl, rfl⟩ := Prod.mk.inj h4
      obtain ⟨gv, hgv⟩ := hat j hj
      refine (rest_pair hS hF hgv (by unfold lbR; rw [if_neg (by omega)]) hl1 hl.2).mono (fun e w' h => ?_)
      exact tx_keep (r' := 2 * (n - (j + 1)) + 6) hS hF rfl (by omega) (.inr (.inl ⟨rfl, j + 1, by omega, hj, rfl, (PcL_succ rg hj1).symm, htd, rfl⟩)) h
    · have hje : j = n := by omega
      subst hje
      cases rg with
      | true =>
        have h4 : (b, c) = (2, 1) := by rw [h3]; show nx j true j = _; unfold nx; rw [if_neg hj, if_pos rfl]
        obtain ⟨rfl, rfl⟩ := Prod.mk.inj h4
        obtain ⟨gv, hgv⟩ := hat 0 (by omega)
        refine (rest_label (j := 0) hS hF hgv rfl hl1 hl.2).mono (fun e w' h => ?_)
        exact tx_keep (r' := 3) hS hF rfl (by omega) (.inr (.inr (.inr (.inl ⟨rfl, rfl, rfl, rfl, htd rfl, rfl⟩)))) h
      | false =>
        have h4 : (b, c) = (3, 0) := by rw [h3]; show nx j false j = _; unfold nx; rw [if_neg hj]; rfl
        obtain ⟨rfl, rfl⟩ := Prod.mk.inj h4
        refine (rest_nil hS hl.2).mono (fun e w' h => ?_)
        exact tx_keep (r' := 0) hS hF rfl (by omega) (.inr (.inr (.inr (.inr (.inr (.inr ⟨rfl, rfl, rfl⟩)))))) h
  · obtain ⟨rfl, h2⟩ := snoc_two h1
    obtain ⟨rfl, h3⟩ := Prod.mk.inj h2
    obtain ⟨rfl, rfl⟩ := Prod.mk.inj h3
    obtain ⟨gv, hgv⟩ := hat 0 (by omega)
    refine .inl ⟨rfl, (whole_told (j := 0) hk hS hF hgv rfl htd hl1 hl.2).mono (fun e w' h => ?_)⟩
    exact tx_keep (r' := 2) hS hF rfl (by omega) (.inr (.inr (.inr (.inr (.inl ⟨rfl, rfl, rfl, rfl, rfl⟩))))) h
  · obtain ⟨rfl, h2⟩ := snoc_one h1
    obtain ⟨rfl, _⟩ := Prod.mk.inj h2
    exact .inr (.inr ⟨rfl, 0, by omega, .inr (.inr (.inr (.inr (.inr (.inr ⟨rfl, rfl, rfl⟩)))))⟩)
  · obtain ⟨rfl, h2⟩ := snoc_one h1
    obtain ⟨rfl, h3⟩ := Prod.mk.inj h2
    have hrf := hrk rfl
    subst hrf
    refine .inl ⟨rfl, ?_⟩
    by_cases hj : j < n
    · have h4 : (b, c) = (2, (j : Int) + 1) := by rw [h3]; show nx n false j = _; unfold nx; rw [if_pos hj]
      obtain ⟨rfl, rfl⟩ := Prod.mk.inj h4
      obtain ⟨gv, hgv⟩ := hat j hj
      refine (whole_cont hk hS hF hgv rfl hl1 (by omega)).mono (fun e w' h => ?_)
      exact tx_keep (r' := n - (j + 1) + 5) hS hF rfl (by omega) (.inr (.inr (.inr (.inr (.inr (.inl ⟨rfl, j + 1, by omega, hj, rfl, List.replicate_succ'.symm, rfl⟩)))))) h
    · have hje : j = n := by omega
      subst hje
      have h4 : (b, c) = (3, 0) := by rw [h3]; show nx j false j = _; unfold nx; rw [if_neg hj]; rfl
      obtain ⟨rfl, rfl⟩ := Prod.mk.inj h4
      refine (whole_plain (by decide) hS (by omega) (fun W1 o => simple_nil (hT.out o))).mono (fun e w' h => ?_)
      exact tx_keep (r' := 0) hS hF rfl (by omega) (.inr (.inr (.inr (.inr (.inr (.inr ⟨rfl, rfl, rfl⟩)))))) h
  · simp at h1
end
end Go.Proofs.YtmfnkhonghemeaaDoor
