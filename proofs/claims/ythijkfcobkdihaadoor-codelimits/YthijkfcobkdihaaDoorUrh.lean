/- the law: fits, within -/
import Derived.Test.YthijkfcobkdihaaDoorUrg
namespace Go.Proofs.YthijkfcobkdihaaDoor
open Go.RowKit
set_option linter.unusedVariables false
set_option linter.unusedSimpArgs false

theorem sum_wrap {a b : Int} (h0 : 0 ≤ a) (h1 : a ≤ 2305843009213693952) (h2 : 0 ≤ b) (h3 : b ≤ 2305843009213693952) : wrap64 (a + b) = a + b := by unfold wrap64; omega
/-- no list is longer than the machine's -/
def Lim (n : Nat) : Prop := (n : Int) ≤ 2305843009213693952
/-- what fits answers -/
def FtQ (w : World) (nt nf : Nat) (fs : List (Int × Int × Int × List (Int × Int))) (e : Ending) (w' : World) : Prop := (∃ b, e = .returned (.bool b) ∧ (b = true → (nt : Int) + (nf : Int) ≤ 300000 ∧ ∀ f ∈ fs, (f.2.2.2.length : Int) ≤ 300000)) ∧ Out 0 0 w w'
theorem FtQ.mk' {w w' : World} {nt nf : Nat} {fs : List (Int × Int × Int × List (Int × Int))} {b : Bool} (h : b = true → (nt : Int) + (nf : Int) ≤ 300000 ∧ ∀ f ∈ fs, (f.2.2.2.length : Int) ≤ 300000) (o : Out 0 0 w w') : FtQ w nt nf fs (.returned (.bool b)) w' := ⟨⟨b, rfl, h⟩, o⟩
theorem le_up {fs : List (Int × Int × Int × List (Int × Int))} {j : Nat} {f : Int × Int × Int × List (Int × Int)} {N : Int} {l : Nat} (hf : fs[j]? = some f) (hl : f.2.2.2.length = l) (h : ∀ e ∈ fs.take j, (e.2.2.2.length : Int) ≤ N) (h0 : 0 ≤ N) : ∀ e ∈ fs.take (j + 1), (e.2.2.2.length : Int) ≤ N + l := by
  intro e he
  rw [List.take_add_one, hf] at he
  rcases List.mem_append.1 he with q | q
  · have := h e q; omega
  · simp at q; subst q; omega
/-- what within answers -/
theorem within_any {w : World} (x : Int) (n : Nat) (hn : 0 < n) (hx : -9223372036854775808 ≤ x ∧ x ≤ 9223372036854775807) : Calls Tryd.prog 9 #[.int .i64 x, .int .i64 n] w fun e w' => e = .returned (.int .i64 ((wiV x n : Nat) : Int)) ∧ w' = w := by
  by_cases h0 : x < 0
  · have e1 : (((-(x + 1)) % (n : Int)).toNat : Int) = (-(x + 1)) % (n : Int) := Int.toNat_of_nonneg (Int.emod_nonneg _ (by omega))
    have hW : Hid (((wiV x n : Nat) : Int) = (-(x + 1)) % (n : Int)) := hid_mk (by unfold wiV; rw [if_pos h0]; exact e1)
    have h1 : wrap64 (x + 1) = x + 1 := by unfold wrap64; omega
    have h2 : wrap64 (-(x + 1)) = -(x + 1) := by unfold wrap64; omega
    have n1 : (0 : Int) < (n : Int) := by omega
    have HE : Hid (-((x + 1).tmod (n : Int)) = ((wiV x n : Nat) : Int)) := hid_mk (by rw [hW.out, ← Int.neg_tmod, Int.tmod_eq_emod_of_nonneg (by omega)])
    clear e1 hx
    go_enter Tryd.func9, Tryd.ntmps9
    go_wp2
    go_ret
    exact ⟨ret_int HE.out, rfl⟩
  · have e1 : ((x % (n : Int)).toNat : Int) = x % (n : Int) := Int.toNat_of_nonneg (Int.emod_nonneg _ (by omega))
    have HE : Hid (x % (n : Int) = ((wiV x n : Nat) : Int)) := hid_mk (by unfold wiV; rw [if_neg h0]; exact e1.symm)
    have n1 : (0 : Int) < (n : Int) := by omega
    have x1 : 0 ≤ x := by omega
    clear e1 hx h0
    go_enter Tryd.func9, Tryd.ntmps9
    go_wp2
    go_ret
    exact ⟨ret_int HE.out, rfl⟩
end Go.Proofs.YthijkfcobkdihaaDoor
