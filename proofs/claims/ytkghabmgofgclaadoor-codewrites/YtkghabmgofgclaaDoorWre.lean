/- the document's own code: a program is written -/
import Derived.Test.YtkghabmgofgclaaDoorWrd
namespace Go.Proofs.YtkghabmgofgclaaDoor
open Go.RowKit
set_option linter.unusedVariables false
set_option linter.unusedSimpArgs false

/-- what Write answers -/
def RWQ (w : World) (P : Int × List (List Int) × List (Int × Int × Int × List (Int × Int))) (e : Ending) (w' : World) : Prop := ∃ a K c, e = .returned (.tuple #[.slice a K c, .int .i64 (wrE P)]) ∧ BO w' w.heap.size a K c (wrB P) ∧ Out 0 0 w w'
theorem RWQ.form {w w' : World} {P : Int × List (List Int) × List (Int × Int × Int × List (Int × Int))} (h : ¬ okP P) (o : Out 0 0 w w') : RWQ w P (.returned (.tuple #[.slice none 0 0, .int .i64 62])) w' := ⟨none, 0, 0, by rw [(wr_form h).1], by rw [(wr_form h).2]; exact BO.nil _ _, o⟩
theorem RWQ.long {w w' : World} {P : Int × List (List Int) × List (Int × Int × Int × List (Int × Int))} (h : okP P) (h2 : 65536 < (encP P).length) (o : Out 0 0 w w') : RWQ w P (.returned (.tuple #[.slice none 0 0, .int .i64 2])) w' := ⟨none, 0, 0, by rw [(wr_long h h2).1], by rw [(wr_long h h2).2]; exact BO.nil _ _, o⟩
theorem RWQ.yes {w w' : World} {P : Int × List (List Int) × List (Int × Int × Int × List (Int × Int))} {a : Option Addr} {K c : Nat} (h : okP P) (hb : BO w' w.heap.size a K c (encP P)) (h2 : ¬ 65536 < (encP P).length) (o : Out 0 0 w w') : RWQ w P (.returned (.tuple #[.slice a K c, .int .i64 0])) w' := ⟨a, K, c, by rw [(wr_ok h (by omega)).1], by rw [(wr_ok h (by omega)).2]; exact hb, o⟩
theorem fm_app {α β : Type} {l : List α} {k : Nat} {x : α} {g : α → List β} (h : l[k]? = some x) : (l.take (k + 1)).flatMap g = (l.take k).flatMap g ++ g x := by
  rw [List.take_add_one, h]; simp
theorem fm_all {α β : Type} {l : List α} {n : Nat} {g : α → List β} (hn : l.length = n) : (l.take n).flatMap g = l.flatMap g := by rw [← hn, List.take_length]
/-- how much may lie there -/
theorem enc_i {y : Int × Int} (h : okI y) : (encI y).length ≤ 11 := by
  obtain ⟨op, a⟩ := y
  unfold encI opB
  rw [List.length_cons]
  simp only []
  rcases ro_k h with ⟨_, e, h1⟩ | ⟨_, e, h1⟩ | ⟨_, e, h1⟩ | ⟨_, e⟩
  · rw [if_pos e]; have := numB_len (k := 9) (n := a.toNat) (by omega); omega
  · rw [if_neg (by rw [e]; decide), if_pos e]; have := numB_len (k := 9) (n := zig a) (by have := zig_big h1; omega); omega
  · rw [if_neg (by rw [e]; decide), if_neg (by rw [e]; decide), if_pos e, le8_len]; omega
  · rw [if_neg (by rw [e]; decide), if_neg (by rw [e]; decide), if_neg (by rw [e]; decide)]; simp
theorem fm_le {α β : Type} {g : α → List β} {c : Nat} : ∀ {l : List α}, (∀ x ∈ l, (g x).length ≤ c) → (l.flatMap g).length ≤ l.length * c
  | [], _ => by simp
  | x :: l, h => by
    have h1 := h x (by simp)
    have h2 := fm_le (l := l) fun y hy => h y (by simp [hy])
    rw [List.flatMap_cons, List.length_append, List.length_cons, Nat.succ_mul]
    omega
end Go.Proofs.YtkghabmgofgclaaDoor
