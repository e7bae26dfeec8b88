import Derived.Test.YtjbbkeoolodeaabDoorMj
namespace Go.Proofs.YtjbbkeoolodeaabDoor
open Go.RowKit
set_option linter.unusedVariables false
set_option linter.unusedSimpArgs false

/-- the cells of a plan -/
def plF (q : Nat) (tb : Value) (fr fs : Nat → Int) : Nat → Value := fun i => if i = 0 then .pointer (some ⟨q, 0, none⟩) else if i = 1 then tb else if i < 10 then .int .i64 (fr (i - 2)) else .int .i64 (fs (i - 10))
/-- the plan's table is the space's, or a copy of its own: T -/
def TbAt (w : World) (B G n : Nat) (S T : Nat → Int × Int × Int) (tb : Value) : Prop :=
  (tb = .pointer none ∧ T = S) ∨ ∃ b bw, tb = .pointer (some ⟨b, 0, none⟩) ∧ TblAt 114 w b bw n T ∧ B ≤ b ∧ B ≤ bw ∧ b ≠ G ∧ bw ≠ G
section
variable {w : World} {lo hi n cap : Nat} {s : Nat → Nat} {r : Raw}
end
end Go.Proofs.YtjbbkeoolodeaabDoor
namespace Go.Proofs.YtjbbkeoolodeaabDoor
open Go.RowKit
set_option linter.unusedVariables false
set_option linter.unusedSimpArgs false

def updI (f : Nat → Int) (c : Nat) (v : Int) : Nat → Int := fun i => if i = c then v else f i
def plB (n : Nat) (r : Raw) (T : Nat → Int × Int × Int) (fr fs : Nat → Int) (c : Nat) : Bool × (Nat → Int × Int × Int) × (Nat → Int) × (Nat → Int) :=
  if 0 < fs c then (true, T, fr, updI fs c (fs c - 1))
  else if 0 ≤ nxr (r.F c) (64 * n) (fr c).toNat then (true, T, updI fr c (nxr (r.F c) (64 * n) (fr c).toNat + 1), fs)
  else if tcE T n (c : Int) = 0 then (true, tcS T n (c : Int), fr, updI fs c (blocksV (c : Int) - 1))
  else (false, tcS T n (c : Int), fr, fs)
section
variable {w : World} {lo hi n cap : Nat} {s : Nat → Nat} {r : Raw} {B G : Nat} {T : Nat → Int × Int × Int} {tb : Value} {fr fs : Nat → Int}
theorem TbAt.quiet {w w' : World} {B G n : Nat} {S T : Nat → Int × Int × Int} {tb : Value} (h : TbAt w B G n S T tb) (o : Out 0 0 w w') : TbAt w' B G n S T tb := by
  rcases h with h | ⟨b, bw, h1, h2, h3⟩
  · exact .inl h
  · exact .inr ⟨b, bw, h1, h2.kept o (.inr (Nat.zero_le _)) (.inr (Nat.zero_le _)), h3⟩
end
end Go.Proofs.YtjbbkeoolodeaabDoor
namespace Go.Proofs.YtjbbkeoolodeaabDoor
open Go.RowKit
set_option linter.unusedVariables false
set_option linter.unusedSimpArgs false

theorem TbAt.kept {w w' : World} {B G n : Nat} {S T : Nat → Int × Int × Int} {tb : Value} (h : TbAt w B G n S T tb) (o : Out G (G + 1) w w') : TbAt w' B G n S T tb := by
  rcases h with h | ⟨b, bw, h1, h2, h3, h4, h5, h6⟩
  · exact .inl h
  · exact .inr ⟨b, bw, h1, h2.kept o (by omega) (by omega), h3, h4, h5, h6⟩
/-- what a plan may hold -/
structure PlOk (n : Nat) (fr fs : Nat → Int) : Prop where
  fr : ∀ c, c < 8 → 0 ≤ fr c ∧ fr c ≤ 64 * (n : Int)
  fs : ∀ c, c < 8 → 0 ≤ fs c ∧ fs c ≤ 32
section
variable {w : World} {lo hi n cap : Nat} {s : Nat → Nat} {r : Raw} {B G : Nat} {T : Nat → Int × Int × Int} {tb : Value} {fr fs : Nat → Int}
/-- a size -/
def plT (n : Nat) (r : Raw) (T : Nat → Int × Int × Int) (fr fs : Nat → Int) (z : Int) : Bool × (Nat → Int × Int × Int) × (Nat → Int) × (Nat → Int) :=
  if 0 < pagesV z then (trE T n (pagesV z) == 0, trS T n (pagesV z), fr, fs)
  else if 0 ≤ ofV z then plB n r T fr fs (ofV z).toNat
  else (false, T, fr, fs)
theorem of_lt (z : Int) (hp : ¬ 0 < pagesV z) (h : 0 ≤ ofV z) : ∃ c : Nat, ofV z = (c : Int) ∧ c < 8 := by
  have hz : z ≤ 32 ∨ 1024 < z := by
    by_cases hh : 32 < z ∧ z ≤ 1024
    · unfold pagesV at hp; rw [if_pos hh] at hp; omega
    · omega
  have : ofV z ≤ 7 := by
    unfold ofV
    repeat' split
    all_goals omega
  exact ⟨(ofV z).toNat, by omega, by omega⟩
end
end Go.Proofs.YtjbbkeoolodeaabDoor
namespace Go.Proofs.YtjbbkeoolodeaabDoor
open Go.RowKit
set_option linter.unusedVariables false
set_option linter.unusedSimpArgs false

theorem plB_ok {n : Nat} {r : Raw} {T : Nat → Int × Int × Int} {fr fs : Nat → Int} (h : PlOk n fr fs) {c : Nat} (hc : c < 8) : PlOk n (plB n r T fr fs c).2.2.1 (plB n r T fr fs c).2.2.2 := by
  unfold plB
  by_cases h1 : 0 < fs c
  · rw [if_pos h1]
    refine ⟨h.fr, fun d hd => ?_⟩
    show 0 ≤ updI fs c (fs c - 1) d ∧ updI fs c (fs c - 1) d ≤ 32
    unfold updI
    by_cases e : d = c
    · rw [if_pos e]; have := h.fs c hc; omega
    · rw [if_neg e]; exact h.fs d hd
  · rw [if_neg h1]
    rcases nxr_cases (r.F c) (64 * n) (fr c).toNat with ⟨e1, _⟩ | ⟨m, e1, e2, _⟩
    · rw [e1, if_neg (by omega)]
      by_cases h5 : tcE T n (c : Int) = 0
      · rw [if_pos h5]
        refine ⟨h.fr, fun d hd => ?_⟩
        show 0 ≤ updI fs c (blocksV (c : Int) - 1) d ∧ updI fs c (blocksV (c : Int) - 1) d ≤ 32
        unfold updI
        by_cases e : d = c
        · rw [if_pos e]; obtain ⟨x', y', h1, h2, h3, h4⟩ := class_nums hc; omega
        · rw [if_neg e]; exact h.fs d hd
      · rw [if_neg h5]; exact h
    · rw [e1, if_pos (by omega)]
      refine ⟨fun d hd => ?_, h.fs⟩
      show 0 ≤ updI fr c ((m : Int) + 1) d ∧ updI fr c ((m : Int) + 1) d ≤ 64 * (n : Int)
      unfold updI
      by_cases e : d = c
      · rw [if_pos e]; omega
      · rw [if_neg e]; exact h.fr d hd
theorem plT_ok {n : Nat} {r : Raw} {T : Nat → Int × Int × Int} {fr fs : Nat → Int} (h : PlOk n fr fs) (z : Int) : PlOk n (plT n r T fr fs z).2.2.1 (plT n r T fr fs z).2.2.2 := by
  unfold plT
  by_cases h1 : 0 < pagesV z
  · rw [if_pos h1]; exact h
  · rw [if_neg h1]
    by_cases h2 : 0 ≤ ofV z
    · rw [if_pos h2]
      obtain ⟨c, hc, hc8⟩ := of_lt z h1 h2
      rw [hc, show ((c : Int)).toNat = c from by omega]
      exact plB_ok h hc8
    · rw [if_neg h2]; exact h
/-- the sizes, one behind the other, from a plan on -/
def plAll (n : Nat) (r : Raw) : (Nat → Int × Int × Int) → (Nat → Int) → (Nat → Int) → List Int → Bool
  | _, _, _, [] => true
  | T, fr, fs, z :: l => (plT n r T fr fs z).1 && plAll n r (plT n r T fr fs z).2.1 (plT n r T fr fs z).2.2.1 (plT n r T fr fs z).2.2.2 l
section
variable {w : World} {lo hi n cap : Nat} {s : Nat → Nat} {r : Raw}
end
end Go.Proofs.YtjbbkeoolodeaabDoor
