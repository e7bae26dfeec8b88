import Derived.Test.YtcpignkjlnjjmaaDoorNk11
import Derived.Laws.StructEq
namespace Go.Proofs.YtcpignkjlnjjmaaDoor
open Go.RowKit
set_option linter.unusedVariables false
set_option linter.unusedSimpArgs false

theorem blk5 {w : World} {g : Nat} {x0 x1 x2 x3 x4 : Value} {T : TypeId} (h : w.heap[g]? = some (.cells #[x0, x1, x2, x3, x4] T (0, 0))) : w.cell? ⟨g, 0, none⟩ = some x0 ∧ w.cell? ⟨g, 1, none⟩ = some x1 ∧ w.cell? ⟨g, 2, none⟩ = some x2 ∧ w.cell? ⟨g, 3, none⟩ = some x3 ∧ w.cell? ⟨g, 4, none⟩ = some x4 ∧ ∀ i, w.frozen? ⟨g, i, none⟩ = false := by
  simp [World.cell?, World.frozen?, h]
def plainB (r : Int) : Bool := r == 2 || r == 3 || r == 4 || r == 5
def visB (k : Int) : Bool := decide (1 ≤ k) && decide (k ≤ 10)
def aboveB (ba bk ta : Int) : Bool := bk != 13 || decide (ba < ta)
/-- may a word of a role of the object (ba, b) refer to (ta, t)? -/
def leadsB (ba : Int) (b : Blk) (r ta : Int) (t : Blk) : Bool :=
  if r = 6 then t.1 == 11 else if r = 7 then t.1 == 6 && t.2.2.2 == b.2.2.2 else if r = 8 then t.1 == 12 && t.2.2.2 == b.2.2.1 else if r = 9 then t.1 == 13 && t.2.2.2 == b.2.2.2 && aboveB ba b.1 ta else visB t.1
theorem oself_any (b : Nat) (w : World) : Calls Tryd.prog 13 #[.pointer (some ⟨b, 0, none⟩)] w fun e w' => e = .returned (.pointer (some ⟨b, 0, none⟩)) ∧ w' = w := by
  go_enter Tryd.func13, Tryd.ntmps13
  go_wp2
  go_ret
  exact ⟨rfl, rfl⟩
theorem plain_any (r : Int) (w : World) : Calls Tryd.prog 35 #[.int .i64 r] w fun e w' => e = .returned (.bool (plainB r)) ∧ w' = w := by
  have h : r = 2 ∨ r = 3 ∨ r = 4 ∨ r = 5 ∨ ((r == 2) = false ∧ (r == 3) = false ∧ (r == 4) = false ∧ (r == 5) = false) := by simp; omega
  rcases h with rfl | rfl | rfl | rfl | ⟨h1, h2, h3, h4⟩
  · go_enter Tryd.func35, Tryd.ntmps35
    go_wp2
    go_ret
    exact ⟨rfl, rfl⟩
  · go_enter Tryd.func35, Tryd.ntmps35
    go_wp2
    go_ret
    exact ⟨rfl, rfl⟩
  · go_enter Tryd.func35, Tryd.ntmps35
    go_wp2
    go_ret
    exact ⟨rfl, rfl⟩
  · go_enter Tryd.func35, Tryd.ntmps35
    go_wp2
    go_ret
    exact ⟨rfl, rfl⟩
  · go_enter Tryd.func35, Tryd.ntmps35
    go_wp2
    go_ret
    exact ⟨by unfold plainB; rw [h1, h2, h3, h4]; rfl, rfl⟩
theorem above_any (ba bk bz bx bt ta tk tz tx tt : Int) (w : World) : Calls Tryd.prog 50 #[.agg #[.int .i64 ba, .int .i64 bk, .int .i64 bz, .int .i64 bx, .int .i64 bt], .agg #[.int .i64 ta, .int .i64 tk, .int .i64 tz, .int .i64 tx, .int .i64 tt]] w fun e w' => e = .returned (.bool (aboveB ba bk ta)) ∧ Out 0 0 w w' := by
  by_cases h : bk = 13
  · subst h
    go_enter Tryd.func50, Tryd.ntmps50
    go_wp2
    go_ret
    exact ⟨by unfold aboveB; simp, ((Out.refl 0 0 w).alloc _).alloc _⟩
  · have h1 : (bk != 13) = true := by simpa using h
    go_enter Tryd.func50, Tryd.ntmps50
    go_wp2
    go_ret
    exact ⟨by unfold aboveB; rw [h1]; rfl, ((Out.refl 0 0 w).alloc _).alloc _⟩
set_option maxHeartbeats 2000000 in
theorem leads_any (ba bk bz bx bt r ta tk tz tx tt : Int) (w : World) : Calls Tryd.prog 34 #[.agg #[.int .i64 ba, .int .i64 bk, .int .i64 bz, .int .i64 bx, .int .i64 bt], .int .i64 r, .agg #[.int .i64 ta, .int .i64 tk, .int .i64 tz, .int .i64 tx, .int .i64 tt]] w fun e w' => e = .returned (.bool (leadsB ba (bk, bz, bx, bt) r ta (tk, tz, tx, tt))) ∧ Out 0 0 w w' := by
  have hO : Out 0 0 w ((w.alloc (.cells #[.int .i64 ba, .int .i64 bk, .int .i64 bz, .int .i64 bx, .int .i64 bt] 49)).alloc (.cells #[.int .i64 ta, .int .i64 tk, .int .i64 tz, .int .i64 tx, .int .i64 tt] 49)) := ((Out.refl 0 0 w).alloc _).alloc _
  have HO := hid_mk hO
  clear hO
  have h : r = 6 ∨ r = 7 ∨ r = 8 ∨ r = 9 ∨ ((r == 6) = false ∧ (r == 7) = false ∧ (r == 8) = false ∧ (r == 9) = false) := by simp; omega
  rcases h with rfl | rfl | rfl | rfl | ⟨h1, h2, h3, h4⟩
  · go_enter Tryd.func34, Tryd.ntmps34
    go_wp2
    go_ret
    exact ⟨rfl, HO.out⟩
  · by_cases k : tk = 6
    · subst k
      go_enter Tryd.func34, Tryd.ntmps34
      go_wp2
      go_ret
      exact ⟨rfl, HO.out⟩
    · have k1 : (tk == 6) = false := by simpa using k
      go_enter Tryd.func34, Tryd.ntmps34
      go_wp2
      go_ret
      exact ⟨by show _ = Ending.returned (.bool (tk == 6 && tt == bt)); rw [k1]; rfl, HO.out⟩
  · by_cases k : tk = 12
    · subst k
      go_enter Tryd.func34, Tryd.ntmps34
      go_wp2
      go_ret
      exact ⟨rfl, HO.out⟩
    · have k1 : (tk == 12) = false := by simpa using k
      go_enter Tryd.func34, Tryd.ntmps34
      go_wp2
      go_ret
      exact ⟨by show _ = Ending.returned (.bool (tk == 12 && tt == bx)); rw [k1]; rfl, HO.out⟩
  · by_cases k : tk = 13
    · subst k
      by_cases k2 : tt = bt
      · subst k2
        have k3 : (tt == tt) = true := by simp
        go_enter Tryd.func34, Tryd.ntmps34
        go_wp2_with fail
        refine (above_any _ _ _ _ _ _ _ _ _ _ _).mono ?_
        rintro e w1 ⟨rfl, o1⟩
        have HO2 := hid_mk (HO.out.trans o1)
        clear o1
        go_wp2
        go_ret
        exact ⟨by show _ = Ending.returned (.bool ((13 : Int) == 13 && tt == tt && aboveB ba bk ta)); simp, HO2.out⟩
      · have k3 : (tt == bt) = false := by simpa using k2
        go_enter Tryd.func34, Tryd.ntmps34
        go_wp2
        go_ret
        exact ⟨by show _ = Ending.returned (.bool ((13 : Int) == 13 && tt == bt && aboveB ba bk ta)); rw [k3]; simp, HO.out⟩
    · have k1 : (tk == 13) = false := by simpa using k
      go_enter Tryd.func34, Tryd.ntmps34
      go_wp2
      go_ret
      exact ⟨by show _ = Ending.returned (.bool (tk == 13 && tt == bt && aboveB ba bk ta)); rw [k1]; rfl, HO.out⟩
  · go_enter Tryd.func34, Tryd.ntmps34
    go_wp2_with fail
    refine (visible_any _ _).mono ?_
    rintro e w1 ⟨rfl, rfl⟩
    go_wp2
    go_ret
    refine ⟨?_, HO.out⟩
    unfold leadsB
    rw [if_neg (by simpa using h1), if_neg (by simpa using h2), if_neg (by simpa using h3), if_neg (by simpa using h4)]
    rfl
end Go.Proofs.YtcpignkjlnjjmaaDoor
namespace Go.Proofs.YtcpignkjlnjjmaaDoor
open Go.RowKit
set_option linter.unusedVariables false
set_option linter.unusedSimpArgs false

def fieldB (r : Int) : Bool := r != 0 && r != 1
theorem field_yes (a k s x t i : Int) {w : World} (hT : Tab w) (s1 : -9223372036854775808 ≤ s) (s2 : s ≤ 9223372036854775807) (hf : fieldB (roleV k s i) = true) :
    Calls Tryd.prog 15 #[.agg #[.int .i64 a, .int .i64 k, .int .i64 s, .int .i64 x, .int .i64 t], .int .i64 i] w fun e w' => e = .returned (.int .i64 (roleV k s i)) ∧ Out 0 0 w w' := by
  have HR := hid_mk (fun (w : World) (hT : Tab w) => roles_any k s i hT s1 s2)
  have HT := hid_mk hT
  generalize roleV k s i = r at *
  have h1 : (r != 0) = true := by unfold fieldB at hf; simp at hf ⊢; omega
  have h2 : (r != 1) = true := by unfold fieldB at hf; simp at hf ⊢; omega
  clear hT s1 s2 hf
  go_enter Tryd.func15, Tryd.ntmps15
  go_wp2_with fail
  refine (HR.out _ (HT.out.quiet ((Out.refl 0 0 w).alloc _))).mono ?_
  rintro e w1 ⟨rfl, rfl⟩
  go_wp2_with fail
  refine (want_yes _ _).mono ?_
  rintro e w1 ⟨rfl, rfl⟩
  go_wp2
  go_ret
  exact ⟨rfl, (Out.refl 0 0 w).alloc _⟩
theorem field_no (a k s x t i : Int) {w : World} (hT : Tab w) (s1 : -9223372036854775808 ≤ s) (s2 : s ≤ 9223372036854775807) (hf : fieldB (roleV k s i) = false) :
    Calls Tryd.prog 15 #[.agg #[.int .i64 a, .int .i64 k, .int .i64 s, .int .i64 x, .int .i64 t], .int .i64 i] w fun e w' => e = .panicked [stopP 32 0] ∧ Out 0 0 w w' := by
  have HR := hid_mk (fun (w : World) (hT : Tab w) => roles_any k s i hT s1 s2)
  have HT := hid_mk hT
  generalize roleV k s i = r at *
  have h : r = 0 ∨ r = 1 := by unfold fieldB at hf; simp at hf; omega
  clear hT s1 s2 hf
  rcases h with rfl | rfl <;>
  · go_enter Tryd.func15, Tryd.ntmps15
    go_wp2_with fail
    refine (HR.out _ (HT.out.quiet ((Out.refl 0 0 w).alloc _))).mono ?_
    rintro e w1 ⟨rfl, rfl⟩
    go_wp2_with fail
    refine (want_no _ _).mono ?_
    rintro e w1 ⟨rfl, rfl⟩
    exact ⟨rfl, rfl, (Out.refl 0 0 w).alloc _⟩
end Go.Proofs.YtcpignkjlnjjmaaDoor
namespace Go.Proofs.YtcpignkjlnjjmaaDoor
open Go.RowKit
set_option maxRecDepth 100000 in
theorem eqv (a b c d : Int) (W : World) : (binOp .eql 31 (.agg #[.int .i64 a, .int .i64 b]) (.agg #[.int .i64 c, .int .i64 d])).run Tryd.prog W = .ok (.bool (a == c && b == d)) W := by
  cases h1 : (a == c) <;> cases h2 : (b == d) <;> go_simp
set_option maxRecDepth 100000 in
theorem eqf (a b c d : Int) (W : World) : (binOp .eql 34 (.agg #[.int .i64 a, .int .i64 b]) (.agg #[.int .i64 c, .int .i64 d])).run Tryd.prog W = .ok (.bool (a == c && b == d)) W := by
  cases h1 : (a == c) <;> cases h2 : (b == d) <;> go_simp
end Go.Proofs.YtcpignkjlnjjmaaDoor
