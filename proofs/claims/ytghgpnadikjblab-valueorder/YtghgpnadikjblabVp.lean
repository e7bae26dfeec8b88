/- three values in a row -/
import Derived.Test.YtghgpnadikjblabVo
namespace Go.Proofs.Ytghgpnadikjblab
open Go.ChangeShapes Go.WideShapes Go.ChangeAt Go.RowKit
set_option linter.unusedVariables false
set_option linter.unusedSimpArgs false

/-- three values' blocks -/
def V3 (w0 W : World) (a b c d e f : Int) : Prop := VC W w0.heap.size a b ∧ VC W (w0.heap.size + 1) c d ∧ VC W (w0.heap.size + 1 + 1) e f ∧ Below w0.heap.size w0 W
theorem V3.new (w : World) (a b c d e f : Int) : V3 w (((w.alloc (.cells #[.int .i64 a, .int .i64 b] 23)).alloc (.cells #[.int .i64 c, .int .i64 d] 23)).alloc (.cells #[.int .i64 e, .int .i64 f] 23)) a b c d e f := by
  refine ⟨((VC.new w a b).alloc _).alloc _, VC.alloc (heap_alloc2_new _ _ _) _, ?_, ?_⟩
  · have h := VC.new ((w.alloc (.cells #[.int .i64 a, .int .i64 b] 23)).alloc (.cells #[.int .i64 c, .int .i64 d] 23)) e f
    have e2 : ((w.alloc (.cells #[.int .i64 a, .int .i64 b] 23)).alloc (.cells #[.int .i64 c, .int .i64 d] 23)).heap.size = w.heap.size + 1 + 1 := by
      show ((w.heap.push _).push _).size = _
      simp
    rw [e2] at h
    exact h
  · have b1 : Below w.heap.size w (w.alloc (.cells #[.int .i64 a, .int .i64 b] 23)) := (Below.refl _ _).alloc (Nat.le_refl _) _
    have b2 := b1.alloc b1.size (.cells #[.int .i64 c, .int .i64 d] 23)
    exact b2.alloc b2.size _
theorem V3.kept {w0 W W' : World} {a b c d e f : Int} (h : V3 w0 W a b c d e f) (hb : Below W.heap.size W W') : V3 w0 W' a b c d e f :=
  ⟨h.1.kept hb, h.2.1.kept hb, h.2.2.1.kept hb, below_seq h.2.2.2 hb⟩
theorem V3.facts {w0 W : World} {a b c d e f : Int} (h : V3 w0 W a b c d e f) :
    W.cell? ⟨w0.heap.size, 0, none⟩ = some (.int .i64 a) ∧ W.cell? ⟨w0.heap.size, 1, none⟩ = some (.int .i64 b) ∧ W.cell? ⟨w0.heap.size + 1, 0, none⟩ = some (.int .i64 c) ∧ W.cell? ⟨w0.heap.size + 1, 1, none⟩ = some (.int .i64 d) ∧ W.cell? ⟨w0.heap.size + 1 + 1, 0, none⟩ = some (.int .i64 e) ∧ W.cell? ⟨w0.heap.size + 1 + 1, 1, none⟩ = some (.int .i64 f) :=
  ⟨h.1.facts.1, h.1.facts.2.1, h.2.1.facts.1, h.2.1.facts.2.1, h.2.2.1.facts.1, h.2.2.1.facts.2.1⟩
theorem calls_v3 {f : FuncId} {args : Array Value} {v : Value} {w0 w : World} {a b c d e g : Int} (h : Calls Try.prog f args w (fun e w' => e = .returned v ∧ Below w.heap.size w w')) (hS : V3 w0 w a b c d e g) :
    Calls Try.prog f args w (fun x w' => x = .returned v ∧ V3 w0 w' a b c d e g) := h.mono fun _ _ ⟨he, hg⟩ => ⟨he, hS.kept hg⟩

set_option maxHeartbeats 4000000 in
theorem order_key (k0 n0 k1 n1 k2 n2 : Int) (w : World) (x y z u : Bool)
    (hx : lessB k0 n0 k1 n1 = x) (hy : lessB k1 n1 k0 n0 = y) (hz : lessB k1 n1 k2 n2 = z) (hu : lessB k0 n0 k2 n2 = u)
    (heq : (k0 = k1 ∧ n0 = n1 ∧ x = false ∧ y = false) ∨ ((k0 == k1) = false ∧ x = !y) ∨ (k0 = k1 ∧ (n0 == n1) = false ∧ x = !y)) (ht : (x && z && !u) = false) :
    Calls Try.prog 4 #[val k0 n0, val k1 n1, val k2 n2] w fun e w' => e = .returned (.bool true) ∧ Below w.heap.size w w' := by
  have l1 := less_any k0 n0 k1 n1
  have l2 := less_any k1 n1 k0 n0
  have l3 := less_any k1 n1 k2 n2
  have l4 := less_any k0 n0 k2 n2
  rw [hx] at l1
  rw [hy] at l2
  rw [hz] at l3
  rw [hu] at l4
  clear hx hy hz hu
  have T := hid_mk ht
  clear ht
  rcases heq with ⟨rfl, rfl, rfl, rfl⟩ | ⟨e1, rfl⟩ | ⟨rfl, e1, rfl⟩
  · unfold val at l1 l2 l3 l4 ⊢
    have L1 := hid_mk l1
    have L2 := hid_mk l2
    have L3 := hid_mk l3
    have L4 := hid_mk l4
    clear l1 l2 l3 l4 T
    have S0 := V3.new w k0 n0 k0 n0 k2 n2
    obtain ⟨x0, x1, x2, x3, x4, x5⟩ := S0.facts
    have HS := hid_mk S0
    clear S0
    go_enter Try.func4, Try.ntmps4
    go_wp2_with fail
    refine (L1.out _).mono ?_
    rintro e w1 ⟨rfl, hg⟩
    have S1 := hid_mk (HS.out.kept hg)
    clear HS hg x0 x1 x2 x3 x4 x5
    obtain ⟨x0, x1, x2, x3, x4, x5⟩ := S1.out.facts
    go_wp2_with fail
    refine (L2.out _).mono ?_
    rintro e w2 ⟨rfl, hg⟩
    have S2 := hid_mk (S1.out.kept hg)
    clear S1 hg x0 x1 x2 x3 x4 x5
    obtain ⟨x0, x1, x2, x3, x4, x5⟩ := S2.out.facts
    go_wp2_with fail
    refine (alive_any _).mono ?_
    rintro e w3 ⟨rfl, hg⟩
    have S3 := hid_mk (S2.out.kept hg)
    clear S2 hg x0 x1 x2 x3 x4 x5
    obtain ⟨x0, x1, x2, x3, x4, x5⟩ := S3.out.facts
    go_wp2_with fail
    go_ret
    exact ⟨rfl, S3.out.2.2.2⟩
  · cases y
    · cases z
      · unfold val at l1 l2 l3 l4 ⊢
        have L1 := hid_mk l1
        have L2 := hid_mk l2
        have L3 := hid_mk l3
        have L4 := hid_mk l4
        clear l1 l2 l3 l4 T
        have S0 := V3.new w k0 n0 k1 n1 k2 n2
        obtain ⟨x0, x1, x2, x3, x4, x5⟩ := S0.facts
        have HS := hid_mk S0
        clear S0
        go_enter Try.func4, Try.ntmps4
        go_wp2_with fail
        refine (L1.out _).mono ?_
        rintro e w1 ⟨rfl, hg⟩
        have S1 := hid_mk (HS.out.kept hg)
        clear HS hg x0 x1 x2 x3 x4 x5
        obtain ⟨x0, x1, x2, x3, x4, x5⟩ := S1.out.facts
        go_wp2_with fail
        refine (L2.out _).mono ?_
        rintro e w2 ⟨rfl, hg⟩
        have S2 := hid_mk (S1.out.kept hg)
        clear S1 hg x0 x1 x2 x3 x4 x5
        obtain ⟨x0, x1, x2, x3, x4, x5⟩ := S2.out.facts
        go_wp2_with fail
        refine (alive_any _).mono ?_
        rintro e w3 ⟨rfl, hg⟩
        have S3 := hid_mk (S2.out.kept hg)
        clear S2 hg x0 x1 x2 x3 x4 x5
        obtain ⟨x0, x1, x2, x3, x4, x5⟩ := S3.out.facts
        go_wp2_with fail
        refine (L3.out _).mono ?_
        rintro e w4 ⟨rfl, hg⟩
        have S4 := hid_mk (S3.out.kept hg)
        clear S3 hg x0 x1 x2 x3 x4 x5
        obtain ⟨x0, x1, x2, x3, x4, x5⟩ := S4.out.facts
        go_wp2_with (go_at_call 10; refine (calls_v3 (L4.out _) S4.out).mono ?_; rintro e w5 ⟨rfl, S5⟩)
        go_ret
        first | exact ⟨rfl, S5.2.2.2⟩ | exact ⟨rfl, S4.out.2.2.2⟩
      · cases u
        · exfalso; have q := T.out; revert q; decide
        · unfold val at l1 l2 l3 l4 ⊢
          have L1 := hid_mk l1
          have L2 := hid_mk l2
          have L3 := hid_mk l3
          have L4 := hid_mk l4
          clear l1 l2 l3 l4 T
          have S0 := V3.new w k0 n0 k1 n1 k2 n2
          obtain ⟨x0, x1, x2, x3, x4, x5⟩ := S0.facts
          have HS := hid_mk S0
          clear S0
          go_enter Try.func4, Try.ntmps4
          go_wp2_with fail
          refine (L1.out _).mono ?_
          rintro e w1 ⟨rfl, hg⟩
          have S1 := hid_mk (HS.out.kept hg)
          clear HS hg x0 x1 x2 x3 x4 x5
          obtain ⟨x0, x1, x2, x3, x4, x5⟩ := S1.out.facts
          go_wp2_with fail
          refine (L2.out _).mono ?_
          rintro e w2 ⟨rfl, hg⟩
          have S2 := hid_mk (S1.out.kept hg)
          clear S1 hg x0 x1 x2 x3 x4 x5
          obtain ⟨x0, x1, x2, x3, x4, x5⟩ := S2.out.facts
          go_wp2_with fail
          refine (alive_any _).mono ?_
          rintro e w3 ⟨rfl, hg⟩
          have S3 := hid_mk (S2.out.kept hg)
          clear S2 hg x0 x1 x2 x3 x4 x5
          obtain ⟨x0, x1, x2, x3, x4, x5⟩ := S3.out.facts
          go_wp2_with fail
          refine (L3.out _).mono ?_
          rintro e w4 ⟨rfl, hg⟩
          have S4 := hid_mk (S3.out.kept hg)
          clear S3 hg x0 x1 x2 x3 x4 x5
          obtain ⟨x0, x1, x2, x3, x4, x5⟩ := S4.out.facts
          go_wp2_with (go_at_call 10; refine (calls_v3 (L4.out _) S4.out).mono ?_; rintro e w5 ⟨rfl, S5⟩)
          go_ret
          first | exact ⟨rfl, S5.2.2.2⟩ | exact ⟨rfl, S4.out.2.2.2⟩
    · unfold val at l1 l2 l3 l4 ⊢
      have L1 := hid_mk l1
      have L2 := hid_mk l2
      have L3 := hid_mk l3
      have L4 := hid_mk l4
      clear l1 l2 l3 l4 T
      have S0 := V3.new w k0 n0 k1 n1 k2 n2
      obtain ⟨x0, x1, x2, x3, x4, x5⟩ := S0.facts
      have HS := hid_mk S0
      clear S0
      go_enter Try.func4, Try.ntmps4
      go_wp2_with fail
      refine (L1.out _).mono ?_
      rintro e w1 ⟨rfl, hg⟩
      have S1 := hid_mk (HS.out.kept hg)
      clear HS hg x0 x1 x2 x3 x4 x5
      obtain ⟨x0, x1, x2, x3, x4, x5⟩ := S1.out.facts
      go_wp2_with fail
      refine (L2.out _).mono ?_
      rintro e w2 ⟨rfl, hg⟩
      have S2 := hid_mk (S1.out.kept hg)
      clear S1 hg x0 x1 x2 x3 x4 x5
      obtain ⟨x0, x1, x2, x3, x4, x5⟩ := S2.out.facts
      go_wp2_with fail
      refine (alive_any _).mono ?_
      rintro e w3 ⟨rfl, hg⟩
      have S3 := hid_mk (S2.out.kept hg)
      clear S2 hg x0 x1 x2 x3 x4 x5
      obtain ⟨x0, x1, x2, x3, x4, x5⟩ := S3.out.facts
      go_wp2_with fail
      go_ret
      exact ⟨rfl, S3.out.2.2.2⟩
  · cases y
    · cases z
      · unfold val at l1 l2 l3 l4 ⊢
        have L1 := hid_mk l1
        have L2 := hid_mk l2
        have L3 := hid_mk l3
        have L4 := hid_mk l4
        clear l1 l2 l3 l4 T
        have S0 := V3.new w k0 n0 k0 n1 k2 n2
        obtain ⟨x0, x1, x2, x3, x4, x5⟩ := S0.facts
        have HS := hid_mk S0
        clear S0
        go_enter Try.func4, Try.ntmps4
        go_wp2_with fail
        refine (L1.out _).mono ?_
        rintro e w1 ⟨rfl, hg⟩
        have S1 := hid_mk (HS.out.kept hg)
        clear HS hg x0 x1 x2 x3 x4 x5
        obtain ⟨x0, x1, x2, x3, x4, x5⟩ := S1.out.facts
        go_wp2_with fail
        refine (L2.out _).mono ?_
        rintro e w2 ⟨rfl, hg⟩
        have S2 := hid_mk (S1.out.kept hg)
        clear S1 hg x0 x1 x2 x3 x4 x5
        obtain ⟨x0, x1, x2, x3, x4, x5⟩ := S2.out.facts
        go_wp2_with fail
        refine (alive_any _).mono ?_
        rintro e w3 ⟨rfl, hg⟩
        have S3 := hid_mk (S2.out.kept hg)
        clear S2 hg x0 x1 x2 x3 x4 x5
        obtain ⟨x0, x1, x2, x3, x4, x5⟩ := S3.out.facts
        go_wp2_with fail
        refine (L3.out _).mono ?_
        rintro e w4 ⟨rfl, hg⟩
        have S4 := hid_mk (S3.out.kept hg)
        clear S3 hg x0 x1 x2 x3 x4 x5
        obtain ⟨x0, x1, x2, x3, x4, x5⟩ := S4.out.facts
        go_wp2_with (go_at_call 10; refine (calls_v3 (L4.out _) S4.out).mono ?_; rintro e w5 ⟨rfl, S5⟩)
        go_ret
        first | exact ⟨rfl, S5.2.2.2⟩ | exact ⟨rfl, S4.out.2.2.2⟩
      · cases u
        · exfalso; have q := T.out; revert q; decide
        · unfold val at l1 l2 l3 l4 ⊢
          have L1 := hid_mk l1
          have L2 := hid_mk l2
          have L3 := hid_mk l3
          have L4 := hid_mk l4
          clear l1 l2 l3 l4 T
          have S0 := V3.new w k0 n0 k0 n1 k2 n2
          obtain ⟨x0, x1, x2, x3, x4, x5⟩ := S0.facts
          have HS := hid_mk S0
          clear S0
          go_enter Try.func4, Try.ntmps4
          go_wp2_with fail
          refine (L1.out _).mono ?_
          rintro e w1 ⟨rfl, hg⟩
          have S1 := hid_mk (HS.out.kept hg)
          clear HS hg x0 x1 x2 x3 x4 x5
          obtain ⟨x0, x1, x2, x3, x4, x5⟩ := S1.out.facts
          go_wp2_with fail
          refine (L2.out _).mono ?_
          rintro e w2 ⟨rfl, hg⟩
          have S2 := hid_mk (S1.out.kept hg)
          clear S1 hg x0 x1 x2 x3 x4 x5
          obtain ⟨x0, x1, x2, x3, x4, x5⟩ := S2.out.facts
          go_wp2_with fail
          refine (alive_any _).mono ?_
          rintro e w3 ⟨rfl, hg⟩
          have S3 := hid_mk (S2.out.kept hg)
          clear S2 hg x0 x1 x2 x3 x4 x5
          obtain ⟨x0, x1, x2, x3, x4, x5⟩ := S3.out.facts
          go_wp2_with fail
          refine (L3.out _).mono ?_
          rintro e w4 ⟨rfl, hg⟩
          have S4 := hid_mk (S3.out.kept hg)
          clear S3 hg x0 x1 x2 x3 x4 x5
          obtain ⟨x0, x1, x2, x3, x4, x5⟩ := S4.out.facts
          go_wp2_with (go_at_call 10; refine (calls_v3 (L4.out _) S4.out).mono ?_; rintro e w5 ⟨rfl, S5⟩)
          go_ret
          first | exact ⟨rfl, S5.2.2.2⟩ | exact ⟨rfl, S4.out.2.2.2⟩
    · unfold val at l1 l2 l3 l4 ⊢
      have L1 := hid_mk l1
      have L2 := hid_mk l2
      have L3 := hid_mk l3
      have L4 := hid_mk l4
      clear l1 l2 l3 l4 T
      have S0 := V3.new w k0 n0 k0 n1 k2 n2
      obtain ⟨x0, x1, x2, x3, x4, x5⟩ := S0.facts
      have HS := hid_mk S0
      clear S0
      go_enter Try.func4, Try.ntmps4
      go_wp2_with fail
      refine (L1.out _).mono ?_
      rintro e w1 ⟨rfl, hg⟩
      have S1 := hid_mk (HS.out.kept hg)
      clear HS hg x0 x1 x2 x3 x4 x5
      obtain ⟨x0, x1, x2, x3, x4, x5⟩ := S1.out.facts
      go_wp2_with fail
      refine (L2.out _).mono ?_
      rintro e w2 ⟨rfl, hg⟩
      have S2 := hid_mk (S1.out.kept hg)
      clear S1 hg x0 x1 x2 x3 x4 x5
      obtain ⟨x0, x1, x2, x3, x4, x5⟩ := S2.out.facts
      go_wp2_with fail
      refine (alive_any _).mono ?_
      rintro e w3 ⟨rfl, hg⟩
      have S3 := hid_mk (S2.out.kept hg)
      clear S2 hg x0 x1 x2 x3 x4 x5
      obtain ⟨x0, x1, x2, x3, x4, x5⟩ := S3.out.facts
      go_wp2_with fail
      go_ret
      exact ⟨rfl, S3.out.2.2.2⟩
theorem order_any (k0 n0 k1 n1 k2 n2 : Int) (w : World) :
    Calls Try.prog 4 #[val k0 n0, val k1 n1, val k2 n2] w fun e w' => e = .returned (.bool true) ∧ Below w.heap.size w w' := by
  refine order_key k0 n0 k1 n1 k2 n2 w _ _ _ _ rfl rfl rfl rfl ?_ ?_
  · unfold lessB
    by_cases h1 : k0 = k1
    · by_cases h2 : n0 = n1
      · left; subst h1; subst h2; simp
      · right; right
        refine ⟨h1, by simpa using h2, ?_⟩
        rw [if_pos h1, if_pos h1.symm, Bool.eq_iff_iff]; simp; omega
    · right; left
      refine ⟨by simpa using h1, ?_⟩
      rw [if_neg h1, if_neg (fun h => h1 h.symm), Bool.eq_iff_iff]; simp; omega
  · rw [Bool.eq_false_iff]
    intro h
    rw [Bool.and_eq_true, Bool.and_eq_true] at h
    obtain ⟨⟨a, b⟩, c⟩ := h
    have c' : lessB k0 n0 k2 n2 = false := by simpa using c
    clear c
    unfold lessB at a b c'
    split at a <;> split at b <;> split at c' <;> rw [decide_eq_true_eq] at a b <;> rw [decide_eq_false_iff_not] at c' <;> omega
end Go.Proofs.Ytghgpnadikjblab
