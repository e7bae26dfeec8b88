/- graphs in memory; lists of numbers held against each other -/
import Derived.Test.YtocncffplcfpbaaGreatDoorGrv
import Derived.Laws.StructEq
namespace Go.Proofs.YtocncffplcfpbaaGreatDoor
open Go.RowKit
set_option linter.unusedVariables false
set_option linter.unusedSimpArgs false

def ivs (l : List Int) : List Value := l.map fun x => .int .i64 x
theorem ivs_len (l : List Int) : (ivs l).length = l.length := by unfold ivs; simp
theorem ivs_app (s t : List Int) : ivs (s ++ t) = ivs s ++ ivs t := by unfold ivs; simp
theorem ivs_one {t : List Int} : ∀ u ∈ ivs t, u.oneCell' = true := by
  intro u hu; unfold ivs at hu; obtain ⟨y, _, rfl⟩ := List.mem_map.1 hu; rfl
theorem ivs_at {l : List Int} {j : Nat} {x : Int} (h : l[j]? = some x) : (ivs l)[j]? = some (.int .i64 x) := by unfold ivs; rw [List.getElem?_map, h]; rfl
theorem ivs_back {l : List Int} {j : Nat} {u : Value} (h : (ivs l)[j]? = some u) : ∃ x, l[j]? = some x ∧ u = .int .i64 x := by
  unfold ivs at h; rw [List.getElem?_map] at h
  obtain ⟨x, h1, h2⟩ := Option.map_eq_some_iff.1 h
  exact ⟨x, h1, h2.symm⟩
/-- numbers in cells one behind the other, in a block below B -/
def IsIn (w : World) (B : Nat) (p : Option Addr) (l : List Int) : Prop := l = [] ∨ ∃ g off, p = some ⟨g, off, none⟩ ∧ g < B ∧ ∀ (j : Nat) x, l[j]? = some x → w.cell? ⟨g, off + j, none⟩ = some (.int .i64 x)
theorem IsIn.fx {S : Nat → Prop} {w w' : World} {B : Nat} {p : Option Addr} {l : List Int} (h : IsIn w B p l) (x : Fx S w w') (hS : ∀ k, k < B → ¬ S k) : IsIn w' B p l := by
  rcases h with h | ⟨g, off, rfl, hg, h⟩
  · exact .inl h
  · exact .inr ⟨g, off, rfl, hg, fun j v q => x.cell (h j v q) (hS _ hg)⟩
theorem IsIn.quiet {w w' : World} {B : Nat} {p : Option Addr} {l : List Int} (h : IsIn w B p l) (x : Out 0 0 w w') : IsIn w' B p l := h.fx (Fx.of_out (S := fun _ => False) x) (fun _ _ q => q)
theorem IsIn.wide {w : World} {B C : Nat} {p : Option Addr} {l : List Int} (h : IsIn w B p l) (hB : B ≤ C) : IsIn w C p l := by
  rcases h with h | ⟨g, off, rfl, hg, h⟩
  · exact .inl h
  · exact .inr ⟨g, off, rfl, Nat.lt_of_lt_of_le hg hB, h⟩
theorem IsIn.at {w : World} {B : Nat} {p : Option Addr} {l : List Int} (h : IsIn w B p l) (h0 : 0 < l.length) : ∃ g off, p = some ⟨g, off, none⟩ ∧ g < B ∧ ∀ (j : Nat) x, l[j]? = some x → w.cell? ⟨g, off + j, none⟩ = some (.int .i64 x) := by
  rcases h with h | h
  · rw [h] at h0; simp at h0
  · exact h
/-- a node in its five cells -/
def NdC (w : World) (B g o : Nat) (n : Int × Int × List Int × List Int × List Int) : Prop := ∃ pr nr cr pf nf cf pe ne ce, w.cell? ⟨g, o, none⟩ = some (.int .i64 n.1) ∧ w.cell? ⟨g, o + 1, none⟩ = some (.int .i64 n.2.1) ∧ w.cell? ⟨g, o + 2, none⟩ = some (.slice pr nr cr) ∧ w.cell? ⟨g, o + 3, none⟩ = some (.slice pf nf cf) ∧ w.cell? ⟨g, o + 4, none⟩ = some (.slice pe ne ce) ∧
  n.2.2.1.length = nr * 1 ∧ n.2.2.2.1.length = nf * 2 ∧ n.2.2.2.2.length = ne * 4 ∧ IsIn w B pr n.2.2.1 ∧ IsIn w B pf n.2.2.2.1 ∧ IsIn w B pe n.2.2.2.2
theorem NdC.fx {S : Nat → Prop} {w w' : World} {B g o : Nat} {n : Int × Int × List Int × List Int × List Int} (h : NdC w B g o n) (x : Fx S w w') (hg : g < B) (hS : ∀ k, k < B → ¬ S k) : NdC w' B g o n := by
  obtain ⟨pr, nr, cr, pf, nf, cf, pe, ne, ce, c0, c1, c2, c3, c4, l1, l2, l3, i1, i2, i3⟩ := h
  have hs := hS g hg
  exact ⟨pr, nr, cr, pf, nf, cf, pe, ne, ce, x.cell c0 hs, x.cell c1 hs, x.cell c2 hs, x.cell c3 hs, x.cell c4 hs, l1, l2, l3, i1.fx x hS, i2.fx x hS, i3.fx x hS⟩
theorem NdC.wide {w : World} {B C g o : Nat} {n : Int × Int × List Int × List Int × List Int} (h : NdC w B g o n) (hB : B ≤ C) : NdC w C g o n := by
  obtain ⟨pr, nr, cr, pf, nf, cf, pe, ne, ce, c0, c1, c2, c3, c4, l1, l2, l3, i1, i2, i3⟩ := h
  exact ⟨pr, nr, cr, pf, nf, cf, pe, ne, ce, c0, c1, c2, c3, c4, l1, l2, l3, i1.wide hB, i2.wide hB, i3.wide hB⟩
/-- nodes one behind the other -/
def NdIn (w : World) (B : Nat) (p : Option Addr) (ns : List (Int × Int × List Int × List Int × List Int)) : Prop := ns = [] ∨ ∃ g off, p = some ⟨g, off, none⟩ ∧ g < B ∧ ∀ (i : Nat) n, ns[i]? = some n → NdC w B g (off + i * 5) n
theorem NdIn.fx {S : Nat → Prop} {w w' : World} {B : Nat} {p : Option Addr} {ns : List (Int × Int × List Int × List Int × List Int)} (h : NdIn w B p ns) (x : Fx S w w') (hS : ∀ k, k < B → ¬ S k) : NdIn w' B p ns := by
  rcases h with h | ⟨g, off, rfl, hg, h⟩
  · exact .inl h
  · exact .inr ⟨g, off, rfl, hg, fun j v q => (h j v q).fx x hg hS⟩
theorem NdIn.quiet {w w' : World} {B : Nat} {p : Option Addr} {ns : List (Int × Int × List Int × List Int × List Int)} (h : NdIn w B p ns) (x : Out 0 0 w w') : NdIn w' B p ns := h.fx (Fx.of_out (S := fun _ => False) x) (fun _ _ q => q)
theorem NdIn.wide {w : World} {B C : Nat} {p : Option Addr} {ns : List (Int × Int × List Int × List Int × List Int)} (h : NdIn w B p ns) (hB : B ≤ C) : NdIn w C p ns := by
  rcases h with h | ⟨g, off, rfl, hg, h⟩
  · exact .inl h
  · exact .inr ⟨g, off, rfl, Nat.lt_of_lt_of_le hg hB, fun j v q => (h j v q).wide hB⟩
theorem NdIn.at {w : World} {B : Nat} {p : Option Addr} {ns : List (Int × Int × List Int × List Int × List Int)} (h : NdIn w B p ns) {i : Nat} {n : Int × Int × List Int × List Int × List Int} (hn : ns[i]? = some n) : ∃ g off, p = some ⟨g, off, none⟩ ∧ g < B ∧ NdC w B g (off + i * 5) n := by
  rcases h with h | ⟨g, off, rfl, hg, h⟩
  · rw [h] at hn; simp at hn
  · exact ⟨g, off, rfl, hg, h i n hn⟩
/-- no list is long -/
def Sm (ns : List (Int × Int × List Int × List Int × List Int)) (rs : List Int) : Prop := ns.length ≤ 30000 ∧ rs.length ≤ 200000 ∧ ∀ n ∈ ns, n.2.2.1.length ≤ 200000 ∧ n.2.2.2.1.length ≤ 200000 ∧ n.2.2.2.2.length ≤ 200000
theorem lt_i {k n : Nat} (h : k < n) : (k : Int) < (n : Int) := by omega
theorem at_k {l : List Int} {n s i k : Nat} (hl : l.length = n * s) (hi : i < n) (hk : k < s) : ∃ x, l[i * s + k]? = some x := by
  refine ⟨_, List.getElem?_eq_getElem ?_⟩
  have : (i + 1) * s ≤ n * s := Nat.mul_le_mul_right _ hi
  rw [Nat.add_mul] at this
  omega
theorem take_s1 {l m : List Int} {i : Nat} {a : Int} (h : l.take (i * 1) = m.take (i * 1)) (h0 : l[i * 1 + 0]? = some a) (k0 : m[i * 1 + 0]? = some a) : l.take ((i + 1) * 1) = m.take ((i + 1) * 1) := by
  rw [Nat.add_mul, List.take_add_one, List.take_add_one, h]
  rw [Nat.add_zero] at h0 k0
  rw [h0, k0]
theorem take_s2 {l m : List Int} {i : Nat} {a b : Int} (h : l.take (i * 2) = m.take (i * 2)) (h0 : l[i * 2 + 0]? = some a) (h1 : l[i * 2 + 1]? = some b) (k0 : m[i * 2 + 0]? = some a) (k1 : m[i * 2 + 1]? = some b) : l.take ((i + 1) * 2) = m.take ((i + 1) * 2) := by
  rw [Nat.add_mul]
  show l.take (i * 2 + 1 + 1) = m.take (i * 2 + 1 + 1)
  rw [List.take_add_one, List.take_add_one, List.take_add_one, List.take_add_one, h]
  rw [Nat.add_zero] at h0 k0
  rw [h0, k0, h1, k1]
theorem take_s4 {l m : List Int} {i : Nat} {a b c d : Int} (h : l.take (i * 4) = m.take (i * 4)) (h0 : l[i * 4 + 0]? = some a) (h1 : l[i * 4 + 1]? = some b) (h2 : l[i * 4 + 2]? = some c) (h3 : l[i * 4 + 3]? = some d) (k0 : m[i * 4 + 0]? = some a) (k1 : m[i * 4 + 1]? = some b) (k2 : m[i * 4 + 2]? = some c) (k3 : m[i * 4 + 3]? = some d) : l.take ((i + 1) * 4) = m.take ((i + 1) * 4) := by
  rw [Nat.add_mul]
  show l.take (i * 4 + 1 + 1 + 1 + 1) = m.take (i * 4 + 1 + 1 + 1 + 1)
  rw [List.take_add_one, List.take_add_one, List.take_add_one, List.take_add_one, List.take_add_one, List.take_add_one, List.take_add_one, List.take_add_one, h]
  rw [Nat.add_zero] at h0 k0
  rw [h0, k0, h1, k1, h2, k2, h3, k3]
theorem all_s {l m : List Int} {n s : Nat} (h : l.take (n * s) = m.take (n * s)) (h1 : l.length = n * s) (h2 : m.length = n * s) : l = m := by
  rw [← h1, List.take_length, h1, ← h2, List.take_length] at h
  exact h
theorem ne_at {l m : List Int} {i : Nat} {x y : Int} (hl : l[i]? = some x) (hm : m[i]? = some y) (hne : x ≠ y) : l ≠ m := by
  intro e; rw [e, hm] at hl; exact hne (Option.some.inj hl).symm
set_option maxRecDepth 100000 in
theorem ne_val (a b c d : Int) (W : World) : (binOp .neq 28 (.agg #[.int .i64 a, .int .i64 b]) (.agg #[.int .i64 c, .int .i64 d])).run Tryz.prog W = .ok (.bool (!(a == c && b == d))) W := by
  cases h1 : (a == c) <;> cases h2 : (b == d) <;> go_simp
set_option maxRecDepth 100000 in
theorem ne_ent (a b c d e f g h : Int) (W : World) : (binOp .neq 86 (.agg #[.int .i64 a, .int .i64 b, .int .i64 c, .int .i64 d]) (.agg #[.int .i64 e, .int .i64 f, .int .i64 g, .int .i64 h])).run Tryz.prog W = .ok (.bool (!(a == e && b == f && c == g && d == h))) W := by
  cases h1 : (a == e) <;> cases h2 : (b == f) <;> cases h3 : (c == g) <;> cases h4 : (d == h) <;> go_simp
set_option maxRecDepth 100000 in
set_option maxHeartbeats 4000000 in
theorem eqI_any {w : World} {B C : Nat} (p q : Option Addr) (n m c d : Nat) (l r : List Int) (hl : l.length = n * 1) (hr : r.length = m * 1) (hp : IsIn w B p l) (hq : IsIn w C q r) (hn : n ≤ 200000) :
    Calls Tryz.prog 33 #[.slice p n c, .slice q m d] w fun e w' => e = .returned (.bool (decide (l = r))) ∧ Out 0 0 w w' := by
  obtain ⟨bb, hbb⟩ : ∃ bb, decide (l = r) = bb := ⟨_, rfl⟩
  rw [hbb]
  have HBB := hid_mk hbb
  clear hbb
  by_cases hnm : n = m
  · subst hnm
    have HH := hid_mk (And.intro hl (And.intro hr (And.intro hp (And.intro hq hn))))
    clear hl hr hp hq
    go_enter Tryz.func33, Tryz.ntmps33
    go_wp2_with fail
    go_loopw [13] (fun z wr => ∃ i : Nat, z = .int .i64 i ∧ i ≤ n ∧ l.take (i * 1) = r.take (i * 1) ∧ Out 0 0 w wr) (fun z _ => n - (intOf z).toNat)
    case atStart => exact ⟨0, rfl, Nat.zero_le _, by simp, Out.refl _ _ _⟩
    case round =>
      obtain ⟨i, rfl, him, heq, ho⟩ := hrel
      have HE := hid_mk heq
      have HO := hid_mk ho
      clear heq ho
      by_cases hgo : i < n
      · have g1 := lt_i hgo
        obtain ⟨l1, l2⟩ := lt_d hgo
        obtain ⟨x0, hx0⟩ := at_k (k := 0) HH.out.1 hgo (by decide)
        obtain ⟨y0, hy0⟩ := at_k (k := 0) HH.out.2.1 hgo (by decide)
        obtain ⟨g, off, rfl, hg, hc⟩ := (HH.out.2.2.1.quiet HO.out).at (by have := HH.out.1; omega)
        obtain ⟨g', off', rfl, hg', hc'⟩ := (HH.out.2.2.2.1.quiet HO.out).at (by have := HH.out.2.1; omega)
        have c0 : wr.cell? ⟨g, off + i, none⟩ = some (.int .i64 x0) := by have := hc _ _ hx0; simpa [Nat.add_assoc] using this
        have d0 : wr.cell? ⟨g', off' + i, none⟩ = some (.int .i64 y0) := by have := hc' _ _ hy0; simpa [Nat.add_assoc] using this
        have HX := hid_mk (And.intro hx0 hy0)
        clear hc hc' hx0 hy0
        by_cases hxy : x0 = y0
        · subst hxy
          have hne : (x0 != x0) = false := by simp
          go_wp2_with fail
          go_region
          go_wp2_with fail
          go_roundw
          case rel => exact ⟨i + 1, by go_num, hgo, take_s1 HE.out HX.out.1 HX.out.2, HO.out.drew⟩
          case measure => simp [intOf]; omega
        · have hne2 : decide (l = r) = false := by
            simp only [decide_eq_false_iff_not]
            intro e
            apply hxy
            subst e
            have z := HX.out
            have z0 := Option.some.inj ((z.1).symm.trans z.2)
            exact z0
          have hne : (x0 != y0) = true := by simpa using hxy
          clear hxy
          have HNE := hid_mk hne2
          clear hne2
          go_wp2_with fail
          go_region
          go_wp2_with fail
          go_ret
          exact ⟨by rw [← HBB.out, HNE.out]; rfl, HO.out.drew⟩
      · obtain rfl : n = i := by omega
        have l1 : decide ((n : Int) < (n : Int)) = false := by simp
        have hne2 : decide (l = r) = true := by simp only [decide_eq_true_eq]; exact all_s HE.out HH.out.1 HH.out.2.1
        have HNE := hid_mk hne2
        clear hne2
        go_wp2_with fail
        go_ret
        exact ⟨by rw [← HBB.out, HNE.out]; rfl, HO.out⟩
  · have hne : ((n : Int) != (m : Int)) = true := by simp; omega
    have hne2 : decide (l = r) = false := by
      simp only [decide_eq_false_iff_not]
      intro e
      subst e
      apply hnm
      omega
    have HNE := hid_mk hne2
    clear hne2 hl hr hp hq hn
    go_enter Tryz.func33, Tryz.ntmps33
    go_wp2_with fail
    go_ret
    exact ⟨by rw [← HBB.out, HNE.out]; rfl, Out.refl _ _ _⟩
set_option maxRecDepth 100000 in
set_option maxHeartbeats 4000000 in
theorem eqV_any {w : World} {B C : Nat} (p q : Option Addr) (n m c d : Nat) (l r : List Int) (hl : l.length = n * 2) (hr : r.length = m * 2) (hp : IsIn w B p l) (hq : IsIn w C q r) (hn : n ≤ 200000) :
    Calls Tryz.prog 17 #[.slice p n c, .slice q m d] w fun e w' => e = .returned (.bool (decide (l = r))) ∧ Out 0 0 w w' := by
  obtain ⟨bb, hbb⟩ : ∃ bb, decide (l = r) = bb := ⟨_, rfl⟩
  rw [hbb]
  have HBB := hid_mk hbb
  clear hbb
  by_cases hnm : n = m
  · subst hnm
    have HH := hid_mk (And.intro hl (And.intro hr (And.intro hp (And.intro hq hn))))
    clear hl hr hp hq
    go_enter Tryz.func17, Tryz.ntmps17
    go_wp2_with fail
    go_loopw [13] (fun z wr => ∃ i : Nat, z = .int .i64 i ∧ i ≤ n ∧ l.take (i * 2) = r.take (i * 2) ∧ Out 0 0 w wr) (fun z _ => n - (intOf z).toNat)
    case atStart => exact ⟨0, rfl, Nat.zero_le _, by simp, Out.refl _ _ _⟩
    case round =>
      obtain ⟨i, rfl, him, heq, ho⟩ := hrel
      have HE := hid_mk heq
      have HO := hid_mk ho
      clear heq ho
      by_cases hgo : i < n
      · have g1 := lt_i hgo
        obtain ⟨l1, l2⟩ := lt_d hgo
        obtain ⟨x0, hx0⟩ := at_k (k := 0) HH.out.1 hgo (by decide)
        obtain ⟨x1, hx1⟩ := at_k (k := 1) HH.out.1 hgo (by decide)
        obtain ⟨y0, hy0⟩ := at_k (k := 0) HH.out.2.1 hgo (by decide)
        obtain ⟨y1, hy1⟩ := at_k (k := 1) HH.out.2.1 hgo (by decide)
        obtain ⟨g, off, rfl, hg, hc⟩ := (HH.out.2.2.1.quiet HO.out).at (by have := HH.out.1; omega)
        obtain ⟨g', off', rfl, hg', hc'⟩ := (HH.out.2.2.2.1.quiet HO.out).at (by have := HH.out.2.1; omega)
        have c0 : wr.cell? ⟨g, off + i * 2, none⟩ = some (.int .i64 x0) := by have := hc _ _ hx0; simpa [Nat.add_assoc] using this
        have d0 : wr.cell? ⟨g', off' + i * 2, none⟩ = some (.int .i64 y0) := by have := hc' _ _ hy0; simpa [Nat.add_assoc] using this
        have c1 : wr.cell? ⟨g, off + i * 2 + 1, none⟩ = some (.int .i64 x1) := by have := hc _ _ hx1; simpa [Nat.add_assoc] using this
        have d1 : wr.cell? ⟨g', off' + i * 2 + 1, none⟩ = some (.int .i64 y1) := by have := hc' _ _ hy1; simpa [Nat.add_assoc] using this
        have HX := hid_mk (And.intro hx0 (And.intro hx1 (And.intro hy0 hy1)))
        clear hc hc' hx0 hy0 hx1 hy1
        by_cases hxy : x0 = y0 ∧ x1 = y1
        · obtain ⟨rfl, rfl⟩ := hxy
          have hne := ne_val x0 x1 x0 x1
          have hnb : (!(x0 == x0 && x1 == x1)) = false := by simp
          simp only [hnb] at hne
          clear hnb
          go_wp2_with fail
          go_region
          go_wp2_with fail
          go_roundw
          case rel => exact ⟨i + 1, by go_num, hgo, take_s2 HE.out HX.out.1 HX.out.2.1 HX.out.2.2.1 HX.out.2.2.2, HO.out.drew⟩
          case measure => simp [intOf]; omega
        · have hne2 : decide (l = r) = false := by
            simp only [decide_eq_false_iff_not]
            intro e
            apply hxy
            subst e
            have z := HX.out
            have z0 := Option.some.inj ((z.1).symm.trans z.2.2.1)
            have z1 := Option.some.inj ((z.2.1).symm.trans z.2.2.2)
            exact ⟨z0, z1⟩
          have hne := ne_val x0 x1 y0 y1
          have hnb : (!(x0 == y0 && x1 == y1)) = true := by simp only [Bool.not_eq_true', Bool.and_eq_false_iff, beq_eq_false_iff_ne]; omega
          simp only [hnb] at hne
          clear hnb
          clear hxy
          have HNE := hid_mk hne2
          clear hne2
          go_wp2_with fail
          go_region
          go_wp2_with fail
          go_ret
          exact ⟨by rw [← HBB.out, HNE.out]; rfl, HO.out.drew⟩
      · obtain rfl : n = i := by omega
        have l1 : decide ((n : Int) < (n : Int)) = false := by simp
        have hne2 : decide (l = r) = true := by simp only [decide_eq_true_eq]; exact all_s HE.out HH.out.1 HH.out.2.1
        have HNE := hid_mk hne2
        clear hne2
        go_wp2_with fail
        go_ret
        exact ⟨by rw [← HBB.out, HNE.out]; rfl, HO.out⟩
  · have hne : ((n : Int) != (m : Int)) = true := by simp; omega
    have hne2 : decide (l = r) = false := by
      simp only [decide_eq_false_iff_not]
      intro e
      subst e
      apply hnm
      omega
    have HNE := hid_mk hne2
    clear hne2 hl hr hp hq hn
    go_enter Tryz.func17, Tryz.ntmps17
    go_wp2_with fail
    go_ret
    exact ⟨by rw [← HBB.out, HNE.out]; rfl, Out.refl _ _ _⟩
set_option maxRecDepth 100000 in
set_option maxHeartbeats 4000000 in
theorem eqE_any {w : World} {B C : Nat} (p q : Option Addr) (n m c d : Nat) (l r : List Int) (hl : l.length = n * 4) (hr : r.length = m * 4) (hp : IsIn w B p l) (hq : IsIn w C q r) (hn : n ≤ 200000) :
    Calls Tryz.prog 34 #[.slice p n c, .slice q m d] w fun e w' => e = .returned (.bool (decide (l = r))) ∧ Out 0 0 w w' := by
  obtain ⟨bb, hbb⟩ : ∃ bb, decide (l = r) = bb := ⟨_, rfl⟩
  rw [hbb]
  have HBB := hid_mk hbb
  clear hbb
  by_cases hnm : n = m
  · subst hnm
    have HH := hid_mk (And.intro hl (And.intro hr (And.intro hp (And.intro hq hn))))
    clear hl hr hp hq
    go_enter Tryz.func34, Tryz.ntmps34
    go_wp2_with fail
    go_loopw [13] (fun z wr => ∃ i : Nat, z = .int .i64 i ∧ i ≤ n ∧ l.take (i * 4) = r.take (i * 4) ∧ Out 0 0 w wr) (fun z _ => n - (intOf z).toNat)
    case atStart => exact ⟨0, rfl, Nat.zero_le _, by simp, Out.refl _ _ _⟩
    case round =>
      obtain ⟨i, rfl, him, heq, ho⟩ := hrel
      have HE := hid_mk heq
      have HO := hid_mk ho
      clear heq ho
      by_cases hgo : i < n
      · have g1 := lt_i hgo
        obtain ⟨l1, l2⟩ := lt_d hgo
        obtain ⟨x0, hx0⟩ := at_k (k := 0) HH.out.1 hgo (by decide)
        obtain ⟨x1, hx1⟩ := at_k (k := 1) HH.out.1 hgo (by decide)
        obtain ⟨x2, hx2⟩ := at_k (k := 2) HH.out.1 hgo (by decide)
        obtain ⟨x3, hx3⟩ := at_k (k := 3) HH.out.1 hgo (by decide)
        obtain ⟨y0, hy0⟩ := at_k (k := 0) HH.out.2.1 hgo (by decide)
        obtain ⟨y1, hy1⟩ := at_k (k := 1) HH.out.2.1 hgo (by decide)
        obtain ⟨y2, hy2⟩ := at_k (k := 2) HH.out.2.1 hgo (by decide)
        obtain ⟨y3, hy3⟩ := at_k (k := 3) HH.out.2.1 hgo (by decide)
        obtain ⟨g, off, rfl, hg, hc⟩ := (HH.out.2.2.1.quiet HO.out).at (by have := HH.out.1; omega)
        obtain ⟨g', off', rfl, hg', hc'⟩ := (HH.out.2.2.2.1.quiet HO.out).at (by have := HH.out.2.1; omega)
        have c0 : wr.cell? ⟨g, off + i * 4, none⟩ = some (.int .i64 x0) := by have := hc _ _ hx0; simpa [Nat.add_assoc] using this
        have d0 : wr.cell? ⟨g', off' + i * 4, none⟩ = some (.int .i64 y0) := by have := hc' _ _ hy0; simpa [Nat.add_assoc] using this
        have c1 : wr.cell? ⟨g, off + i * 4 + 1, none⟩ = some (.int .i64 x1) := by have := hc _ _ hx1; simpa [Nat.add_assoc] using this
        have d1 : wr.cell? ⟨g', off' + i * 4 + 1, none⟩ = some (.int .i64 y1) := by have := hc' _ _ hy1; simpa [Nat.add_assoc] using this
        have c2 : wr.cell? ⟨g, off + i * 4 + 2, none⟩ = some (.int .i64 x2) := by have := hc _ _ hx2; simpa [Nat.add_assoc] using this
        have d2 : wr.cell? ⟨g', off' + i * 4 + 2, none⟩ = some (.int .i64 y2) := by have := hc' _ _ hy2; simpa [Nat.add_assoc] using this
        have c3 : wr.cell? ⟨g, off + i * 4 + 3, none⟩ = some (.int .i64 x3) := by have := hc _ _ hx3; simpa [Nat.add_assoc] using this
        have d3 : wr.cell? ⟨g', off' + i * 4 + 3, none⟩ = some (.int .i64 y3) := by have := hc' _ _ hy3; simpa [Nat.add_assoc] using this
        have HX := hid_mk (And.intro hx0 (And.intro hx1 (And.intro hx2 (And.intro hx3 (And.intro hy0 (And.intro hy1 (And.intro hy2 hy3)))))))
        clear hc hc' hx0 hy0 hx1 hy1 hx2 hy2 hx3 hy3
        by_cases hxy : x0 = y0 ∧ x1 = y1 ∧ x2 = y2 ∧ x3 = y3
        · obtain ⟨rfl, rfl, rfl, rfl⟩ := hxy
          have hne := ne_ent x0 x1 x2 x3 x0 x1 x2 x3
          have hnb : (!(x0 == x0 && x1 == x1 && x2 == x2 && x3 == x3)) = false := by simp
          simp only [hnb] at hne
          clear hnb
          go_wp2_with fail
          go_region
          go_wp2_with fail
          go_roundw
          case rel => exact ⟨i + 1, by go_num, hgo, take_s4 HE.out HX.out.1 HX.out.2.1 HX.out.2.2.1 HX.out.2.2.2.1 HX.out.2.2.2.2.1 HX.out.2.2.2.2.2.1 HX.out.2.2.2.2.2.2.1 HX.out.2.2.2.2.2.2.2, HO.out.drew⟩
          case measure => simp [intOf]; omega
        · have hne2 : decide (l = r) = false := by
            simp only [decide_eq_false_iff_not]
            intro e
            apply hxy
            subst e
            have z := HX.out
            have z0 := Option.some.inj ((z.1).symm.trans z.2.2.2.2.1)
            have z1 := Option.some.inj ((z.2.1).symm.trans z.2.2.2.2.2.1)
            have z2 := Option.some.inj ((z.2.2.1).symm.trans z.2.2.2.2.2.2.1)
            have z3 := Option.some.inj ((z.2.2.2.1).symm.trans z.2.2.2.2.2.2.2)
            exact ⟨z0, z1, z2, z3⟩
          have hne := ne_ent x0 x1 x2 x3 y0 y1 y2 y3
          have hnb : (!(x0 == y0 && x1 == y1 && x2 == y2 && x3 == y3)) = true := by simp only [Bool.not_eq_true', Bool.and_eq_false_iff, beq_eq_false_iff_ne]; omega
          simp only [hnb] at hne
          clear hnb
          clear hxy
          have HNE := hid_mk hne2
          clear hne2
          go_wp2_with fail
          go_region
          go_wp2_with fail
          go_ret
          exact ⟨by rw [← HBB.out, HNE.out]; rfl, HO.out.drew⟩
      · obtain rfl : n = i := by omega
        have l1 : decide ((n : Int) < (n : Int)) = false := by simp
        have hne2 : decide (l = r) = true := by simp only [decide_eq_true_eq]; exact all_s HE.out HH.out.1 HH.out.2.1
        have HNE := hid_mk hne2
        clear hne2
        go_wp2_with fail
        go_ret
        exact ⟨by rw [← HBB.out, HNE.out]; rfl, HO.out⟩
  · have hne : ((n : Int) != (m : Int)) = true := by simp; omega
    have hne2 : decide (l = r) = false := by
      simp only [decide_eq_false_iff_not]
      intro e
      subst e
      apply hnm
      omega
    have HNE := hid_mk hne2
    clear hne2 hl hr hp hq hn
    go_enter Tryz.func34, Tryz.ntmps34
    go_wp2_with fail
    go_ret
    exact ⟨by rw [← HBB.out, HNE.out]; rfl, Out.refl _ _ _⟩
end Go.Proofs.YtocncffplcfpbaaGreatDoor
namespace Go.Proofs.YtocncffplcfpbaaGreatDoor
open Go.RowKit
set_option linter.unusedVariables false
set_option linter.unusedSimpArgs false

theorem nd_eq {a b c d : Int} {r r' f f' e e' : List Int} (h1 : a = b) (h2 : c = d) (h3 : r = r') (h4 : f = f') (h5 : e = e') : ((a, c, r, f, e) : Int × Int × List Int × List Int × List Int) = (b, d, r', f', e') := by rw [h1, h2, h3, h4, h5]
theorem nd_dec {a b c d : Int} {r r' f f' e e' : List Int} : decide (((a, c, r, f, e) : Int × Int × List Int × List Int × List Int) = (b, d, r', f', e')) = (a == b && (c == d && (decide (r = r') && (decide (f = f') && decide (e = e'))))) := by
  rw [Bool.eq_iff_iff]
  simp
theorem two_bl (w : World) (xs ys : Array Value) (T U : TypeId) : Bl ((w.alloc (.cells xs T)).alloc (.cells ys U)) w.heap.size xs T ∧ Bl ((w.alloc (.cells xs T)).alloc (.cells ys U)) (w.heap.size + 1) ys U := by
  refine ⟨(Bl.new w xs T).alloc _, ?_⟩
  have := Bl.new (w.alloc (.cells xs T)) ys U
  rwa [size_alloc] at this
set_option maxRecDepth 100000 in
set_option maxHeartbeats 4000000 in
theorem sameNode_any {w : World} {B C : Nat} (i k i' k' : Int) (pr pf pe pr' pf' pe' : Option Addr) (nr cr nf cf ne ce nr' cr' nf' cf' ne' ce' : Nat) (r f e r' f' e' : List Int) (l1 : r.length = nr * 1) (l2 : f.length = nf * 2) (l3 : e.length = ne * 4) (l1' : r'.length = nr' * 1) (l2' : f'.length = nf' * 2) (l3' : e'.length = ne' * 4)
    (h1 : IsIn w B pr r) (h2 : IsIn w B pf f) (h3 : IsIn w B pe e) (h1' : IsIn w C pr' r') (h2' : IsIn w C pf' f') (h3' : IsIn w C pe' e') (hn1 : nr ≤ 200000) (hn2 : nf ≤ 200000) (hn3 : ne ≤ 200000) :
    Calls Tryz.prog 16 #[.agg #[.int .i64 i, .int .i64 k, .slice pr nr cr, .slice pf nf cf, .slice pe ne ce], .agg #[.int .i64 i', .int .i64 k', .slice pr' nr' cr', .slice pf' nf' cf', .slice pe' ne' ce']] w fun en w' => en = .returned (.bool (decide (((i, k, r, f, e) : Int × Int × List Int × List Int × List Int) = (i', k', r', f', e')))) ∧ Out 0 0 w w' := by
  obtain ⟨b1, b2⟩ := two_bl w #[.int .i64 i, .int .i64 k, .slice pr nr cr, .slice pf nf cf, .slice pe ne ce] #[.int .i64 i', .int .i64 k', .slice pr' nr' cr', .slice pf' nf' cf', .slice pe' ne' ce'] 32 32
  have o0 := ((Out.refl 0 0 w).alloc (.cells #[.int .i64 i, .int .i64 k, .slice pr nr cr, .slice pf nf cf, .slice pe ne ce] 32)).alloc (.cells #[.int .i64 i', .int .i64 k', .slice pr' nr' cr', .slice pf' nf' cf', .slice pe' ne' ce'] 32)
  obtain ⟨V, hV⟩ : ∃ V, (w.alloc (.cells #[.int .i64 i, .int .i64 k, .slice pr nr cr, .slice pf nf cf, .slice pe ne ce] 32)).alloc (.cells #[.int .i64 i', .int .i64 k', .slice pr' nr' cr', .slice pf' nf' cf', .slice pe' ne' ce'] 32) = V := ⟨_, rfl⟩
  obtain ⟨z, hz⟩ : ∃ z, w.heap.size = z := ⟨_, rfl⟩
  rw [hV] at b1 b2 o0
  rw [hz] at b1 b2
  rw [nd_dec]
  have HI : Hid (∀ W, Out 0 0 V W → IsIn W B pr r ∧ IsIn W B pf f ∧ IsIn W B pe e ∧ IsIn W C pr' r' ∧ IsIn W C pf' f' ∧ IsIn W C pe' e' ∧ Out 0 0 w W) := hid_mk fun W o => ⟨h1.quiet (o0.trans o), h2.quiet (o0.trans o), h3.quiet (o0.trans o), h1'.quiet (o0.trans o), h2'.quiet (o0.trans o), h3'.quiet (o0.trans o), o0.trans o⟩
  have HL := hid_mk (And.intro l1 (And.intro l2 (And.intro l3 (And.intro l1' (And.intro l2' (And.intro l3' (And.intro hn1 (And.intro hn2 hn3))))))))
  have c0 := b1.cell (i := 0) rfl
  have c1 := b1.cell (i := 1) rfl
  have c2 := b1.cell (i := 2) rfl
  have c3 := b1.cell (i := 3) rfl
  have c4 := b1.cell (i := 4) rfl
  have d0 := b2.cell (i := 0) rfl
  have d1 := b2.cell (i := 1) rfl
  have d2 := b2.cell (i := 2) rfl
  have d3 := b2.cell (i := 3) rfl
  have d4 := b2.cell (i := 4) rfl
  have oV : Out 0 0 V V := Out.refl _ _ _
  obtain ⟨x1, hx1⟩ : ∃ x, (i == i') = x := ⟨_, rfl⟩
  obtain ⟨x2, hx2⟩ : ∃ x, (k == k') = x := ⟨_, rfl⟩
  obtain ⟨x3, hx3⟩ : ∃ x, decide (r = r') = x := ⟨_, rfl⟩
  obtain ⟨x4, hx4⟩ : ∃ x, decide (f = f') = x := ⟨_, rfl⟩
  obtain ⟨x5, hx5⟩ : ∃ x, decide (e = e') = x := ⟨_, rfl⟩
  rw [hx1, hx2, hx3, hx4, hx5]
  clear b1 b2 o0 h1 h2 h3 h1' h2' h3' l1 l2 l3 l1' l2' l3' hn1 hn2 hn3
  cases x1
  · go_enter Tryz.func16, Tryz.ntmps16
    go_upto_region 1 with fail
    (try rw [hV]); (try rw [hz])
    clear hV hz
    go_wp2_with (first
          | (go_at_call 33; refine (eqI_any pr pr' nr nr' cr cr' r r' HL.out.1 HL.out.2.2.2.1 (HI.out _ oV).1 (HI.out _ oV).2.2.2.1 HL.out.2.2.2.2.2.2.1).mono ?_; rintro en w1 ⟨rfl, o1⟩; replace oV := oV.trans o1; replace c3 := o1.cell c3 (.inr (Nat.zero_le _)); replace c4 := o1.cell c4 (.inr (Nat.zero_le _)); replace d3 := o1.cell d3 (.inr (Nat.zero_le _)); replace d4 := o1.cell d4 (.inr (Nat.zero_le _)); clear o1 c0 c1 c2 d0 d1 d2)
          | (go_at_call 17; refine (eqV_any pf pf' nf nf' cf cf' f f' HL.out.2.1 HL.out.2.2.2.2.1 (HI.out _ oV).2.1 (HI.out _ oV).2.2.2.2.1 HL.out.2.2.2.2.2.2.2.1).mono ?_; rintro en w1 ⟨rfl, o1⟩; replace oV := oV.trans o1; replace c3 := o1.cell c3 (.inr (Nat.zero_le _)); replace c4 := o1.cell c4 (.inr (Nat.zero_le _)); replace d3 := o1.cell d3 (.inr (Nat.zero_le _)); replace d4 := o1.cell d4 (.inr (Nat.zero_le _)); clear o1)
          | (go_at_call 34; refine (eqE_any pe pe' ne ne' ce ce' e e' HL.out.2.2.1 HL.out.2.2.2.2.2.1 (HI.out _ oV).2.2.1 (HI.out _ oV).2.2.2.2.2.1 HL.out.2.2.2.2.2.2.2.2).mono ?_; rintro en w1 ⟨rfl, o1⟩; replace oV := oV.trans o1; clear o1))
    go_ret
    exact ⟨rfl, (HI.out _ oV).2.2.2.2.2.2⟩
  · cases x2
    · go_enter Tryz.func16, Tryz.ntmps16
      go_upto_region 1 with fail
      (try rw [hV]); (try rw [hz])
      clear hV hz
      go_wp2_with (first
            | (go_at_call 33; refine (eqI_any pr pr' nr nr' cr cr' r r' HL.out.1 HL.out.2.2.2.1 (HI.out _ oV).1 (HI.out _ oV).2.2.2.1 HL.out.2.2.2.2.2.2.1).mono ?_; rintro en w1 ⟨rfl, o1⟩; replace oV := oV.trans o1; replace c3 := o1.cell c3 (.inr (Nat.zero_le _)); replace c4 := o1.cell c4 (.inr (Nat.zero_le _)); replace d3 := o1.cell d3 (.inr (Nat.zero_le _)); replace d4 := o1.cell d4 (.inr (Nat.zero_le _)); clear o1 c0 c1 c2 d0 d1 d2)
            | (go_at_call 17; refine (eqV_any pf pf' nf nf' cf cf' f f' HL.out.2.1 HL.out.2.2.2.2.1 (HI.out _ oV).2.1 (HI.out _ oV).2.2.2.2.1 HL.out.2.2.2.2.2.2.2.1).mono ?_; rintro en w1 ⟨rfl, o1⟩; replace oV := oV.trans o1; replace c3 := o1.cell c3 (.inr (Nat.zero_le _)); replace c4 := o1.cell c4 (.inr (Nat.zero_le _)); replace d3 := o1.cell d3 (.inr (Nat.zero_le _)); replace d4 := o1.cell d4 (.inr (Nat.zero_le _)); clear o1)
            | (go_at_call 34; refine (eqE_any pe pe' ne ne' ce ce' e e' HL.out.2.2.1 HL.out.2.2.2.2.2.1 (HI.out _ oV).2.2.1 (HI.out _ oV).2.2.2.2.2.1 HL.out.2.2.2.2.2.2.2.2).mono ?_; rintro en w1 ⟨rfl, o1⟩; replace oV := oV.trans o1; clear o1))
      go_ret
      exact ⟨rfl, (HI.out _ oV).2.2.2.2.2.2⟩
    · cases x3
      · go_enter Tryz.func16, Tryz.ntmps16
        go_upto_region 1 with fail
        (try rw [hV]); (try rw [hz])
        clear hV hz
        go_wp2_with (first
              | (go_at_call 33; refine (eqI_any pr pr' nr nr' cr cr' r r' HL.out.1 HL.out.2.2.2.1 (HI.out _ oV).1 (HI.out _ oV).2.2.2.1 HL.out.2.2.2.2.2.2.1).mono ?_; rintro en w1 ⟨rfl, o1⟩; replace oV := oV.trans o1; replace c3 := o1.cell c3 (.inr (Nat.zero_le _)); replace c4 := o1.cell c4 (.inr (Nat.zero_le _)); replace d3 := o1.cell d3 (.inr (Nat.zero_le _)); replace d4 := o1.cell d4 (.inr (Nat.zero_le _)); clear o1 c0 c1 c2 d0 d1 d2)
              | (go_at_call 17; refine (eqV_any pf pf' nf nf' cf cf' f f' HL.out.2.1 HL.out.2.2.2.2.1 (HI.out _ oV).2.1 (HI.out _ oV).2.2.2.2.1 HL.out.2.2.2.2.2.2.2.1).mono ?_; rintro en w1 ⟨rfl, o1⟩; replace oV := oV.trans o1; replace c3 := o1.cell c3 (.inr (Nat.zero_le _)); replace c4 := o1.cell c4 (.inr (Nat.zero_le _)); replace d3 := o1.cell d3 (.inr (Nat.zero_le _)); replace d4 := o1.cell d4 (.inr (Nat.zero_le _)); clear o1)
              | (go_at_call 34; refine (eqE_any pe pe' ne ne' ce ce' e e' HL.out.2.2.1 HL.out.2.2.2.2.2.1 (HI.out _ oV).2.2.1 (HI.out _ oV).2.2.2.2.2.1 HL.out.2.2.2.2.2.2.2.2).mono ?_; rintro en w1 ⟨rfl, o1⟩; replace oV := oV.trans o1; clear o1))
        go_ret
        exact ⟨rfl, (HI.out _ oV).2.2.2.2.2.2⟩
      · cases x4
        · go_enter Tryz.func16, Tryz.ntmps16
          go_upto_region 1 with fail
          (try rw [hV]); (try rw [hz])
          clear hV hz
          go_wp2_with (first
                | (go_at_call 33; refine (eqI_any pr pr' nr nr' cr cr' r r' HL.out.1 HL.out.2.2.2.1 (HI.out _ oV).1 (HI.out _ oV).2.2.2.1 HL.out.2.2.2.2.2.2.1).mono ?_; rintro en w1 ⟨rfl, o1⟩; replace oV := oV.trans o1; replace c3 := o1.cell c3 (.inr (Nat.zero_le _)); replace c4 := o1.cell c4 (.inr (Nat.zero_le _)); replace d3 := o1.cell d3 (.inr (Nat.zero_le _)); replace d4 := o1.cell d4 (.inr (Nat.zero_le _)); clear o1 c0 c1 c2 d0 d1 d2)
                | (go_at_call 17; refine (eqV_any pf pf' nf nf' cf cf' f f' HL.out.2.1 HL.out.2.2.2.2.1 (HI.out _ oV).2.1 (HI.out _ oV).2.2.2.2.1 HL.out.2.2.2.2.2.2.2.1).mono ?_; rintro en w1 ⟨rfl, o1⟩; replace oV := oV.trans o1; replace c3 := o1.cell c3 (.inr (Nat.zero_le _)); replace c4 := o1.cell c4 (.inr (Nat.zero_le _)); replace d3 := o1.cell d3 (.inr (Nat.zero_le _)); replace d4 := o1.cell d4 (.inr (Nat.zero_le _)); clear o1)
                | (go_at_call 34; refine (eqE_any pe pe' ne ne' ce ce' e e' HL.out.2.2.1 HL.out.2.2.2.2.2.1 (HI.out _ oV).2.2.1 (HI.out _ oV).2.2.2.2.2.1 HL.out.2.2.2.2.2.2.2.2).mono ?_; rintro en w1 ⟨rfl, o1⟩; replace oV := oV.trans o1; clear o1))
          go_ret
          exact ⟨rfl, (HI.out _ oV).2.2.2.2.2.2⟩
        · cases x5
          · go_enter Tryz.func16, Tryz.ntmps16
            go_upto_region 1 with fail
            (try rw [hV]); (try rw [hz])
            clear hV hz
            go_wp2_with (first
                  | (go_at_call 33; refine (eqI_any pr pr' nr nr' cr cr' r r' HL.out.1 HL.out.2.2.2.1 (HI.out _ oV).1 (HI.out _ oV).2.2.2.1 HL.out.2.2.2.2.2.2.1).mono ?_; rintro en w1 ⟨rfl, o1⟩; replace oV := oV.trans o1; replace c3 := o1.cell c3 (.inr (Nat.zero_le _)); replace c4 := o1.cell c4 (.inr (Nat.zero_le _)); replace d3 := o1.cell d3 (.inr (Nat.zero_le _)); replace d4 := o1.cell d4 (.inr (Nat.zero_le _)); clear o1 c0 c1 c2 d0 d1 d2)
                  | (go_at_call 17; refine (eqV_any pf pf' nf nf' cf cf' f f' HL.out.2.1 HL.out.2.2.2.2.1 (HI.out _ oV).2.1 (HI.out _ oV).2.2.2.2.1 HL.out.2.2.2.2.2.2.2.1).mono ?_; rintro en w1 ⟨rfl, o1⟩; replace oV := oV.trans o1; replace c3 := o1.cell c3 (.inr (Nat.zero_le _)); replace c4 := o1.cell c4 (.inr (Nat.zero_le _)); replace d3 := o1.cell d3 (.inr (Nat.zero_le _)); replace d4 := o1.cell d4 (.inr (Nat.zero_le _)); clear o1)
                  | (go_at_call 34; refine (eqE_any pe pe' ne ne' ce ce' e e' HL.out.2.2.1 HL.out.2.2.2.2.2.1 (HI.out _ oV).2.2.1 (HI.out _ oV).2.2.2.2.2.1 HL.out.2.2.2.2.2.2.2.2).mono ?_; rintro en w1 ⟨rfl, o1⟩; replace oV := oV.trans o1; clear o1))
            go_ret
            exact ⟨rfl, (HI.out _ oV).2.2.2.2.2.2⟩
          · go_enter Tryz.func16, Tryz.ntmps16
            go_upto_region 1 with fail
            (try rw [hV]); (try rw [hz])
            clear hV hz
            go_wp2_with (first
                  | (go_at_call 33; refine (eqI_any pr pr' nr nr' cr cr' r r' HL.out.1 HL.out.2.2.2.1 (HI.out _ oV).1 (HI.out _ oV).2.2.2.1 HL.out.2.2.2.2.2.2.1).mono ?_; rintro en w1 ⟨rfl, o1⟩; replace oV := oV.trans o1; replace c3 := o1.cell c3 (.inr (Nat.zero_le _)); replace c4 := o1.cell c4 (.inr (Nat.zero_le _)); replace d3 := o1.cell d3 (.inr (Nat.zero_le _)); replace d4 := o1.cell d4 (.inr (Nat.zero_le _)); clear o1 c0 c1 c2 d0 d1 d2)
                  | (go_at_call 17; refine (eqV_any pf pf' nf nf' cf cf' f f' HL.out.2.1 HL.out.2.2.2.2.1 (HI.out _ oV).2.1 (HI.out _ oV).2.2.2.2.1 HL.out.2.2.2.2.2.2.2.1).mono ?_; rintro en w1 ⟨rfl, o1⟩; replace oV := oV.trans o1; replace c3 := o1.cell c3 (.inr (Nat.zero_le _)); replace c4 := o1.cell c4 (.inr (Nat.zero_le _)); replace d3 := o1.cell d3 (.inr (Nat.zero_le _)); replace d4 := o1.cell d4 (.inr (Nat.zero_le _)); clear o1)
                  | (go_at_call 34; refine (eqE_any pe pe' ne ne' ce ce' e e' HL.out.2.2.1 HL.out.2.2.2.2.2.1 (HI.out _ oV).2.2.1 (HI.out _ oV).2.2.2.2.2.1 HL.out.2.2.2.2.2.2.2.2).mono ?_; rintro en w1 ⟨rfl, o1⟩; replace oV := oV.trans o1; clear o1))
            go_ret
            exact ⟨rfl, (HI.out _ oV).2.2.2.2.2.2⟩
end Go.Proofs.YtocncffplcfpbaaGreatDoor
namespace Go.Proofs.YtocncffplcfpbaaGreatDoor
open Go.RowKit
set_option linter.unusedVariables false
set_option linter.unusedSimpArgs false

theorem take_n {l m : List (Int × Int × List Int × List Int × List Int)} {i : Nat} {a : Int × Int × List Int × List Int × List Int} (h : l.take i = m.take i) (h0 : l[i]? = some a) (k0 : m[i]? = some a) : l.take (i + 1) = m.take (i + 1) := by
  rw [List.take_add_one, List.take_add_one, h, h0, k0]
theorem nd_ne {l m : List (Int × Int × List Int × List Int × List Int)} {i : Nat} {a b : Int × Int × List Int × List Int × List Int} (h0 : l[i]? = some a) (k0 : m[i]? = some b) (hab : a ≠ b) : decide (l = m) = false := by
  simp only [decide_eq_false_iff_not]
  intro e
  rw [e, k0] at h0
  exact hab (Option.some.inj h0).symm
/-- no list of a node is long -/
def Sn (ns : List (Int × Int × List Int × List Int × List Int)) : Prop := ns.length ≤ 200000 ∧ ∀ n ∈ ns, n.2.2.1.length ≤ 200000 ∧ n.2.2.2.1.length ≤ 200000 ∧ n.2.2.2.2.length ≤ 200000
set_option maxRecDepth 100000 in
set_option maxHeartbeats 4000000 in
theorem equalFunc_any {w : World} {B C : Nat} (p q : Option Addr) (n m c d : Nat) (ns ms : List (Int × Int × List Int × List Int × List Int)) (hl : ns.length = n) (hm : ms.length = m) (hp : NdIn w B p ns) (hq : NdIn w C q ms) (hs : Sn ns) :
    Calls Tryz.prog 15 #[.slice p n c, .slice q m d, .func (.func 16) #[] #[]] w fun e w' => e = .returned (.bool (decide (ns = ms))) ∧ Out 0 0 w w' := by
  obtain ⟨bb, hbb⟩ : ∃ bb, decide (ns = ms) = bb := ⟨_, rfl⟩
  rw [hbb]
  have HBB := hid_mk hbb
  clear hbb
  by_cases hnm : n = m
  · subst hnm
    have hn : n ≤ 200000 := by have := hs.1; omega
    have HH := hid_mk (And.intro hl (And.intro hm (And.intro hp (And.intro hq hs))))
    clear hl hm hp hq hs
    go_enter Tryz.func15, Tryz.ntmps15
    go_wp2_with fail
    go_loopw [17] (fun z wr => ∃ i : Nat, z = .int .i64 i ∧ i ≤ n ∧ ns.take i = ms.take i ∧ Out 0 0 w wr) (fun z _ => n - (intOf z).toNat)
    case atStart => exact ⟨0, rfl, Nat.zero_le _, by simp, Out.refl _ _ _⟩
    case round =>
      obtain ⟨i, rfl, him, heq, ho⟩ := hrel
      have HE := hid_mk heq
      have HO := hid_mk ho
      clear heq ho
      by_cases hgo : i < n
      · have g1 := lt_i hgo
        obtain ⟨l1, l2⟩ := lt_d hgo
        obtain ⟨⟨a, k, r, f, e⟩, ha⟩ : ∃ x, ns[i]? = some x := ⟨_, List.getElem?_eq_getElem (by have := HH.out.1; omega)⟩
        obtain ⟨⟨a', k', r', f', e'⟩, hb⟩ : ∃ x, ms[i]? = some x := ⟨_, List.getElem?_eq_getElem (by have := HH.out.2.1; omega)⟩
        obtain ⟨g, off, rfl, hg, hc⟩ := (HH.out.2.2.1.quiet HO.out).at ha
        obtain ⟨g', off', rfl, hg', hc'⟩ := (HH.out.2.2.2.1.quiet HO.out).at hb
        obtain ⟨pr, nr, cr, pf, nf, cf, pe, ne, ce, c0, c1, c2, c3, c4, q1, q2, q3, q4, q5, q6⟩ := hc
        obtain ⟨pr', nr', cr', pf', nf', cf', pe', ne', ce', d0, d1, d2, d3, d4, t1, t2, t3, t4, t5, t6⟩ := hc'
        have hsm := HH.out.2.2.2.2.2 _ (List.mem_of_getElem? ha)
        simp only [] at c0 c1 c2 c3 c4 q1 q2 q3 q4 q5 q6 d0 d1 d2 d3 d4 t1 t2 t3 t4 t5 t6 hsm
        obtain ⟨x, hx⟩ : ∃ x, decide (((a, k, r, f, e) : Int × Int × List Int × List Int × List Int) = (a', k', r', f', e')) = x := ⟨_, rfl⟩
        have HQ : Hid (∀ W, Out 0 0 wr W → Calls Tryz.prog 16 #[.agg #[.int .i64 a, .int .i64 k, .slice pr nr cr, .slice pf nf cf, .slice pe ne ce], .agg #[.int .i64 a', .int .i64 k', .slice pr' nr' cr', .slice pf' nf' cf', .slice pe' ne' ce']] W fun en w' => en = .returned (.bool x) ∧ Out 0 0 W w') :=
          hid_mk fun W o => by
            have := sameNode_any a k a' k' pr pf pe pr' pf' pe' nr cr nf cf ne ce nr' cr' nf' cf' ne' ce' r f e r' f' e' q1 q2 q3 t1 t2 t3 (q4.quiet o) (q5.quiet o) (q6.quiet o) (t4.quiet o) (t5.quiet o) (t6.quiet o) (by omega) (by omega) (by omega)
            rw [hx] at this
            exact this
        have HX := hid_mk (And.intro ha hb)
        have u1 := cell_lt c0
        have u2 := cell_lt d0
        clear ha hb q1 q2 q3 q4 q5 q6 t1 t2 t3 t4 t5 t6 hsm
        have HD := hid_mk hx
        clear hx
        cases x
        · go_wp2_with (go_at_call 16; refine (HQ.out _ (((Out.refl 0 0 wr).alloc _).alloc _)).mono ?_; rintro en w1 ⟨rfl, o1⟩)
          go_ret
          exact ⟨by rw [← HBB.out, nd_ne HX.out.1 HX.out.2 (by simpa using HD.out)]; rfl, HO.out.trans ((((Out.refl 0 0 wr).alloc _).alloc _).trans o1)⟩
        · go_wp2_with (go_at_call 16; refine (HQ.out _ (((Out.refl 0 0 wr).alloc _).alloc _)).mono ?_; rintro en w1 ⟨rfl, o1⟩)
          go_roundw
          case rel => exact ⟨i + 1, by go_num, hgo, take_n HE.out HX.out.1 (by have := of_decide_eq_true HD.out; rw [this]; exact HX.out.2), HO.out.trans ((((Out.refl 0 0 wr).alloc _).alloc _).trans o1)⟩
          case measure => simp [intOf]; omega
      · obtain rfl : n = i := by omega
        have l1 : decide ((n : Int) < (n : Int)) = false := by simp
        have HNE : Hid (decide (ns = ms) = true) := hid_mk (by
          simp only [decide_eq_true_eq]
          have h1 := HE.out
          rw [List.take_of_length_le (by have := HH.out.1; omega), List.take_of_length_le (by have := HH.out.2.1; omega)] at h1
          exact h1)
        go_wp2_with fail
        go_ret
        exact ⟨by rw [← HBB.out, HNE.out]; rfl, HO.out⟩
  · have hne : ((n : Int) != (m : Int)) = true := by simp; omega
    have HNE : Hid (decide (ns = ms) = false) := hid_mk (by
      simp only [decide_eq_false_iff_not]
      intro e
      subst e
      apply hnm
      omega)
    clear hl hm hp hq hs
    go_enter Tryz.func15, Tryz.ntmps15
    go_wp2_with fail
    go_ret
    exact ⟨by rw [← HBB.out, HNE.out]; rfl, Out.refl _ _ _⟩
/-- a graph's two lists -/
def GrIn (w : World) (B : Nat) (na ra : Option Addr) (nn nr : Nat) (ns : List (Int × Int × List Int × List Int × List Int)) (rs : List Int) : Prop := ns.length = nn ∧ rs.length = nr * 2 ∧ NdIn w B na ns ∧ IsIn w B ra rs ∧ Sn ns ∧ rs.length ≤ 200000
theorem GrIn.quiet {w w' : World} {B : Nat} {na ra : Option Addr} {nn nr : Nat} {ns : List (Int × Int × List Int × List Int × List Int)} {rs : List Int} (h : GrIn w B na ra nn nr ns rs) (x : Out 0 0 w w') : GrIn w' B na ra nn nr ns rs :=
  ⟨h.1, h.2.1, h.2.2.1.quiet x, h.2.2.2.1.quiet x, h.2.2.2.2⟩
theorem GrIn.fx {S : Nat → Prop} {w w' : World} {B : Nat} {na ra : Option Addr} {nn nr : Nat} {ns : List (Int × Int × List Int × List Int × List Int)} {rs : List Int} (h : GrIn w B na ra nn nr ns rs) (x : Fx S w w') (hS : ∀ k, k < B → ¬ S k) : GrIn w' B na ra nn nr ns rs :=
  ⟨h.1, h.2.1, h.2.2.1.fx x hS, h.2.2.2.1.fx x hS, h.2.2.2.2⟩
set_option maxRecDepth 100000 in
set_option maxHeartbeats 4000000 in
theorem equal_any {w : World} {B C : Nat} (na ra na' ra' : Option Addr) (nn nr cn cr nn' nr' cn' cr' : Nat) (ns ms : List (Int × Int × List Int × List Int × List Int)) (rs ss : List Int) (h : GrIn w B na ra nn nr ns rs) (h' : GrIn w C na' ra' nn' nr' ms ss) :
    Calls Tryz.prog 8 #[.agg #[.slice na nn cn, .slice ra nr cr], .agg #[.slice na' nn' cn', .slice ra' nr' cr']] w fun e w' => e = .returned (.bool (decide (ns = ms) && decide (rs = ss))) ∧ Out 0 0 w w' := by
  obtain ⟨b1, b2⟩ := two_bl w #[.slice na nn cn, .slice ra nr cr] #[.slice na' nn' cn', .slice ra' nr' cr'] 26 26
  have o0 := ((Out.refl 0 0 w).alloc (.cells #[.slice na nn cn, .slice ra nr cr] 26)).alloc (.cells #[.slice na' nn' cn', .slice ra' nr' cr'] 26)
  obtain ⟨V, hV⟩ : ∃ V, (w.alloc (.cells #[.slice na nn cn, .slice ra nr cr] 26)).alloc (.cells #[.slice na' nn' cn', .slice ra' nr' cr'] 26) = V := ⟨_, rfl⟩
  obtain ⟨z, hz⟩ : ∃ z, w.heap.size = z := ⟨_, rfl⟩
  rw [hV] at b1 b2 o0
  rw [hz] at b1 b2
  have H := hid_mk (And.intro (h.quiet o0) (And.intro (h'.quiet o0) o0))
  have c0 := b1.cell (i := 0) rfl
  have c1 := b1.cell (i := 1) rfl
  have d0 := b2.cell (i := 0) rfl
  have d1 := b2.cell (i := 1) rfl
  obtain ⟨x1, hx1⟩ : ∃ x, decide (ns = ms) = x := ⟨_, rfl⟩
  obtain ⟨x2, hx2⟩ : ∃ x, decide (rs = ss) = x := ⟨_, rfl⟩
  rw [hx1, hx2]
  have oV : Out 0 0 V V := Out.refl _ _ _
  clear b1 b2 o0 h h'
  cases x1
  · go_enter Tryz.func8, Tryz.ntmps8
    go_upto_region 1 with fail
    (try rw [hV]); (try rw [hz])
    clear hV hz
    go_wp2_with (go_at_call 15; refine (equalFunc_any na na' nn nn' cn cn' ns ms H.out.1.1 H.out.2.1.1 H.out.1.2.2.1 H.out.2.1.2.2.1 H.out.1.2.2.2.2.1).mono ?_; rintro en w1 ⟨rfl, o1⟩)
    go_ret
    exact ⟨by simp, H.out.2.2.trans o1⟩
  · go_enter Tryz.func8, Tryz.ntmps8
    go_upto_region 1 with fail
    (try rw [hV]); (try rw [hz])
    clear hV hz
    go_wp2_with (first
      | (go_at_call 15; refine (equalFunc_any na na' nn nn' cn cn' ns ms H.out.1.1 H.out.2.1.1 H.out.1.2.2.1 H.out.2.1.2.2.1 H.out.1.2.2.2.2.1).mono ?_; rintro en w1 ⟨rfl, o1⟩; replace c1 := o1.cell c1 (.inr (Nat.zero_le _)); replace d1 := o1.cell d1 (.inr (Nat.zero_le _)); replace oV := oV.trans o1; clear c0 d0 o1)
      | (go_at_call 17; refine (eqV_any ra ra' nr nr' cr cr' rs ss H.out.1.2.1 H.out.2.1.2.1 (H.out.1.2.2.2.1.quiet oV) (H.out.2.1.2.2.2.1.quiet oV) (by have := H.out.1; have := this.2.1; have := H.out.1.2.2.2.2.2; omega)).mono ?_; rintro en w1 ⟨rfl, o1⟩; replace oV := oV.trans o1; clear o1))
    go_ret
    exact ⟨by cases x2 <;> rfl, H.out.2.2.trans oV⟩
end Go.Proofs.YtocncffplcfpbaaGreatDoor
