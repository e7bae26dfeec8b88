/- graphs in memory; lists of numbers held against each other -/
import Derived.Test.YtghlbdmldahnlaaGreatDoorGrv
import Derived.Laws.StructEq
namespace Go.Proofs.YtghlbdmldahnlaaGreatDoor
open Go.RowKit
set_option linter.unusedVariables false
set_option linter.unusedSimpArgs false

def ivs (l : List Int) : List Value := l.map fun x => .int .i64 x
theorem ivs_len (l : List Int) : (ivs l).length = l.length := by unfold ivs; simp
theorem ivs_app (s t : List Int) : ivs (s ++ t) = ivs s ++ ivs t := by unfold ivs; simp
theorem ivs_one {t : List Int} : ∀ u ∈ ivs t, u.oneCell' = true := by
  intro u hu; unfold ivs at hu; obtain ⟨y, _, rfl⟩ := List.mem_map.1 hu; rfl
theorem ivs_at {l : List Int} {j : Nat} {x : Int} (h : l[j]? = some x) : (ivs l)[j]? = some (.int .i64 x) := by unfold ivs; rw [List.getElem?_map, h]; rfl
theorem ivs_back {l : List Int} {j : Nat} {u : Value} (h : (ivs l)[j]? = some u) : ∃ x, l[j]? = some x ∧ u = .int .i64 x := by
  unfold ivs at h; rw [List.getElem?_map] at h
  obtain ⟨x, h1, h2⟩ := Option.map_eq_some_iff.1 h
  exact ⟨x, h1, h2.symm⟩
/-- numbers in cells one behind the other, in a block below B -/
def IsIn (w : World) (B : Nat) (p : Option Addr) (l : List Int) : Prop := l = [] ∨ ∃ g off, p = some ⟨g, off, none⟩ ∧ g < B ∧ ∀ (j : Nat) x, l[j]? = some x → w.cell? ⟨g, off + j, none⟩ = some (.int .i64 x)
theorem IsIn.fx {S : Nat → Prop} {w w' : World} {B : Nat} {p : Option Addr} {l : List Int} (h : IsIn w B p l) (x : Fx S w w') (hS : ∀ k, k < B → ¬ S k) : IsIn w' B p l := by
  rcases h with h | ⟨g, off, rfl, hg, h⟩
  · exact .inl h
  · exact .inr ⟨g, off, rfl, hg, fun j v q => x.cell (h j v q) (hS _ hg)⟩
theorem IsIn.quiet {w w' : World} {B : Nat} {p : Option Addr} {l : List Int} (h : IsIn w B p l) (x : Out 0 0 w w') : IsIn w' B p l := h.fx (Fx.of_out (S := fun _ => False) x) (fun _ _ q => q)
theorem IsIn.wide {w : World} {B C : Nat} {p : Option Addr} {l : List Int} (h : IsIn w B p l) (hB : B ≤ C) : IsIn w C p l := by
  rcases h with h | ⟨g, off, rfl, hg, h⟩
  · exact .inl h
  · exact .inr ⟨g, off, rfl, Nat.lt_of_lt_of_le hg hB, h⟩
theorem IsIn.at {w : World} {B : Nat} {p : Option Addr} {l : List Int} (h : IsIn w B p l) (h0 : 0 < l.length) : ∃ g off, p = some ⟨g, off, none⟩ ∧ g < B ∧ ∀ (j : Nat) x, l[j]? = some x → w.cell? ⟨g, off + j, none⟩ = some (.int .i64 x) := by
  rcases h with h | h
  · rw [h] at h0; simp at h0
  · exact h
/-- a node in its five cells -/
def NdC (w : World) (B g o : Nat) (n : Int × Int × List Int × List Int × List Int) : Prop := ∃ pr nr cr pf nf cf pe ne ce, w.cell? ⟨g, o, none⟩ = some (.int .i64 n.1) ∧ w.cell? ⟨g, o + 1, none⟩ = some (.int .i64 n.2.1) ∧ w.cell? ⟨g, o + 2, none⟩ = some (.slice pr nr cr) ∧ w.cell? ⟨g, o + 3, none⟩ = some (.slice pf nf cf) ∧ w.cell? ⟨g, o + 4, none⟩ = some (.slice pe ne ce) ∧
  n.2.2.1.length = nr * 1 ∧ n.2.2.2.1.length = nf * 2 ∧ n.2.2.2.2.length = ne * 4 ∧ IsIn w B pr n.2.2.1 ∧ IsIn w B pf n.2.2.2.1 ∧ IsIn w B pe n.2.2.2.2
theorem NdC.fx {S : Nat → Prop} {w w' : World} {B g o : Nat} {n : Int × Int × List Int × List Int × List Int} (h : NdC w B g o n) (x : Fx S w w') (hg : g < B) (hS : ∀ k, k < B → ¬ S k) : NdC w' B g o n := by
  obtain ⟨pr, nr, cr, pf, nf, cf, pe, ne, ce, c0, c1, c2, c3, c4, l1, l2, l3, i1, i2, i3⟩ := h
  have hs := hS g hg
  exact ⟨pr, nr, cr, pf, nf, cf, pe, ne, ce, x.cell c0 hs, x.cell c1 hs, x.cell c2 hs, x.cell c3 hs, x.cell c4 hs, l1, l2, l3, i1.fx x hS, i2.fx x hS, i3.fx x hS⟩
theorem NdC.wide {w : World} {B C g o : Nat} {n : Int × Int × List Int × List Int × List Int} (h : NdC w B g o n) (hB : B ≤ C) : NdC w C g o n := by
  obtain ⟨pr, nr, cr, pf, nf, cf, pe, ne, ce, c0, c1, c2, c3, c4, l1, l2, l3, i1, i2, i3⟩ := h
  exact ⟨pr, nr, cr, pf, nf, cf, pe, ne, ce, c0, c1, c2, c3, c4, l1, l2, l3, i1.wide hB, i2.wide hB, i3.wide hB⟩
/-- nodes one behind the other -/
def NdIn (w : World) (B : Nat) (p : Option Addr) (ns : List (Int × Int × List Int × List Int × List Int)) : Prop := ns = [] ∨ ∃ g off, p = some ⟨g, off, none⟩ ∧ g < B ∧ ∀ (i : Nat) n, ns[i]? = some n → NdC w B g (off + i * 5) n
theorem NdIn.fx {S : Nat → Prop} {w w' : World} {B : Nat} {p : Option Addr} {ns : List (Int × Int × List Int × List Int × List Int)} (h : NdIn w B p ns) (x : Fx S w w') (hS : ∀ k, k < B → ¬ S k) : NdIn w' B p ns := by
  rcases h with h | ⟨g, off, rfl, hg, h⟩
  · exact .inl h
  · exact .inr ⟨g, off, rfl, hg, fun j v q => (h j v q).fx x hg hS⟩
theorem NdIn.quiet {w w' : World} {B : Nat} {p : Option Addr} {ns : List (Int × Int × List Int × List Int × List Int)} (h : NdIn w B p ns) (x : Out 0 0 w w') : NdIn w' B p ns := h.fx (Fx.of_out (S := fun _ => False) x) (fun _ _ q => q)
theorem NdIn.wide {w : World} {B C : Nat} {p : Option Addr} {ns : List (Int × Int × List Int × List Int × List Int)} (h : NdIn w B p ns) (hB : B ≤ C) : NdIn w C p ns := by
  rcases h with h | ⟨g, off, rfl, hg, h⟩
  · exact .inl h
  · exact .inr ⟨g, off, rfl, Nat.lt_of_lt_of_le hg hB, fun j v q => (h j v q).wide hB⟩
theorem NdIn.at {w : World} {B : Nat} {p : Option Addr} {ns : List (Int × Int × List Int × List Int × List Int)} (h : NdIn w B p ns) {i : Nat} {n : Int × Int × List Int × List Int × List Int} (hn : ns[i]? = some n) : ∃ g off, p = some ⟨g, off, none⟩ ∧ g < B ∧ NdC w B g (off + i * 5) n := by
  rcases h with h | ⟨g, off, rfl, hg, h⟩
  · rw [h] at hn; simp at hn
  · exact ⟨g, off, rfl, hg, h i n hn⟩
/-- no list is long -/
def Sm (ns : List (Int × Int × List Int × List Int × List Int)) (rs : List Int) : Prop := ns.length ≤ 30000 ∧ rs.length ≤ 200000 ∧ ∀ n ∈ ns, n.2.2.1.length ≤ 200000 ∧ n.2.2.2.1.length ≤ 200000 ∧ n.2.2.2.2.length ≤ 200000
theorem lt_i {k n : Nat} (h : k < n) : (k : Int) < (n : Int) := by omega
theorem at_k {l : List Int} {n s i k : Nat} (hl : l.length = n * s) (hi : i < n) (hk : k < s) : ∃ x, l[i * s + k]? = some x := by
  refine ⟨_, List.getElem?_eq_getElem ?_⟩
  have : (i + 1) * s ≤ n * s := Nat.mul_le_mul_right _ hi
  rw [Nat.add_mul] at this
  omega
theorem take_s1 {l m : List Int} {i : Nat} {a : Int} (h : l.take (i * 1) = m.take (i * 1)) (h0 : l[i * 1 + 0]? = some a) (k0 : m[i * 1 + 0]? = some a) : l.take ((i + 1) * 1) = m.take ((i + 1) * 1) := by
  rw [Nat.add_mul, List.take_add_one, List.take_add_one, h]
  rw [Nat.add_zero] at h0 k0
  rw [h0, k0]
theorem take_s2 {l m : List Int} {i : Nat} {a b : Int} (h : l.take (i * 2) = m.take (i * 2)) (h0 : l[i * 2 + 0]? = some a) (h1 : l[i * 2 + 1]? = some b) (k0 : m[i * 2 + 0]? = some a) (k1 : m[i * 2 + 1]? = some b) : l.take ((i + 1) * 2) = m.take ((i + 1) * 2) := by
  rw [Nat.add_mul]
  show l.take (i * 2 + 1 + 1) = m.take (i * 2 + 1 + 1)
  rw [List.take_add_one, List.take_add_one, List.take_add_one, List.take_add_one, h]
  rw [Nat.add_zero] at h0 k0
  rw [h0, k0, h1, k1]
theorem take_s4 {l m : List Int} {i : Nat} {a b c d : Int} (h : l.take (i * 4) = m.take (i * 4)) (h0 : l[i * 4 + 0]? = some a) (h1 : l[i * 4 + 1]? = some b) (h2 : l[i * 4 + 2]? = some c) (h3 : l[i * 4 + 3]? = some d) (k0 : m[i * 4 + 0]? = some a) (k1 : m[i * 4 + 1]? = some b) (k2 : m[i * 4 + 2]? = some c) (k3 : m[i * 4 + 3]? = some d) : l.take ((i + 1) * 4) = m.take ((i + 1) * 4) := by
  rw [Nat.add_mul]
  show l.take (i * 4 + 1 + 1 + 1 + 1) = m.take (i * 4 + 1 + 1 + 1 + 1)
  rw [List.take_add_one, List.take_add_one, List.take_add_one, List.take_add_one, List.take_add_one, List.take_add_one, List.take_add_one, List.take_add_one, h]
  rw [Nat.add_zero] at h0 k0
  rw [h0, k0, h1, k1, h2, k2, h3, k3]
theorem all_s {l m : List Int} {n s : Nat} (h : l.take (n * s) = m.take (n * s)) (h1 : l.length = n * s) (h2 : m.length = n * s) : l = m := by
  rw [← h1, List.take_length, h1, ← h2, List.take_length] at h
  exact h
theorem ne_at {l m : List Int} {i : Nat} {x y : Int} (hl : l[i]? = some x) (hm : m[i]? = some y) (hne : x ≠ y) : l ≠ m := by
  intro e; rw [e, hm] at hl; exact hne (Option.some.inj hl).symm
set_option maxRecDepth 100000 in
theorem ne_val (a b c d : Int) (W : World) : (binOp .neq 33 (.agg #[.int .i64 a, .int .i64 b]) (.agg #[.int .i64 c, .int .i64 d])).run Tryz.prog W = .ok (.bool (!(a == c && b == d))) W := by
  cases h1 : (a == c) <;> cases h2 : (b == d) <;> go_simp
set_option maxRecDepth 100000 in
theorem ne_ent (a b c d e f g h : Int) (W : World) : (binOp .neq 47 (.agg #[.int .i64 a, .int .i64 b, .int .i64 c, .int .i64 d]) (.agg #[.int .i64 e, .int .i64 f, .int .i64 g, .int .i64 h])).run Tryz.prog W = .ok (.bool (!(a == e && b == f && c == g && d == h))) W := by
  cases h1 : (a == e) <;> cases h2 : (b == f) <;> cases h3 : (c == g) <;> cases h4 : (d == h) <;> go_simp
set_option maxRecDepth 100000 in
set_option maxHeartbeats 4000000 in
theorem eqI_any {w : World} {B C : Nat} (p q : Option Addr) (n m c d : Nat) (l r : List Int) (hl : l.length = n * 1) (hr : r.length = m * 1) (hp : IsIn w B p l) (hq : IsIn w C q r) (hn : n ≤ 200000) :
    Calls Tryz.prog 27 #[.slice p n c, .slice q m d] w fun e w' => e = .returned (.bool (decide (l = r))) ∧ Out 0 0 w w' := by
  obtain ⟨bb, hbb⟩ : ∃ bb, decide (l = r) = bb := ⟨_, rfl⟩
  rw [hbb]
  have HBB := hid_mk hbb
  clear hbb
  by_cases hnm : n = m
  · subst hnm
    have HH := hid_mk (And.intro hl (And.intro hr (And.intro hp (And.intro hq hn))))
    clear hl hr hp hq
    go_enter Tryz.func27, Tryz.ntmps27
    go_wp2_with fail
    go_loopw [13] (fun z wr => ∃ i : Nat, z = .int .i64 i ∧ i ≤ n ∧ l.take (i * 1) = r.take (i * 1) ∧ Out 0 0 w wr) (fun z _ => n - (intOf z).toNat)
    case atStart => exact ⟨0, rfl, Nat.zero_le _, by simp, Out.refl _ _ _⟩
    case round =>
      obtain ⟨i, rfl, him, heq, ho⟩ := hrel
      have HE := hid_mk heq
      have HO := hid_mk ho
      clear heq ho
      by_cases hgo : i < n
      · have g1 := lt_i hgo
        obtain ⟨l1, l2⟩ := lt_d hgo
        obtain ⟨x0, hx0⟩ := at_k (k := 0) HH.out.1 hgo (by decide)
        obtain ⟨y0, hy0⟩ := at_k (k := 0) HH.out.2.1 hgo (by decide)
        obtain ⟨g, off, rfl, hg, hc⟩ := (HH.out.2.2.1.quiet HO.out).at (by have := HH.out.1; omega)
        obtain ⟨g', off', rfl, hg', hc'⟩ := (HH.out.2.2.2.1.quiet HO.out).at (by have := HH.out.2.1; omega)
        have c0 : wr.cell? ⟨g, off + i, none⟩ = some (.int .i64 x0) := by have := hc _ _ hx0; simpa [Nat.add_assoc] using this
        have d0 : wr.cell? ⟨g', off' + i, none⟩ = some (.int .i64 y0) := by have := hc' _ _ hy0; simpa [Nat.add_assoc] using this
        have HX := hid_mk (And.intro hx0 hy0)
        clear hc hc' hx0 hy0
        by_cases hxy : x0 = y0
        · subst hxy
          have hne : (x0 != x0) = false := by simp
          go_wp2_with fail
          go_region
          go_wp2_with fail
          go_roundw
          case rel => exact ⟨i + 1, by go_num, hgo, take_s1 HE.out HX.out.1 HX.out.2, HO.out.drew⟩
          case measure => simp [intOf]; omega
        · have hne2 : decide (l = r) = false := by
            simp only [decide_eq_false_iff_not]
            intro e
            apply hxy
            subst e
            have z := HX.out
            have z0 := Option.some.inj ((z.1).symm.trans z.2)
            exact z0
          have hne : (x0 != y0) = true := by simpa using hxy
          clear hxy
          have HNE := hid_mk hne2
          clear hne2
          go_wp2_with fail
          go_region
          go_wp2_with fail
          go_ret
          exact ⟨by rw [← HBB.out, HNE.out]; rfl, HO.out.drew⟩
      · obtain rfl : n = i := by omega
        have l1 : decide ((n : Int) < (n : Int)) = false := by simp
        have hne2 : decide (l = r) = true := by simp only [decide_eq_true_eq]; exact all_s HE.out HH.out.1 HH.out.2.1
        have HNE := hid_mk hne2
        clear hne2
        go_wp2_with fail
        go_ret
        exact ⟨by rw [← HBB.out, HNE.out]; rfl, HO.out⟩
  · have hne : ((n : Int) != (m : Int)) = true := by simp; omega
    have hne2 : decide (l = r) = false := by
      simp only [decide_eq_false_iff_not]
      intro e
      subst e
      apply hnm
      omega
    have HNE := hid_mk hne2
    clear hne2 hl hr hp hq hn
    go_enter Tryz.func27, Tryz.ntmps27
    go_wp2_with fail
    go_ret
    exact ⟨by rw [← HBB.out, HNE.out]; rfl, Out.refl _ _ _⟩
set_option maxRecDepth 100000 in
set_option maxHeartbeats 4000000 in
theorem eqV_any {w : World} {B C : Nat} (p q : Option Addr) (n m c d : Nat) (l r : List Int) (hl : l.length = n * 2) (hr : r.length = m * 2) (hp : IsIn w B p l) (hq : IsIn w C q r) (hn : n ≤ 200000) :
    Calls Tryz.prog 17 #[.slice p n c, .slice q m d] w fun e w' => e = .returned (.bool (decide (l = r))) ∧ Out 0 0 w w' := by
  obtain ⟨bb, hbb⟩ : ∃ bb, decide (l = r) = bb := ⟨_, rfl⟩
  rw [hbb]
  have HBB := hid_mk hbb
  clear hbb
  by_cases hnm : n = m
  · subst hnm
    have HH := hid_mk (And.intro hl (And.intro hr (And.intro hp (And.intro hq hn))))
    clear hl hr hp hq
    go_enter Tryz.func17, Tryz.ntmps17
    go_wp2_with fail
    go_loopw [13] (fun z wr => ∃ i : Nat, z = .int .i64 i ∧ i ≤ n ∧ l.take (i * 2) = r.take (i * 2) ∧ Out 0 0 w wr) (fun z _ => n - (intOf z).toNat)
    case atStart => exact ⟨0, rfl, Nat.zero_le _, by simp, Out.refl _ _ _⟩
    case round =>
      obtain ⟨i, rfl, him, heq, ho⟩ := hrel
      have HE := hid_mk heq
      have HO := hid_mk ho
      clear heq ho
      by_cases hgo : i < n
      · have g1 := lt_i hgo
        obtain ⟨l1, l2⟩ := lt_d hgo
        obtain ⟨x0, hx0⟩ := at_k (k := 0) HH.out.1 hgo (by decide)
        obtain ⟨x1, hx1⟩ := at_k (k := 1) HH.out.1 hgo (by decide)
        obtain ⟨y0, hy0⟩ := at_k (k := 0) HH.out.2.1 hgo (by decide)
        obtain ⟨y1, hy1⟩ := at_k (k := 1) HH.out.2.1 hgo (by decide)
        obtain ⟨g, off, rfl, hg, hc⟩ := (HH.out.2.2.1.quiet HO.out).at (by have := HH.out.1; omega)
        obtain ⟨g', off', rfl, hg', hc'⟩ := (HH.out.2.2.2.1.quiet HO.out).at (by have := HH.out.2.1; omega)
        have c0 : wr.cell? ⟨g, off + i * 2, none⟩ = some (.int .i64 x0) := by have := hc _ _ hx0; simpa [Nat.add_assoc] using this
        have d0 : wr.cell? ⟨g', off' + i * 2, none⟩ = some (.int .i64 y0) := by have := hc' _ _ hy0; simpa [Nat.add_assoc] using this
        have c1 : wr.cell? ⟨g, off + i * 2 + 1, none⟩ = some (.int .i64 x1) := by have := hc _ _ hx1; simpa [Nat.add_assoc] using this
        have d1 : wr.cell? ⟨g', off' + i * 2 + 1, none⟩ = some (.int .i64 y1) := by have := hc' _ _ hy1; simpa [Nat.add_assoc] using this
        have HX := hid_mk (And.intro hx0 (And.intro hx1 (And.intro hy0 hy1)))
        clear hc hc' hx0 hy0 hx1 hy1
        by_cases hxy : x0 = y0 ∧ x1 = y1
        · obtain ⟨rfl, rfl⟩ := hxy
          have hne := ne_val x0 x1 x0 x1
          have hnb : (!(x0 == x0 && x1 == x1)) = false := by simp
          simp only [hnb] at hne
          clear hnb
          go_wp2_with fail
          go_region
          go_wp2_with fail
          go_roundw
          case rel => exact ⟨i + 1, by go_num, hgo, take_s2 HE.out HX.out.1 HX.out.2.1 HX.out.2.2.1 HX.out.2.2.2, HO.out.drew⟩
          case measure => simp [intOf]; omega
        · have hne2 : decide (l = r) = false := by
            simp only [decide_eq_false_iff_not]
            intro e
            apply hxy
            subst e
            have z := HX.out
            have z0 := Option.some.inj ((z.1).symm.trans z.2.2.1)
            have z1 := Option.some.inj ((z.2.1).symm.trans z.2.2.2)
            exact ⟨z0, z1⟩
          have hne := ne_val x0 x1 y0 y1
          have hnb : (!(x0 == y0 && x1 == y1)) = true := by simp only [Bool.not_eq_true', Bool.and_eq_false_iff, beq_eq_false_iff_ne]; omega
          simp only [hnb] at hne
          clear hnb
          clear hxy
          have HNE := hid_mk hne2
          clear hne2
          go_wp2_with fail
          go_region
          go_wp2_with fail
          go_ret
          exact ⟨by rw [← HBB.out, HNE.out]; rfl, HO.out.drew⟩
      · obtain rfl : n = i := by omega
        have l1 : decide ((n : Int) < (n : Int)) = false := by simp
        have hne2 : decide (l = r) = true := by simp only [decide_eq_true_eq]; exact all_s HE.out HH.out.1 HH.out.2.1
        have HNE := hid_mk hne2
        clear hne2
        go_wp2_with fail
        go_ret
        exact ⟨by rw [← HBB.out, HNE.out]; rfl, HO.out⟩
  · have hne : ((n : Int) != (m : Int)) = true := by simp; omega
    have hne2 : decide (l = r) = false := by
      simp only [decide_eq_false_iff_not]
      intro e
      subst e
      apply hnm
      omega
    have HNE := hid_mk hne2
    clear hne2 hl hr hp hq hn
    go_enter Tryz.func17, Tryz.ntmps17
    go_wp2_with fail
    go_ret
    exact ⟨by rw [← HBB.out, HNE.out]; rfl, Out.refl _ _ _⟩
set_option maxRecDepth 100000 in
set_option maxHeartbeats 4000000 in
theorem eqE_any {w : World} {B C : Nat} (p q : Option Addr) (n m c d : Nat) (l r : List Int) (hl : l.length = n * 4) (hr : r.length = m * 4) (hp : IsIn w B p l) (hq : IsIn w C q r) (hn : n ≤ 200000) :
    Calls Tryz.prog 28 #[.slice p n c, .slice q m d] w fun e w' => e = .returned (.bool (decide (l = r))) ∧ Out 0 0 w w' := by
  obtain ⟨bb, hbb⟩ : ∃ bb, decide (l = r) = bb := ⟨_, rfl⟩
  rw [hbb]
  have HBB := hid_mk hbb
  clear hbb
  by_cases hnm : n = m
  · subst hnm
    have HH := hid_mk (And.intro hl (And.intro hr (And.intro hp (And.intro hq hn))))
    clear hl hr hp hq
    go_enter Tryz.func28, Tryz.ntmps28
    go_wp2_with fail
    go_loopw [13] (fun z wr => ∃ i : Nat, z = .int .i64 i ∧ i ≤ n ∧ l.take (i * 4) = r.take (i * 4) ∧ Out 0 0 w wr) (fun z _ => n - (intOf z).toNat)
    case atStart => exact ⟨0, rfl, Nat.zero_le _, by simp, Out.refl _ _ _⟩
    case round =>
      obtain ⟨i, rfl, him, heq, ho⟩ := hrel
      have HE := hid_mk heq
      have HO := hid_mk ho
      clear heq ho
      by_cases hgo : i < n
      · have g1 := lt_i hgo
        obtain ⟨l1, l2⟩ := lt_d hgo
        obtain ⟨x0, hx0⟩ := at_k (k := 0) HH.out.1 hgo (by decide)
        obtain ⟨x1, hx1⟩ := at_k (k := 1) HH.out.1 hgo (by decide)
        obtain ⟨x2, hx2⟩ := at_k (k := 2) HH.out.1 hgo (by decide)
        obtain ⟨x3, hx3⟩ := at_k (k := 3) HH.out.1 hgo (by decide)
        obtain ⟨y0, hy0⟩ := at_k (k := 0) HH.out.2.1 hgo (by decide)
        obtain ⟨y1, hy1⟩ := at_k (k := 1) HH.out.2.1 hgo (by decide)
        obtain ⟨y2, hy2⟩ := at_k (k := 2) HH.out.2.1 hgo (by decide)
        obtain ⟨y3, hy3⟩ := at_k (k := 3) HH.out.2.1 hgo (by decide)
        obtain ⟨g, off, rfl, hg, hc⟩ := (HH.out.2.2.1.quiet HO.out).at (by have := HH.out.1; omega)
        obtain ⟨g', off', rfl, hg', hc'⟩ := (HH.out.2.2.2.1.quiet HO.out).at (by have := HH.out.2.1; omega)
        have c0 : wr.cell? ⟨g, off + i * 4, none⟩ = some (.int .i64 x0) := by have := hc _ _ hx0; simpa [Nat.add_assoc] using this
        have d0 : wr.cell? ⟨g', off' + i * 4, none⟩ = some (.int .i64 y0) := by have := hc' _ _ hy0; simpa [Nat.add_assoc] using this
        have c1 : wr.cell? ⟨g, off + i * 4 + 1, none⟩ = some (.int .i64 x1) := by have := hc _ _ hx1; simpa [Nat.add_assoc] using this
        have d1 : wr.cell? ⟨g', off' + i * 4 + 1, none⟩ = some (.int .i64 y1) := by have := hc' _ _ hy1; simpa [Nat.add_assoc] using this
        have c2 : wr.cell? ⟨g, off + i * 4 + 2, none⟩ = some (.int .i64 x2) := by have := hc _ _ hx2; simpa [Nat.add_assoc] using this
        have d2 : wr.cell? ⟨g', off' + i * 4 + 2, none⟩ = some (.int .i64 y2) := by have := hc' _ _ hy2; simpa [Nat.add_assoc] using this
        have c3 : wr.cell? ⟨g, off + i * 4 + 3, none⟩ = some (.int .i64 x3) := by have := hc _ _ hx3; simpa [Nat.add_assoc] using this
        have d3 : wr.cell? ⟨g', off' + i * 4 + 3, none⟩ = some (.int .i64 y3) := by have := hc' _ _ hy3; simpa [Nat.add_assoc] using this
        have HX := hid_mk (And.intro hx0 (And.intro hx1 (And.intro hx2 (And.intro hx3 (And.intro hy0 (And.intro hy1 (And.intro hy2 hy3)))))))
        clear hc hc' hx0 hy0 hx1 hy1 hx2 hy2 hx3 hy3
        by_cases hxy : x0 = y0 ∧ x1 = y1 ∧ x2 = y2 ∧ x3 = y3
        · obtain ⟨rfl, rfl, rfl, rfl⟩ := hxy
          have hne := ne_ent x0 x1 x2 x3 x0 x1 x2 x3
          have hnb : (!(x0 == x0 && x1 == x1 && x2 == x2 && x3 == x3)) = false := by simp
          simp only [hnb] at hne
          clear hnb
          go_wp2_with fail
          go_region
          go_wp2_with fail
          go_roundw
          case rel => exact ⟨i + 1, by go_num, hgo, take_s4 HE.out HX.out.1 HX.out.2.1 HX.out.2.2.1 HX.out.2.2.2.1 HX.out.2.2.2.2.1 HX.out.2.2.2.2.2.1 HX.out.2.2.2.2.2.2.1 HX.out.2.2.2.2.2.2.2, HO.out.drew⟩
          case measure => simp [intOf]; omega
        · have hne2 : decide (l = r) = false := by
            simp only [decide_eq_false_iff_not]
            intro e
            apply hxy
            subst e
            have z := HX.out
            have z0 := Option.some.inj ((z.1).symm.trans z.2.2.2.2.1)
            have z1 := Option.some.inj ((z.2.1).symm.trans z.2.2.2.2.2.1)
            have z2 := Option.some.inj ((z.2.2.1).symm.trans z.2.2.2.2.2.2.1)
            have z3 := Option.some.inj ((z.2.2.2.1).symm.trans z.2.2.2.2.2.2.2)
            exact ⟨z0, z1, z2, z3⟩
          have hne := ne_ent x0 x1 x2 x3 y0 y1 y2 y3
          have hnb : (!(x0 == y0 && x1 == y1 && x2 == y2 && x3 == y3)) = true := by simp only [Bool.not_eq_true', Bool.and_eq_false_iff, beq_eq_false_iff_ne]; omega
          simp only [hnb] at hne
          clear hnb
          clear hxy
          have HNE := hid_mk hne2
          clear hne2
          go_wp2_with fail
          go_region
          go_wp2_with fail
          go_ret
          exact ⟨by rw [← HBB.out, HNE.out]; rfl, HO.out.drew⟩
      · obtain rfl : n = i := by omega
        have l1 : decide ((n : Int) < (n : Int)) = false := by simp
        have hne2 : decide (l = r) = true := by simp only [decide_eq_true_eq]; exact all_s HE.out HH.out.1 HH.out.2.1
        have HNE := hid_mk hne2
        clear hne2
        go_wp2_with fail
        go_ret
        exact ⟨by rw [← HBB.out, HNE.out]; rfl, HO.out⟩
  · have hne : ((n : Int) != (m : Int)) = true := by simp; omega
    have hne2 : decide (l = r) = false := by
      simp only [decide_eq_false_iff_not]
      intro e
      subst e
      apply hnm
      omega
    have HNE := hid_mk hne2
    clear hne2 hl hr hp hq hn
    go_enter Tryz.func28, Tryz.ntmps28
    go_wp2_with fail
    go_ret
    exact ⟨by rw [← HBB.out, HNE.out]; rfl, Out.refl _ _ _⟩
set_option maxRecDepth 100000 in
set_option maxHeartbeats 4000000 in
theorem sameV_any {w : World} {B C : Nat} (p q : Option Addr) (n m c d : Nat) (l r : List Int) (hl : l.length = n * 2) (hr : r.length = m * 2) (hp : IsIn w B p l) (hq : IsIn w C q r) (hn : n ≤ 200000) :
    Calls Tryz.prog 18 #[.slice p n c, .slice q m d] w fun e w' => e = .returned (.bool (decide (l = r))) ∧ Out 0 0 w w' := by
  obtain ⟨bb, hbb⟩ : ∃ bb, decide (l = r) = bb := ⟨_, rfl⟩
  rw [hbb]
  have HBB := hid_mk hbb
  clear hbb
  by_cases hnm : n = m
  · subst hnm
    have HH := hid_mk (And.intro hl (And.intro hr (And.intro hp (And.intro hq hn))))
    clear hl hr hp hq
    go_enter Tryz.func18, Tryz.ntmps18
    go_wp2_with fail
    go_loopw [5] (fun z wr => ∃ i : Nat, z = .int .i64 i ∧ i ≤ n ∧ l.take (i * 2) = r.take (i * 2) ∧ Out 0 0 w wr) (fun z _ => n - (intOf z).toNat)
    case atStart => exact ⟨0, rfl, Nat.zero_le _, by simp, Out.refl _ _ _⟩
    case round =>
      obtain ⟨i, rfl, him, heq, ho⟩ := hrel
      have HE := hid_mk heq
      have HO := hid_mk ho
      clear heq ho
      by_cases hgo : i < n
      · have g1 := lt_i hgo
        obtain ⟨l1, l2⟩ := lt_d hgo
        obtain ⟨x0, hx0⟩ := at_k (k := 0) HH.out.1 hgo (by decide)
        obtain ⟨x1, hx1⟩ := at_k (k := 1) HH.out.1 hgo (by decide)
        obtain ⟨y0, hy0⟩ := at_k (k := 0) HH.out.2.1 hgo (by decide)
        obtain ⟨y1, hy1⟩ := at_k (k := 1) HH.out.2.1 hgo (by decide)
        obtain ⟨g, off, rfl, hg, hc⟩ := (HH.out.2.2.1.quiet HO.out).at (by have := HH.out.1; omega)
        obtain ⟨g', off', rfl, hg', hc'⟩ := (HH.out.2.2.2.1.quiet HO.out).at (by have := HH.out.2.1; omega)
        have c0 : wr.cell? ⟨g, off + i * 2, none⟩ = some (.int .i64 x0) := by have := hc _ _ hx0; simpa [Nat.add_assoc] using this
        have d0 : wr.cell? ⟨g', off' + i * 2, none⟩ = some (.int .i64 y0) := by have := hc' _ _ hy0; simpa [Nat.add_assoc] using this
        have c1 : wr.cell? ⟨g, off + i * 2 + 1, none⟩ = some (.int .i64 x1) := by have := hc _ _ hx1; simpa [Nat.add_assoc] using this
        have d1 : wr.cell? ⟨g', off' + i * 2 + 1, none⟩ = some (.int .i64 y1) := by have := hc' _ _ hy1; simpa [Nat.add_assoc] using this
        have HX := hid_mk (And.intro hx0 (And.intro hx1 (And.intro hy0 hy1)))
        clear hc hc' hx0 hy0 hx1 hy1
        by_cases hxy : x0 = y0 ∧ x1 = y1
        · obtain ⟨rfl, rfl⟩ := hxy
          have hne := ne_val x0 x1 x0 x1
          have hnb : (!(x0 == x0 && x1 == x1)) = false := by simp
          simp only [hnb] at hne
          clear hnb
          go_wp2_with fail
          go_region
          go_wp2_with fail
          go_roundw
          case rel => exact ⟨i + 1, by go_num, hgo, take_s2 HE.out HX.out.1 HX.out.2.1 HX.out.2.2.1 HX.out.2.2.2, HO.out.drew⟩
          case measure => simp [intOf]; omega
        · have hne2 : decide (l = r) = false := by
            simp only [decide_eq_false_iff_not]
            intro e
            apply hxy
            subst e
            have z := HX.out
            have z0 := Option.some.inj ((z.1).symm.trans z.2.2.1)
            have z1 := Option.some.inj ((z.2.1).symm.trans z.2.2.2)
            exact ⟨z0, z1⟩
          have hne := ne_val x0 x1 y0 y1
          have hnb : (!(x0 == y0 && x1 == y1)) = true := by simp only [Bool.not_eq_true', Bool.and_eq_false_iff, beq_eq_false_iff_ne]; omega
          simp only [hnb] at hne
          clear hnb
          clear hxy
          have HNE := hid_mk hne2
          clear hne2
          go_wp2_with fail
          go_region
          go_wp2_with fail
          go_ret
          exact ⟨by rw [← HBB.out, HNE.out]; rfl, HO.out.drew⟩
      · obtain rfl : n = i := by omega
        have l1 : decide ((n : Int) < (n : Int)) = false := by simp
        have hne2 : decide (l = r) = true := by simp only [decide_eq_true_eq]; exact all_s HE.out HH.out.1 HH.out.2.1
        have HNE := hid_mk hne2
        clear hne2
        go_wp2_with fail
        go_ret
        exact ⟨by rw [← HBB.out, HNE.out]; rfl, HO.out⟩
  · have hne : ((n : Int) != (m : Int)) = true := by simp; omega
    have hne2 : decide (l = r) = false := by
      simp only [decide_eq_false_iff_not]
      intro e
      subst e
      apply hnm
      omega
    have HNE := hid_mk hne2
    clear hne2 hl hr hp hq hn
    go_enter Tryz.func18, Tryz.ntmps18
    go_wp2_with fail
    go_ret
    exact ⟨by rw [← HBB.out, HNE.out]; rfl, Out.refl _ _ _⟩
end Go.Proofs.YtghlbdmldahnlaaGreatDoor
