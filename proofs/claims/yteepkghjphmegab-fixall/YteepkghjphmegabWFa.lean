/- the walks of Fa -/
import Derived.Test.YteepkghjphmegabWRn
import Derived.Deep.RegionWith
import Derived.Laws.CopyOwn
namespace Go.Proofs.Yteepkghjphmegab
open Go.ChangeShapes Go.WideShapes Go.ChangeAt Go.RowKit
set_option linter.unusedVariables false
set_option linter.unusedSimpArgs false

/-- block g holds the parts of the pattern b -/
def FB (W : World) (g : Nat) (b : Int) : Prop :=
  W.heap[g]? = some (.cells #[.bool (pNeg b), .bool (pInf b), .bool (pNone b), .int .i64 (pWhole b), .int .i64 (pExp b)] 51 (0, 0))
theorem FB.c0 {W : World} {g : Nat} {b : Int} (h : FB W g b) : W.cell? ⟨g, 0, none⟩ = some (.bool (pNeg b)) := by unfold FB at h; simp [World.cell?, h]
theorem FB.c1 {W : World} {g : Nat} {b : Int} (h : FB W g b) : W.cell? ⟨g, 1, none⟩ = some (.bool (pInf b)) := by unfold FB at h; simp [World.cell?, h]
theorem FB.c2 {W : World} {g : Nat} {b : Int} (h : FB W g b) : W.cell? ⟨g, 2, none⟩ = some (.bool (pNone b)) := by unfold FB at h; simp [World.cell?, h]
theorem FB.c3 {W : World} {g : Nat} {b : Int} (h : FB W g b) : W.cell? ⟨g, 3, none⟩ = some (.int .i64 (pWhole b)) := by unfold FB at h; simp [World.cell?, h]
theorem FB.c4 {W : World} {g : Nat} {b : Int} (h : FB W g b) : W.cell? ⟨g, 4, none⟩ = some (.int .i64 (pExp b)) := by unfold FB at h; simp [World.cell?, h]
theorem FB.lt {W : World} {g : Nat} {b : Int} (h : FB W g b) : g < W.heap.size := (Array.getElem?_eq_some_iff.1 h).1
theorem FB.new (W : World) (b : Int) : FB (W.alloc (.cells #[.bool (pNeg b), .bool (pInf b), .bool (pNone b), .int .i64 (pWhole b), .int .i64 (pExp b)] 51)) W.heap.size b := heap_alloc_new _ _
theorem FB.alloc {W : World} {g : Nat} {b : Int} (h : FB W g b) (o : Obj) : FB (W.alloc o) g b := by
  have := h.lt
  unfold FB at *; rw [heap_alloc_old _ _ this]; exact h
theorem FB.below {W W' : World} {g : Nat} {b : Int} (h : FB W g b) (hb : Below W.heap.size W W') : FB W' g b := by
  have := h.lt
  unfold FB at *; rw [← h]; exact hb.block g this
theorem FB.drew {W : World} {g : Nat} {b : Int} (h : FB W g b) : FB W.drew g b := h
theorem BL.drew {W : World} {B : Nat} {v : Value} {N : Int} {len : Nat} (h : BL W B v N len) : BL W.drew B v N len := ⟨h.lo, h.hi, h.some, h.own⟩

theorem refListI_any (n z : Int) (w : World) (h0 : 0 ≤ n) (h1 : n < 9223372036854775808) (hz0 : 0 ≤ z) (hz : z ≤ 100000) :
    Calls Try.prog 27 #[.int .i64 n, .int .i64 z] w fun e w' => ∃ v len, e = .returned v ∧ len ≤ 100063 ∧ len ≤ z.toNat + 63 ∧ BL w' w.heap.size v (n * 2 ^ z.toNat) len ∧ Below w.heap.size w w' := by
  obtain ⟨k, rfl⟩ : ∃ k : Nat, z = (k : Int) := ⟨z.toNat, by omega⟩
  refine (refList_any n k w h0 h1 (by omega)).mono ?_
  rintro e w' ⟨v, len, rfl, hl, hb, hbe⟩
  exact ⟨v, len, rfl, by omega, by simpa using hl, by simpa using hb, hbe⟩

theorem FB.as {W : World} {g : Nat} {b : Int} {x y z : Bool} (h : FB W g b) (hx : x = pNeg b) (hy : y = pInf b) (hz : z = pNone b) :
    W.heap[g]? = some (.cells #[.bool x, .bool y, .bool z, .int .i64 (pWhole b), .int .i64 (pExp b)] 51 (0, 0)) := by subst hx; subst hy; subst hz; exact h
set_option maxHeartbeats 4000000 in
theorem refFloAdd_sp (a b : Int) (w : World) (ha1 : -9223372036854775808 ≤ a) (ha2 : a ≤ 9223372036854775807) (hb1 : -9223372036854775808 ≤ b) (hb2 : b ≤ 9223372036854775807)
    (hsp : pNone a = true ∨ pNone b = true ∨ pInf a = true ∨ pInf b = true) :
    Calls Try.prog 53 #[.int .i64 a, .int .i64 b] w fun e w' => e = .returned (.int .i64 (addV a b)) ∧ Below w.heap.size w w' := by
  go_enter Try.func53, Try.ntmps53
  go_wp2_with fail
  refine (refParts_any a _ ha1 ha2).mono ?_
  rintro e w1 ⟨rfl, hg1⟩
  obtain ⟨nA, hnA⟩ : ∃ x, x = pNone a := ⟨_, rfl⟩
  obtain ⟨iA, hiA⟩ : ∃ x, x = pInf a := ⟨_, rfl⟩
  obtain ⟨gA, hgA⟩ : ∃ x, x = pNeg a := ⟨_, rfl⟩
  obtain ⟨nB, hnB⟩ : ∃ x, x = pNone b := ⟨_, rfl⟩
  obtain ⟨iB, hiB⟩ : ∃ x, x = pInf b := ⟨_, rfl⟩
  obtain ⟨gB, hgB⟩ : ∃ x, x = pNeg b := ⟨_, rfl⟩
  have HV : Hid (addV a b = if nA = true ∨ nB = true ∨ (iA = true ∧ iB = true ∧ gA ≠ gB) then noNum else if iA = true then a else if iB = true then b else finAdd a b) := by
    show addV a b = _; subst hnA; subst hiA; subst hgA; subst hnB; subst hiB; subst hgB; rfl
  have hsp' : nA = true ∨ nB = true ∨ iA = true ∨ iB = true := by rw [hnA, hnB, hiA, hiB]; exact hsp
  have HF := hid_mk hsp'
  rw [flo_as hgA hiA hnA]
  have FA : ∀ W' : World, W'.heap[w1.heap.size]? = (w1.alloc (.cells #[.bool gA, .bool iA, .bool nA, .int .i64 (pWhole a), .int .i64 (pExp a)] 51)).heap[w1.heap.size]? → W'.cell? ⟨w1.heap.size, 0, none⟩ = some (.bool gA) ∧ W'.cell? ⟨w1.heap.size, 1, none⟩ = some (.bool iA) ∧ W'.cell? ⟨w1.heap.size, 2, none⟩ = some (.bool nA) := by
    intro W' h
    rw [heap_alloc_new] at h
    simp [World.cell?, h]
  have HFA := hid_mk FA
  have HfB := hid_mk (flo_as hgB hiB hnB)
  clear hsp hsp' hnA hiA hgA hnB hiB hgB FA
  go_wp2_with fail
  refine (refParts_any b _ hb1 hb2).mono ?_
  rintro e w2 ⟨rfl, hg2⟩
  rw [HfB.out]
  have hs2 := hg2.size
  have hlt : w1.heap.size < w2.heap.size := by simp at hs2; omega
  have hW : Below w.heap.size w w2 := (hg1.alloc hg1.size _).trans (hg2.mono (by have := hg1.size; simp; omega))
  have hX := hg2.block w1.heap.size (by simp)
  cases nA
  case true =>
    obtain ⟨x0, x1, x2⟩ := HFA.out (w2.alloc (.cells #[.bool gB, .bool iB, .bool nB, .int .i64 (pWhole b), .int .i64 (pExp b)] 51)) ((heap_alloc_old _ _ hlt).trans hX)
    have hW' := hW.alloc hW.size (.cells #[.bool gB, .bool iB, .bool nB, .int .i64 (pWhole b), .int .i64 (pExp b)] 51)
    go_wp2
    all_goals go_ret
    all_goals exact ⟨ret_int (by rw [HV.out]; simp [noNum]), hW'⟩
  case false =>
    cases nB
    case true =>
      obtain ⟨x0, x1, x2⟩ := HFA.out (w2.alloc (.cells #[.bool gB, .bool iB, .bool true, .int .i64 (pWhole b), .int .i64 (pExp b)] 51)) ((heap_alloc_old _ _ hlt).trans hX)
      have hW' := hW.alloc hW.size (.cells #[.bool gB, .bool iB, .bool true, .int .i64 (pWhole b), .int .i64 (pExp b)] 51)
      go_wp2
      all_goals go_ret
      all_goals exact ⟨ret_int (by rw [HV.out]; simp [noNum]), hW'⟩
    case false =>
      cases iA
      case true =>
        cases iB
        case false =>
          obtain ⟨x0, x1, x2⟩ := HFA.out (w2.alloc (.cells #[.bool gB, .bool false, .bool false, .int .i64 (pWhole b), .int .i64 (pExp b)] 51)) ((heap_alloc_old _ _ hlt).trans hX)
          have hW' := hW.alloc hW.size (.cells #[.bool gB, .bool false, .bool false, .int .i64 (pWhole b), .int .i64 (pExp b)] 51)
          go_wp2
          all_goals go_ret
          all_goals exact ⟨ret_int (by rw [HV.out]; simp [noNum]), hW'⟩
        case true =>
          cases gA <;> cases gB
          case false.false =>
            obtain ⟨x0, x1, x2⟩ := HFA.out (w2.alloc (.cells #[.bool false, .bool true, .bool false, .int .i64 (pWhole b), .int .i64 (pExp b)] 51)) ((heap_alloc_old _ _ hlt).trans hX)
            have hW' := hW.alloc hW.size (.cells #[.bool false, .bool true, .bool false, .int .i64 (pWhole b), .int .i64 (pExp b)] 51)
            go_wp2
            all_goals go_ret
            all_goals exact ⟨ret_int (by rw [HV.out]; simp [noNum]), hW'⟩
          case false.true =>
            obtain ⟨x0, x1, x2⟩ := HFA.out (w2.alloc (.cells #[.bool true, .bool true, .bool false, .int .i64 (pWhole b), .int .i64 (pExp b)] 51)) ((heap_alloc_old _ _ hlt).trans hX)
            have hW' := hW.alloc hW.size (.cells #[.bool true, .bool true, .bool false, .int .i64 (pWhole b), .int .i64 (pExp b)] 51)
            go_wp2
            all_goals go_ret
            all_goals exact ⟨ret_int (by rw [HV.out]; simp [noNum]), hW'⟩
          case true.false =>
            obtain ⟨x0, x1, x2⟩ := HFA.out (w2.alloc (.cells #[.bool false, .bool true, .bool false, .int .i64 (pWhole b), .int .i64 (pExp b)] 51)) ((heap_alloc_old _ _ hlt).trans hX)
            have hW' := hW.alloc hW.size (.cells #[.bool false, .bool true, .bool false, .int .i64 (pWhole b), .int .i64 (pExp b)] 51)
            go_wp2
            all_goals go_ret
            all_goals exact ⟨ret_int (by rw [HV.out]; simp [noNum]), hW'⟩
          case true.true =>
            obtain ⟨x0, x1, x2⟩ := HFA.out (w2.alloc (.cells #[.bool true, .bool true, .bool false, .int .i64 (pWhole b), .int .i64 (pExp b)] 51)) ((heap_alloc_old _ _ hlt).trans hX)
            have hW' := hW.alloc hW.size (.cells #[.bool true, .bool true, .bool false, .int .i64 (pWhole b), .int .i64 (pExp b)] 51)
            go_wp2
            all_goals go_ret
            all_goals exact ⟨ret_int (by rw [HV.out]; simp [noNum]), hW'⟩
      case false =>
        cases iB
        case true =>
          obtain ⟨x0, x1, x2⟩ := HFA.out (w2.alloc (.cells #[.bool gB, .bool true, .bool false, .int .i64 (pWhole b), .int .i64 (pExp b)] 51)) ((heap_alloc_old _ _ hlt).trans hX)
          have hW' := hW.alloc hW.size (.cells #[.bool gB, .bool true, .bool false, .int .i64 (pWhole b), .int .i64 (pExp b)] 51)
          go_wp2
          all_goals go_ret
          all_goals exact ⟨ret_int (by rw [HV.out]; simp [noNum]), hW'⟩
        case false => exact absurd HF.out (by simp)
end Go.Proofs.Yteepkghjphmegab
