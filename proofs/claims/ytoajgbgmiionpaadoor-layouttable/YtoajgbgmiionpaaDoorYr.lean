/- LayoutTable -/
import Derived.Test.YtoajgbgmiionpaaDoorYj
namespace Go.Proofs.YtoajgbgmiionpaaDoor
open Go.RowKit
set_option linter.unusedVariables false
set_option linter.unusedSimpArgs false

def rowsL : List (List Nat) := [[1, 0, 3, 2, 2], [2, 0, 2, 2], [3, 0, 1], [3, 2, 3, 2, 2], [4, 0, 2, 1], [4, 8, 3, 1, 1], [4, 4096, 514, 1], [5, 0, 2, 1], [6, 0, 1], [6, 64, 65, 2], [7, 0, 2, 6], [8, 0, 3, 3, 2], [9, 0, 3, 4, 5], [10, 0, 3, 1, 8], [11, 0, 5, 6, 7, 1, 1], [11, 128, 133, 6, 7, 1, 1, 2], [12, 4, 5, 9, 9, 9, 9], [12, 512, 513, 9], [13, 0, 4, 4, 5, 9], [3, 1023, 1024, 2]]
def ln (i : Nat) : Nat := (rowsL.getD i []).length
def rw6 (i j : Nat) : Nat := (rowsL.getD i []).getD j 0
/-- many objects laid, one behind the other -/
def allocs (w : World) : List Obj → World
  | [] => w
  | o :: r => allocs (w.alloc o) r
theorem allocs_old (os : List Obj) (w : World) (i : Nat) (h : i < w.heap.size) : (allocs w os).heap[i]? = w.heap[i]? := by
  induction os generalizing w with
  | nil => rfl
  | cons o r ih => rw [allocs, ih _ (by simp; omega), heap_alloc_old _ _ h]
theorem allocs_at (os : List Obj) (w : World) (i : Nat) (h : i < os.length) : (allocs w os).heap[w.heap.size + i]? = os[i]? := by
  induction os generalizing w i with
  | nil => simp at h
  | cons o r ih =>
    rw [allocs]
    cases i with
    | zero => rw [Nat.add_zero, allocs_old _ _ _ (by simp), heap_alloc_new]; rfl
    | succ i =>
      have := ih (w.alloc o) i (by simpa using h)
      rw [show (w.alloc o).heap.size = w.heap.size + 1 from by simp] at this
      rw [show w.heap.size + (i + 1) = w.heap.size + 1 + i from by omega, this]
      rfl
theorem allocs_out (os : List Obj) (w : World) : Out 0 0 w (allocs w os) := by
  induction os generalizing w with
  | nil => exact Out.refl _ _ _
  | cons o r ih => exact ((Out.refl _ _ _).alloc o).trans (ih _)
def objs (B : Nat) : List Obj := rowsL.map (fun l => Obj.cells (ints l).toArray 3) ++ [.cells ((List.range 20).map fun i => Value.slice (some ⟨B + i, 0, none⟩) (ln i) (ln i)).toArray 26]
def RT (W : World) (B : Nat) : Prop := ∀ i, i < 20 → W.cell? ⟨B + 20, i, none⟩ = some (.slice (some ⟨B + i, 0, none⟩) (ln i) (ln i)) ∧ ∀ j, j < ln i → W.cell? ⟨B + i, j, none⟩ = some (.int .i64 (rw6 i j))
theorem rt_objs (w : World) : RT (allocs w (objs w.heap.size)) w.heap.size := by
  have hl : (objs w.heap.size).length = 21 := rfl
  intro i hi
  refine ⟨?_, fun j hj => ?_⟩
  · have h := allocs_at (objs w.heap.size) w 20 (by rw [hl]; omega)
    rw [show (objs w.heap.size)[20]? = some (.cells ((List.range 20).map fun i => Value.slice (some ⟨w.heap.size + i, 0, none⟩) (ln i) (ln i)).toArray 26) from rfl] at h
    simp [World.cell?, h, hi]
  · have h := allocs_at (objs w.heap.size) w i (by rw [hl]; omega)
    have e : (objs w.heap.size)[i]? = some (.cells (ints (rowsL.getD i [])).toArray 3) := by
      unfold objs
      rw [List.getElem?_append_left (by simp [rowsL]; omega), List.getElem?_map, List.getElem?_eq_getElem (show i < rowsL.length from hi)]
      simp [List.getD_eq_getElem?_getD, List.getElem?_eq_getElem (show i < rowsL.length from hi)]
    rw [e] at h
    have hj' : j < (rowsL.getD i []).length := hj
    generalize hr : rowsL.getD i [] = l at *
    simp only [World.cell?, h]
    unfold rw6
    rw [hr, List.getD_eq_getElem?_getD, List.getElem?_eq_getElem hj']
    simp [ints, hj']
theorem RT.kept {W W' : World} {B : Nat} (h : RT W B) (o : Out 0 0 W W') : RT W' B := fun i hi => ⟨o.cell (h i hi).1 (.inr (Nat.zero_le _)), fun j hj => o.cell ((h i hi).2 j hj) (.inr (Nat.zero_le _))⟩
theorem tab_nums : ∀ i : Fin 20, 3 ≤ ln i ∧ ln i ≤ 8 ∧ sizeB (rw6 i 0) (rw6 i 1) = true ∧ sizeV (rw6 i 0) (rw6 i 1) = rw6 i 2 ∧ rw6 i 2 ≤ 1024 := by decide +kernel
theorem tab_roles : ∀ i : Fin 20, ∀ j : Fin 8, 3 ≤ j.val → j.val < ln i → roleV (rw6 i 0) (rw6 i 2) ((j.val : Int) - 2) = rw6 i j.val := by decide +kernel
theorem Tab.drew {w : World} (h : Tab w) : Tab w.drew := h.quiet (Out.refl _ _ _).drew
set_option maxRecDepth 100000 in
set_option maxHeartbeats 4000000 in
theorem table_any {w : World} (hT : Tab w) : Calls Tryd.prog 8 #[] w fun e w' => e = .returned (.bool true) ∧ Out 0 0 w w' := by
  obtain ⟨W2, hW2⟩ : ∃ W2, ((((((((((((((((((((w.alloc (.cells #[.int .i64 1, .int .i64 0, .int .i64 3, .int .i64 2, .int .i64 2] 3)).alloc (.cells #[.int .i64 2, .int .i64 0, .int .i64 2, .int .i64 2] 3)).alloc (.cells #[.int .i64 3, .int .i64 0, .int .i64 1] 3)).alloc (.cells #[.int .i64 3, .int .i64 2, .int .i64 3, .int .i64 2, .int .i64 2] 3)).alloc (.cells #[.int .i64 4, .int .i64 0, .int .i64 2, .int .i64 1] 3)).alloc (.cells #[.int .i64 4, .int .i64 8, .int .i64 3, .int .i64 1, .int .i64 1] 3)).alloc (.cells #[.int .i64 4, .int .i64 4096, .int .i64 514, .int .i64 1] 3)).alloc (.cells #[.int .i64 5, .int .i64 0, .int .i64 2, .int .i64 1] 3)).alloc (.cells #[.int .i64 6, .int .i64 0, .int .i64 1] 3)).alloc (.cells #[.int .i64 6, .int .i64 64, .int .i64 65, .int .i64 2] 3)).alloc (.cells #[.int .i64 7, .int .i64 0, .int .i64 2, .int .i64 6] 3)).alloc (.cells #[.int .i64 8, .int .i64 0, .int .i64 3, .int .i64 3, .int .i64 2] 3)).alloc (.cells #[.int .i64 9, .int .i64 0, .int .i64 3, .int .i64 4, .int .i64 5] 3)).alloc (.cells #[.int .i64 10, .int .i64 0, .int .i64 3, .int .i64 1, .int .i64 8] 3)).alloc (.cells #[.int .i64 11, .int .i64 0, .int .i64 5, .int .i64 6, .int .i64 7, .int .i64 1, .int .i64 1] 3)).alloc (.cells #[.int .i64 11, .int .i64 128, .int .i64 133, .int .i64 6, .int .i64 7, .int .i64 1, .int .i64 1, .int .i64 2] 3)).alloc (.cells #[.int .i64 12, .int .i64 4, .int .i64 5, .int .i64 9, .int .i64 9, .int .i64 9, .int .i64 9] 3)).alloc (.cells #[.int .i64 12, .int .i64 512, .int .i64 513, .int .i64 9] 3)).alloc (.cells #[.int .i64 13, .int .i64 0, .int .i64 4, .int .i64 4, .int .i64 5, .int .i64 9] 3)).alloc (.cells #[.int .i64 3, .int .i64 1023, .int .i64 1024, .int .i64 2] 3)).alloc (.cells #[.slice (some ⟨w.heap.size, 0, none⟩) 5 5, .slice (some ⟨w.heap.size + 1, 0, none⟩) 4 4, .slice (some ⟨w.heap.size + 1 + 1, 0, none⟩) 3 3, .slice (some ⟨w.heap.size + 1 + 1 + 1, 0, none⟩) 5 5, .slice (some ⟨w.heap.size + 1 + 1 + 1 + 1, 0, none⟩) 4 4, .slice (some ⟨w.heap.size + 1 + 1 + 1 + 1 + 1, 0, none⟩) 5 5, .slice (some ⟨w.heap.size + 1 + 1 + 1 + 1 + 1 + 1, 0, none⟩) 4 4, .slice (some ⟨w.heap.size + 1 + 1 + 1 + 1 + 1 + 1 + 1, 0, none⟩) 4 4, .slice (some ⟨w.heap.size + 1 + 1 + 1 + 1 + 1 + 1 + 1 + 1, 0, none⟩) 3 3, .slice (some ⟨w.heap.size + 1 + 1 + 1 + 1 + 1 + 1 + 1 + 1 + 1, 0, none⟩) 4 4, .slice (some ⟨w.heap.size + 1 + 1 + 1 + 1 + 1 + 1 + 1 + 1 + 1 + 1, 0, none⟩) 4 4, .slice (some ⟨w.heap.size + 1 + 1 + 1 + 1 + 1 + 1 + 1 + 1 + 1 + 1 + 1, 0, none⟩) 5 5, .slice (some ⟨w.heap.size + 1 + 1 + 1 + 1 + 1 + 1 + 1 + 1 + 1 + 1 + 1 + 1, 0, none⟩) 5 5, .slice (some ⟨w.heap.size + 1 + 1 + 1 + 1 + 1 + 1 + 1 + 1 + 1 + 1 + 1 + 1 + 1, 0, none⟩) 5 5, .slice (some ⟨w.heap.size + 1 + 1 + 1 + 1 + 1 + 1 + 1 + 1 + 1 + 1 + 1 + 1 + 1 + 1, 0, none⟩) 7 7, .slice (some ⟨w.heap.size + 1 + 1 + 1 + 1 + 1 + 1 + 1 + 1 + 1 + 1 + 1 + 1 + 1 + 1 + 1, 0, none⟩) 8 8, .slice (some ⟨w.heap.size + 1 + 1 + 1 + 1 + 1 + 1 + 1 + 1 + 1 + 1 + 1 + 1 + 1 + 1 + 1 + 1, 0, none⟩) 7 7, .slice (some ⟨w.heap.size + 1 + 1 + 1 + 1 + 1 + 1 + 1 + 1 + 1 + 1 + 1 + 1 + 1 + 1 + 1 + 1 + 1, 0, none⟩) 4 4, .slice (some ⟨w.heap.size + 1 + 1 + 1 + 1 + 1 + 1 + 1 + 1 + 1 + 1 + 1 + 1 + 1 + 1 + 1 + 1 + 1 + 1, 0, none⟩) 6 6, .slice (some ⟨w.heap.size + 1 + 1 + 1 + 1 + 1 + 1 + 1 + 1 + 1 + 1 + 1 + 1 + 1 + 1 + 1 + 1 + 1 + 1 + 1, 0, none⟩) 4 4] 26) = W2 := ⟨_, rfl⟩
  have hA : allocs w (objs w.heap.size) = W2 := hW2
  have HRT : Hid (RT W2 w.heap.size) := by show RT _ _; rw [← hA]; exact rt_objs w
  have HO : Hid (Out 0 0 w W2) := by show Out _ _ _ _; rw [← hA]; exact allocs_out _ _
  have HT := hid_mk (hT.quiet HO.out)
  clear hA hT
  go_enter Tryd.func8, Tryd.ntmps8
  go_wp2_with fail
  obtain ⟨G, hG⟩ : ∃ G, w.heap.size + 1 + 1 + 1 + 1 + 1 + 1 + 1 + 1 + 1 + 1 + 1 + 1 + 1 + 1 + 1 + 1 + 1 + 1 + 1 + 1 = G := ⟨_, rfl⟩
  rw [hG]
  have HG : Hid (G = w.heap.size + 20) := by show G = _; omega
  clear hG hW2
  generalize Value.slice (some ⟨w.heap.size, 0, none⟩) 5 5 = s0
  generalize Value.slice (some ⟨w.heap.size + 1, 0, none⟩) 4 4 = s1
  generalize Value.slice (some ⟨w.heap.size + 1 + 1, 0, none⟩) 3 3 = s2
  generalize Value.slice (some ⟨w.heap.size + 1 + 1 + 1, 0, none⟩) 5 5 = s3
  generalize Value.slice (some ⟨w.heap.size + 1 + 1 + 1 + 1, 0, none⟩) 4 4 = s4
  generalize Value.slice (some ⟨w.heap.size + 1 + 1 + 1 + 1 + 1, 0, none⟩) 5 5 = s5
  generalize Value.slice (some ⟨w.heap.size + 1 + 1 + 1 + 1 + 1 + 1, 0, none⟩) 4 4 = s6
  generalize Value.slice (some ⟨w.heap.size + 1 + 1 + 1 + 1 + 1 + 1 + 1, 0, none⟩) 4 4 = s7
  generalize Value.slice (some ⟨w.heap.size + 1 + 1 + 1 + 1 + 1 + 1 + 1 + 1, 0, none⟩) 3 3 = s8
  generalize Value.slice (some ⟨w.heap.size + 1 + 1 + 1 + 1 + 1 + 1 + 1 + 1 + 1, 0, none⟩) 4 4 = s9
  generalize Value.slice (some ⟨w.heap.size + 1 + 1 + 1 + 1 + 1 + 1 + 1 + 1 + 1 + 1, 0, none⟩) 4 4 = s10
  generalize Value.slice (some ⟨w.heap.size + 1 + 1 + 1 + 1 + 1 + 1 + 1 + 1 + 1 + 1 + 1, 0, none⟩) 5 5 = s11
  generalize Value.slice (some ⟨w.heap.size + 1 + 1 + 1 + 1 + 1 + 1 + 1 + 1 + 1 + 1 + 1 + 1, 0, none⟩) 5 5 = s12
  generalize Value.slice (some ⟨w.heap.size + 1 + 1 + 1 + 1 + 1 + 1 + 1 + 1 + 1 + 1 + 1 + 1 + 1, 0, none⟩) 5 5 = s13
  generalize Value.slice (some ⟨w.heap.size + 1 + 1 + 1 + 1 + 1 + 1 + 1 + 1 + 1 + 1 + 1 + 1 + 1 + 1, 0, none⟩) 7 7 = s14
  generalize Value.slice (some ⟨w.heap.size + 1 + 1 + 1 + 1 + 1 + 1 + 1 + 1 + 1 + 1 + 1 + 1 + 1 + 1 + 1, 0, none⟩) 8 8 = s15
  generalize Value.slice (some ⟨w.heap.size + 1 + 1 + 1 + 1 + 1 + 1 + 1 + 1 + 1 + 1 + 1 + 1 + 1 + 1 + 1 + 1, 0, none⟩) 7 7 = s16
  generalize Value.slice (some ⟨w.heap.size + 1 + 1 + 1 + 1 + 1 + 1 + 1 + 1 + 1 + 1 + 1 + 1 + 1 + 1 + 1 + 1 + 1, 0, none⟩) 4 4 = s17
  generalize Value.slice (some ⟨w.heap.size + 1 + 1 + 1 + 1 + 1 + 1 + 1 + 1 + 1 + 1 + 1 + 1 + 1 + 1 + 1 + 1 + 1 + 1, 0, none⟩) 6 6 = s18
  generalize Value.slice (some ⟨w.heap.size + 1 + 1 + 1 + 1 + 1 + 1 + 1 + 1 + 1 + 1 + 1 + 1 + 1 + 1 + 1 + 1 + 1 + 1 + 1, 0, none⟩) 4 4 = s19
  go_loopw [2] (fun x wr => ∃ i : Nat, i ≤ 20 ∧ x = .int .i64 i ∧ Out 0 0 W2 wr) (fun x _ => 20 - (intOf x).toNat)
  case atStart => exact ⟨0, by omega, rfl, Out.refl _ _ _⟩
  case round =>
    obtain ⟨i, i1, rfl, ho⟩ := hrel
    have HOr := hid_mk ho
    by_cases hi : i < 20
    · have c0 := ((HRT.out.kept ho) i hi).1
      rw [← HG.out] at c0
      obtain ⟨t1, t2, t3, t4, t5⟩ := tab_nums ⟨i, hi⟩
      simp only at t1 t2 t3 t4 t5
      have HC : Hid (∀ W', Out 0 0 W2 W' → ∀ j, j < ln i → W'.cell? ⟨w.heap.size + i, j, none⟩ = some (.int .i64 (rw6 i j))) := fun W' o => ((HRT.out.kept o) i hi).2
      have HS := hid_mk (fun w (h : Tab w) => size_any (rw6 i 0) (rw6 i 1) h)
      rw [t3, t4] at HS
      have HR : Hid (∀ (j : Nat), 3 ≤ j → j < ln i → ∀ w, Tab w → Calls Tryd.prog 22 #[.int .i64 (rw6 i 0), .int .i64 (rw6 i 2), .int .i64 ((j : Int) - 2)] w fun e w' => e = .returned (.int .i64 (rw6 i j)) ∧ w' = w) := fun j h3 hl w hT => by
        have := roles_any (rw6 i 0) (rw6 i 2) ((j : Int) - 2) hT (by omega) (by omega)
        rw [tab_roles ⟨i, hi⟩ ⟨j, by omega⟩ h3 hl] at this
        exact this
      have HC0 : Hid (∀ W', Out 0 0 W2 W' → W'.cell? ⟨w.heap.size + i, 0, none⟩ = some (.int .i64 (rw6 i 0))) := fun W' o => HC.out W' o 0 (by omega)
      have x0 := HC.out wr ho 0 (by omega)
      have x1 := HC.out wr ho 1 (by omega)
      have x2 := HC.out wr ho 2 (by omega)
      have HTr := hid_mk (HT.out.quiet ho)
      generalize hP : w.heap.size + i = P at *
      generalize ha0 : (rw6 i 0 : Int) = a0 at *
      generalize ha1 : (rw6 i 1 : Int) = a1 at *
      generalize ha2 : (rw6 i 2 : Int) = a2 at *
      generalize hL : ln i = L at *
      have l1 : (0 : Int) < (L : Int) := by omega
      have l3 : (1 : Int) < (L : Int) := by omega
      have l4 : (2 : Int) < (L : Int) := by omega
      have n1 : 0 < L := by omega
      have n2 : 1 < L := by omega
      have n3 : 2 < L := by omega
      have HL3 : Hid (3 ≤ L) := by show 3 ≤ L; omega
      have l2 : (L : Int) ≤ 8 := by omega
      have j0 : (0 : Int) ≤ (i : Int) := by omega
      have j1 : (i : Int) < 20 := by omega
      have e2 : (a2 != a2) = false := by simp
      clear t1 t2 t3 t4 t5 ho hP ha0 ha1 ha2 hL
      go_wp2_with fail
      go_region_held3 (fun w' => w'.cell? ⟨P, 0, none⟩ = some (.int .i64 a0) ∧ w'.cell? ⟨P, 1, none⟩ = some (.int .i64 a1) ∧ w'.cell? ⟨P, 2, none⟩ = some (.int .i64 a2)) (go_keep)
        (first | (go_at_call 18; refine calls_same (HS.out _ (by exact HTr.out.drew)) ?_))
      have hO1 : Out 0 0 W2 wr.drew := HOr.out.drew
      have HO1 := hid_mk hO1
      clear hO1
      all_goals go_wp2_with fail
      go_loopw [6] (fun y w1 => ∃ j : Nat, 3 ≤ j ∧ j ≤ L ∧ y = .int .i64 j ∧ Out 0 0 W2 w1) (fun y _ => L - (intOf y).toNat)
      case atStart => exact ⟨3, by omega, HL3.out, rfl, HO1.out⟩
      case round =>
        clear x0 x1 x2 c0
        obtain ⟨j, g1, g2, rfl, hoj⟩ := hrel
        have HOj := hid_mk hoj
        by_cases hj : j < L
        · have y0 := HC0.out wr hoj
          have yj := HC.out wr hoj j hj
          have HRj := hid_mk (HR.out j g1 hj)
          have HTj := hid_mk (HT.out.quiet hoj)
          generalize (rw6 i j : Int) = aj at *
          have ej : (aj != aj) = false := by simp
          have p0 : (0 : Int) ≤ (j : Int) := by omega
          have p1 : (j : Int) < (L : Int) := by omega
          have p2 : (3 : Int) ≤ (j : Int) := by omega
          have HW2 : Hid (IntKind.i64.wrap ((j : Int) - 2) = (j : Int) - 2) := by show IntKind.wrap _ _ = _; simp [IntKind.wrap, IntKind.signed, IntKind.bits]; omega
          clear hoj
          go_wp2_with fail
          go_region_held3 (fun w' => w'.cell? ⟨P, 0, none⟩ = some (.int .i64 a0) ∧ w'.cell? ⟨P, j, none⟩ = some (.int .i64 aj)) (go_keep)
            (first | (go_at_call 22; rw [HW2.out]; refine calls_same (HRj.out _ (by exact HTj.out.drew)) ?_))
          all_goals go_wp2
          all_goals go_roundw
          case rel => exact ⟨j + 1, by omega, by omega, by go_num, HOj.out.drew⟩
          case measure => simp [intOf]; omega
        · have : j = L := by omega
          subst this
          clear hoj
          go_wp2
          go_roundw
          case rel => exact ⟨i + 1, by omega, by go_num, HOj.out⟩
          case measure => simp [intOf]; omega
    · have : i = 20 := by omega
      subst this
      clear ho
      rw [show ((20 : Nat) : Int) = 20 from rfl]
      go_wp2_with fail
      go_loopw [7] (fun y w1 => ∃ k : Nat, k ≤ 15 ∧ y = .int .i64 k ∧ Out 0 0 W2 w1) (fun y _ => 15 - (intOf y).toNat)
      case atStart => exact ⟨0, by omega, rfl, HOr.out⟩
      case round =>
        clear HOr
        obtain ⟨k, k1, rfl, hok⟩ := hrel
        have HOr := hid_mk hok
        clear hok
        by_cases hk : k ≤ 14
        · have HV := hid_mk (visible_any k)
          have HN := hid_mk (numbered_any k)
          have k2 : (k : Int) ≤ 14 := by omega
          have kc : k < 1 ∨ (1 ≤ k ∧ k ≤ 10) ∨ k = 11 ∨ 11 < k := by omega
          rcases kc with h | ⟨h, h'⟩ | h | h
          · have d1 : decide (1 ≤ (k : Int)) = false := by simp; omega
            rw [d1, Bool.false_and] at HV HN
            go_wp2_with (first | (go_at_call 20; refine calls_same (HV.out _) ?_) | (go_at_call 21; refine calls_same (HN.out _) ?_))
            go_roundw
            case rel => exact ⟨k + 1, by omega, by go_num, HOr.out⟩
            case measure => simp [intOf]; omega
          · have d1 : decide (1 ≤ (k : Int)) = true := by simp; omega
            have d2 : decide ((k : Int) ≤ 10) = true := by simp; omega
            have d3 : decide ((k : Int) ≤ 11) = true := by simp; omega
            rw [d1, d2, Bool.true_and] at HV
            rw [d1, d3, Bool.true_and] at HN
            go_wp2_with (first | (go_at_call 20; refine calls_same (HV.out _) ?_) | (go_at_call 21; refine calls_same (HN.out _) ?_))
            go_roundw
            case rel => exact ⟨k + 1, by omega, by go_num, HOr.out⟩
            case measure => simp [intOf]; omega
          · subst h
            rw [show (decide (1 ≤ ((11 : Nat) : Int)) && decide (((11 : Nat) : Int) ≤ 10)) = false from rfl, show ((11 : Nat) : Int) = 11 from rfl] at HV
            rw [show (decide (1 ≤ ((11 : Nat) : Int)) && decide (((11 : Nat) : Int) ≤ 11)) = true from rfl, show ((11 : Nat) : Int) = 11 from rfl] at HN
            rw [show ((11 : Nat) : Int) = 11 from rfl]
            go_wp2_with (first | (go_at_call 20; refine calls_same (HV.out _) ?_) | (go_at_call 21; refine calls_same (HN.out _) ?_))
            go_roundw
            case rel => exact ⟨12, by omega, by go_num, HOr.out⟩
            case measure => simp [intOf]
          · have d1 : decide (1 ≤ (k : Int)) = true := by simp; omega
            have d2 : decide ((k : Int) ≤ 10) = false := by simp; omega
            have d3 : decide ((k : Int) ≤ 11) = false := by simp; omega
            rw [d1, d2, Bool.true_and] at HV
            rw [d1, d3, Bool.true_and] at HN
            go_wp2_with (first | (go_at_call 20; refine calls_same (HV.out _) ?_) | (go_at_call 21; refine calls_same (HN.out _) ?_))
            go_roundw
            case rel => exact ⟨k + 1, by omega, by go_num, HOr.out⟩
            case measure => simp [intOf]; omega
        · have : k = 15 := by omega
          subst this
          go_wp2
          go_ret
          exact ⟨rfl, HO.out.trans HOr.out⟩
end Go.Proofs.YtoajgbgmiionpaaDoor
