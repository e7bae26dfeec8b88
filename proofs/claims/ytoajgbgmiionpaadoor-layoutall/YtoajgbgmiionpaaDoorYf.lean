/- the document's own: rows, heads -/
import Derived.Test.YtoajgbgmiionpaaDoorYe
namespace Go.Proofs.YtoajgbgmiionpaaDoor
open Go.RowKit
set_option linter.unusedVariables false
set_option linter.unusedSimpArgs false

def firstL (j : Nat) : List Nat := [[], [2, 2], [2], [], [1], [1], [], [6], [3, 2], [4, 5], [1, 8], [6, 7, 1, 1], [], [4, 5, 9]].getD j []
def restV (j : Nat) : Int := [0, 0, 0, 2, 1, 0, 2, 0, 0, 0, 0, 2, 9, 0].getD j 0
def leastV (j : Nat) : Int := if j = 12 then 4 else 0
def perV (j : Nat) : Int := [0, 0, 0, 1, 8, 0, 1, 0, 0, 0, 0, 1, 1, 0].getD j 0
def rowV (f : Value) (a b c d : Int) : Array Value := #[f, .int .i64 a, .int .i64 b, .int .i64 c, .int .i64 d]
theorem info5 (f : Value) (a b c d : Int) : (Tryd.prog.info? 47).map (·.size) = some (rowV f a b c d).size := by rw [show (rowV f a b c d).size = 5 from rfl]; kernel_rfl
theorem retRow {fn : Func} {p : Tmp} {a : Act} {w : World} {g : Nat} {f : Value} {x y z u : Int} {post : Ending → World → Prop} (hr : fn.results = #[.cell p 47]) (hp : a.tmps.getD p undef = .pointer (some ⟨g, 0, none⟩))
    (hd : a.defers = []) (hg : w.heap[g]? = some (.cells (rowV f x y z u) 47 (0, 0))) (h : post (.returned (.agg (rowV f x y z u))) w) : bodyPost Tryd.prog fn post Exit.ret a w :=
  bodyPost_ret (v := .agg (rowV f x y z u)) (results_cell_row hr a.tmps _ g 47 _ (0, 0) _ hp hg Tryd.underlying47 rfl (info5 f x y z u)) hd h
theorem list_new {w : World} {base n : Nat} {cur : Array Value} {l : List Nat} (h : cur.toList = ints l) (hn : n = l.length) (hb : base ≤ w.heap.size) (hm : n ≤ 1000) : ListIs (w.alloc (.cells cur 3)) base (.slice (some ⟨w.heap.size, 0, none⟩) n n) l := by
  have hc : cur.size = n := by rw [← Array.length_toList, h, hn]; simp [ints]
  refine ⟨by simp [ints], .inr ⟨w.heap.size, n, cur, by rw [hn], hb, heap_alloc_new _ _, by omega, by unfold maxLen; omega, by omega, ?_⟩⟩
  rw [h, List.take_of_length_le]
  simp [ints]
theorem rowPut {w : World} {o o2 : Obj} : ((w.alloc o).alloc o2).heap[w.heap.size]? = some o := by
  rw [heap_alloc_old _ _ (by simp)]
  exact heap_alloc_new w o
/-- what a row's call leaves -/
def RowSaid (w : World) (j : Nat) (e : Ending) (w' : World) : Prop := ∃ f, e = .returned (.agg (rowV f (restV j) (leastV j) (mo j) (perV j))) ∧ ListIs w' w.heap.size f (firstL j) ∧ Out 0 0 w w'
theorem row_some {w : World} {a : Act} {cur : Array Value} {n j : Nat} {x y z u : Int} (hp : a.tmps.getD 2 undef = .pointer (some ⟨w.heap.size, 0, none⟩)) (hd : a.defers = []) (hc : cur.toList = ints (firstL j)) (hn : n = (firstL j).length) (hm : n ≤ 1000)
    (h1 : x = restV j) (h2 : y = leastV j) (h3 : z = mo j) (h4 : u = perV j) :
    bodyPost Tryd.prog Tryd.f32 (RowSaid w j) Exit.ret a ((w.alloc (.cells (rowV (.slice (some ⟨w.heap.size + 1, 0, none⟩) n n) x y z u) 47)).alloc (.cells cur 3)) := by
  subst h1 h2 h3 h4
  refine retRow Tryd.results32 hp hd rowPut ⟨_, rfl, ?_, ((Out.refl _ _ _).alloc _).alloc _⟩
  have := list_new (w := w.alloc (.cells (rowV (.slice (some ⟨w.heap.size + 1, 0, none⟩) n n) (restV j) (leastV j) (mo j) (perV j)) 47)) (base := w.heap.size) hc hn (by simp) hm
  simpa using this
theorem row_none {w : World} {a : Act} {j : Nat} {x y z u : Int} (hp : a.tmps.getD 2 undef = .pointer (some ⟨w.heap.size, 0, none⟩)) (hd : a.defers = []) (hc : firstL j = [])
    (h1 : x = restV j) (h2 : y = leastV j) (h3 : z = mo j) (h4 : u = perV j) :
    bodyPost Tryd.prog Tryd.f32 (RowSaid w j) Exit.ret a (w.alloc (.cells (rowV (.slice none 0 0) x y z u) 47)) := by
  subst h1 h2 h3 h4
  refine retRow Tryd.results32 hp hd (heap_alloc_new _ _) ⟨_, rfl, ?_, (Out.refl _ _ _).alloc _⟩
  rw [hc]
  exact ListIs.nil _ _
set_option maxHeartbeats 1000000 in
theorem row_any {j : Nat} (h1 : 1 ≤ j) (h2 : j ≤ 13) (w : World) : Calls Tryd.prog 32 #[.int .i64 j] w (RowSaid w j) := by
  rcases kinds h1 h2 with rfl | rfl | rfl | rfl | rfl | rfl | rfl | rfl | rfl | rfl | rfl | rfl | rfl
  all_goals
    clear h1 h2
    first | rw [show ((1 : Nat) : Int) = 1 from rfl] | rw [show ((2 : Nat) : Int) = 2 from rfl] | rw [show ((3 : Nat) : Int) = 3 from rfl] | rw [show ((4 : Nat) : Int) = 4 from rfl] | rw [show ((5 : Nat) : Int) = 5 from rfl] | rw [show ((6 : Nat) : Int) = 6 from rfl] | rw [show ((7 : Nat) : Int) = 7 from rfl] | rw [show ((8 : Nat) : Int) = 8 from rfl] | rw [show ((9 : Nat) : Int) = 9 from rfl] | rw [show ((10 : Nat) : Int) = 10 from rfl] | rw [show ((11 : Nat) : Int) = 11 from rfl] | rw [show ((12 : Nat) : Int) = 12 from rfl] | rw [show ((13 : Nat) : Int) = 13 from rfl]
    go_enter Tryd.func32, Tryd.ntmps32
    go_wp2
    first
    | exact row_some rfl rfl rfl rfl (by decide) rfl rfl rfl rfl
    | exact row_none rfl rfl rfl rfl rfl rfl rfl
def pow2 (y : Int) : Prop := y = 4 ∨ y = 8 ∨ y = 16 ∨ y = 32 ∨ y = 64 ∨ y = 128 ∨ y = 256 ∨ y = 512
theorem pow2_le {y : Int} (h : pow2 y) : 4 ≤ y ∧ y ≤ 512 := by unfold pow2 at h; omega
theorem pow2_next {y : Int} (h : pow2 y) (h2 : y < 512) : pow2 (y + y) := by unfold pow2 at *; omega
theorem spine_iff {n : Int} : spineB n = true ↔ pow2 n := by unfold spineB pow2; simp [or_assoc]
theorem spine_end (n y : Int) (h : pow2 y) (h2 : n ≤ y ∨ 512 ≤ y) (h3 : y = 4 ∨ y < n * 2) : (y == n) = spineB n := by
  rw [Bool.eq_iff_iff, spine_iff, beq_iff_eq]
  unfold pow2 at *
  omega
set_option maxHeartbeats 1000000 in
theorem heads_any (n : Int) (w : World) : Calls Tryd.prog 33 #[.int .i64 n] w fun e w' => e = .returned (.bool (spineB n)) ∧ w' = w := by
  have E := hid_mk (spine_end n)
  generalize spineB n = b at *
  go_enter Tryd.func33, Tryd.ntmps33
  go_wp2
  go_loopw [3] (fun x wr => ∃ y : Int, x = .int .i64 y ∧ pow2 y ∧ (y = 4 ∨ y < n * 2) ∧ wr = w) (fun x _ => (512 - intOf x).toNat)
  case atStart => exact ⟨4, rfl, .inl rfl, .inl rfl, rfl⟩
  case round =>
    obtain ⟨y, rfl, hp, hy, rfl⟩ := hrel
    obtain ⟨p1, p2⟩ := pow2_le hp
    have HP := hid_mk hp
    clear hp
    by_cases h1 : y < n
    · by_cases h2 : y < 512
      · go_wp2
        go_roundw
        case rel => exact ⟨y + y, rfl, pow2_next HP.out h2, .inr (by omega), trivial⟩
        case measure => simp [intOf]; omega
      · have hr := E.out y HP.out (by omega) hy
        go_wp2
        go_ret
        exact ⟨rfl, rfl⟩
    · have hr := E.out y HP.out (by omega) hy
      go_wp2
      go_ret
      exact ⟨rfl, rfl⟩
end Go.Proofs.YtoajgbgmiionpaaDoor
