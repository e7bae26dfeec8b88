import Derived.Test.YtcpignkjlnjjmaaGreatDoorNa01
import Derived.ProofKit
import Derived.OpenShut
import Derived.Test.YtcpignkjlnjjmaaGreatDoorNa00
namespace Go.Proofs.YtcpignkjlnjjmaaGreatDoor
open Go.RowKit
set_option linter.unusedVariables false
set_option linter.unusedSimpArgs false

def putA (S : Nat → Int × Int × Int) (p k : Nat) (x : Int × Int × Int) : Nat → Int × Int × Int := fun j => if p ≤ j ∧ j < p + k then x else S j
theorem putA_zero (S : Nat → Int × Int × Int) (p : Nat) (x : Int × Int × Int) : putA S p 0 x = S := by funext j; unfold putA; rw [if_neg (by omega)]
theorem putA_step (S : Nat → Int × Int × Int) (p i : Nat) (x : Int × Int × Int) : setP (putA S p i x) (p + i) x = putA S p (i + 1) x := by
  funext j
  unfold setP putA
  by_cases e : j = p + i
  · rw [if_pos e, if_pos (by omega)]
  · rw [if_neg e]
    by_cases h : p ≤ j ∧ j < p + i
    · rw [if_pos h, if_pos (by omega)]
    · rw [if_neg h, if_neg (by omega)]
theorem box3 {w : World} {X : Nat} {x y z : Int} {T : TypeId} (h : w.heap[X]? = some (.cells #[.int .i64 x, .int .i64 y, .int .i64 z] T (0, 0))) :
    w.cell? ⟨X, 0, none⟩ = some (.int .i64 x) ∧ w.cell? ⟨X, 1, none⟩ = some (.int .i64 y) ∧ w.cell? ⟨X, 2, none⟩ = some (.int .i64 z) := by
  simp [World.cell?, h]
set_option maxRecDepth 100000 in
set_option maxHeartbeats 4000000 in
theorem fill_any {w : World} {bw n p k cap : Nat} {S : Nat → Int × Int × Int} (hr : PRow w bw n S) (hpk : p + k ≤ n) (hn : n ≤ 4096) (x y z : Int) :
    Calls Tryz.prog 108 #[.slice (some ⟨bw, p * 3, none⟩) k cap, .agg #[.int .i64 x, .int .i64 y, .int .i64 z]] w fun e w' => e = .returned (.tuple #[]) ∧ PRow w' bw n (putA S p k (x, y, z)) ∧ Out bw (bw + 1) w w' := by
  have HP : Hid (p + k ≤ n ∧ n ≤ 4096) := ⟨hpk, hn⟩
  have HL : Hid (bw < w.heap.size) := Row.lt hr
  have HR1 : Hid (PRow (w.alloc (.cells #[.int .i64 x, .int .i64 y, .int .i64 z] 119)) bw n (putA S p 0 (x, y, z))) := by
    rw [putA_zero]; exact hr.kept ((Out.refl 0 0 _).alloc _) (.inr (Nat.zero_le _))
  have HO1 : Hid (Out bw (bw + 1) w (w.alloc (.cells #[.int .i64 x, .int .i64 y, .int .i64 z] 119))) := (Out.refl _ _ _).alloc _
  have HX : Hid ((w.alloc (.cells #[.int .i64 x, .int .i64 y, .int .i64 z] 119)).heap[w.heap.size]? = some (.cells #[.int .i64 x, .int .i64 y, .int .i64 z] 119 (0, 0))) := heap_alloc_new _ _
  obtain ⟨X, hX⟩ : ∃ X, w.heap.size = X := ⟨_, rfl⟩
  obtain ⟨W, hW⟩ : ∃ W, w.alloc (.cells #[.int .i64 x, .int .i64 y, .int .i64 z] 119) = W := ⟨_, rfl⟩
  rw [hX] at HX HL
  rw [hW] at HX HR1 HO1
  clear hr hpk hn
  go_enter Tryz.func108, Tryz.ntmps108
  go_wp2_with fail
  clear hX hW
  go_loopw [7] (fun u wr => ∃ i : Nat, i ≤ k ∧ u = .int .i64 i ∧ PRow wr bw n (putA S p i (x, y, z)) ∧ Out bw (bw + 1) w wr ∧ wr.heap[X]? = some (.cells #[.int .i64 x, .int .i64 y, .int .i64 z] 119 (0, 0))) (fun u _ => k - (intOf u).toNat)
  case atStart => exact ⟨0, Nat.zero_le _, rfl, HR1.out, HO1.out, HX.out⟩
  case round =>
    clear HR1 HO1 HX
    obtain ⟨i, i1, rfl, hr, ho, hx⟩ := hrel
    have HR := hid_mk hr
    have HO := hid_mk ho
    have HX := hid_mk hx
    have b0 : (0 : Int) ≤ (i : Int) := by omega
    by_cases hi : i < k
    · have b1 : (i : Int) < (k : Int) := by omega
      have b2 : (k : Int) ≤ 4096 := by have := HP.out; omega
      obtain ⟨u0, v0, t0, hp⟩ := page_of (putA S p i (x, y, z) (p + i))
      obtain ⟨q0, q1, q2⟩ := hr.page (by have := HP.out; omega) hp
      have fz0 := Row.frozen hr ((p + i) * 3)
      have fz1 := Row.frozen hr ((p + i) * 3 + 1)
      have fz2 := Row.frozen hr ((p + i) * 3 + 2)
      obtain ⟨x0, x1, x2⟩ := box3 hx
      have hr2 := hr.set (p + i) x y z
      rw [putA_step] at hr2
      have ho2 := ho.set3 (b := bw) (o := (p + i) * 3) (.inl ⟨Nat.le_refl _, Nat.lt_succ_self _⟩) (.int .i64 x) (.int .i64 y) (.int .i64 z)
      have hx2 : (((wr.setCell ⟨bw, (p + i) * 3, none⟩ (.int .i64 x)).setCell ⟨bw, (p + i) * 3 + 1, none⟩ (.int .i64 y)).setCell ⟨bw, (p + i) * 3 + 2, none⟩ (.int .i64 z)).heap[X]? = some (.cells #[.int .i64 x, .int .i64 y, .int .i64 z] 119 (0, 0)) := by
        have hne : X ≠ bw := by have := HL.out; omega
        rw [Below.heap_setCell _ _ _ _ hne, Below.heap_setCell _ _ _ _ hne, Below.heap_setCell _ _ _ _ hne]
        exact hx
      rw [Nat.add_mul] at q0 q1 q2 fz0 fz1 fz2 hr2 ho2 hx2
      have HR2 := hid_mk hr2
      have HO2 := hid_mk ho2
      have HX2 := hid_mk hx2
      clear hr ho hx hr2 ho2 hx2 hp HR HO HX
      go_wp2
      go_roundw
      case rel => exact ⟨i + 1, by omega, by go_num, HR2.out, HO2.out, HX2.out⟩
      case measure => simp [intOf]; omega
    · have : i = k := by omega
      subst this
      clear hr ho hx hi HX
      go_wp2
      exact bodyPost_end (results_none Tryz.results108 _ _ _) rfl ⟨rfl, HR.out, HO.out⟩

/-! the words of a class's blocks -/
def row8 : Array Value := #[.int .i64 2, .int .i64 4, .int .i64 6, .int .i64 8, .int .i64 12, .int .i64 16, .int .i64 20, .int .i64 32]
theorem info8 : (Tryz.prog.info? 63).map (·.size) = some row8.size := by kernel_rfl
theorem ret8 {fn : Func} {p : Tmp} (hr : fn.results = #[.cell p 63]) {a : Act} {w : World} {g : Nat} {post : Ending → World → Prop} (hp : a.tmps.getD p undef = .pointer (some ⟨g, 0, none⟩))
    (hd : a.defers = []) (b : w.heap[g]? = some (.cells row8 63 (0, 0))) (h : post (.returned (.agg row8)) w) : bodyPost Tryz.prog fn post Exit.ret a w :=
  bodyPost_ret (v := .agg row8) (results_cell_row hr a.tmps w g 63 row8 (0, 0) _ hp b Tryz.underlying63 rfl info8) hd h
theorem sizes_any (w : World) : Calls Tryz.prog 102 #[] w fun e w' => e = .returned (.agg #[.int .i64 2, .int .i64 4, .int .i64 6, .int .i64 8, .int .i64 12, .int .i64 16, .int .i64 20, .int .i64 32]) ∧ Out 0 0 w w' := by
  go_enter Tryz.func102, Tryz.ntmps102
  go_wp2
  exact ret8 (g := w.heap.size) rfl rfl rfl (heap_alloc_new _ _) ⟨rfl, (Out.refl _ _ _).alloc _⟩
def wordsV (c : Int) : Int := if c = 0 then 2 else if c = 1 then 4 else if c = 2 then 6 else if c = 3 then 8 else if c = 4 then 12 else if c = 5 then 16 else if c = 6 then 20 else if c = 7 then 32 else 0
theorem index8 (cs : Array Value) (i : Int) (k : Nat) (v : Value) (hi : i = k) (h : k < 8) (hv : cs[k]? = some v) (w : World) : (Instr.index 63 (.agg cs) (.int .i64 i)).run Tryz.prog w = .ok v w := by
  subst hi
  simp [Instr.index, run_underlying Tryz.underlying63, asIntOf, h, hv, go_sem]
theorem index8n (i : Nat) (h : i < 8) (w : World) : (Instr.index 63 (.agg #[.int .i64 2, .int .i64 4, .int .i64 6, .int .i64 8, .int .i64 12, .int .i64 16, .int .i64 20, .int .i64 32]) (.int .i64 i)).run Tryz.prog w = .ok (.int .i64 (wordsV i)) w := by
  refine index8 _ _ i _ rfl h ?_ w
  have hi : i = 0 ∨ i = 1 ∨ i = 2 ∨ i = 3 ∨ i = 4 ∨ i = 5 ∨ i = 6 ∨ i = 7 := by omega
  rcases hi with rfl | rfl | rfl | rfl | rfl | rfl | rfl | rfl <;> rfl
theorem wordsV_in {k : Nat} (h : k < 8) : (wordsV (k : Int) == 0) = false := by
  have hi : k = 0 ∨ k = 1 ∨ k = 2 ∨ k = 3 ∨ k = 4 ∨ k = 5 ∨ k = 6 ∨ k = 7 := by omega
  rcases hi with rfl | rfl | rfl | rfl | rfl | rfl | rfl | rfl <;> rfl
theorem words_any (c : Int) (w : World) : Calls Tryz.prog 104 #[.int .i64 c] w fun e w' => ∃ v : Int, e = .returned (.int .i64 v) ∧ (v == 0) = !classB c ∧ Out 0 0 w w' := by
  by_cases hc : 0 ≤ c ∧ c < 8
  · obtain ⟨h1, h2⟩ := hc
    obtain ⟨k, rfl⟩ : ∃ k : Nat, c = k := ⟨c.toNat, by omega⟩
    have hi := index8n k (by omega)
    have HC : Hid ((wordsV (k : Int) == 0) = !classB (k : Int)) := by
      show _ = _
      rw [wordsV_in (by omega), show classB (k : Int) = true from by unfold classB; simp; omega]; rfl
    have HS := hid_mk (sizes_any w)
    generalize classB (k : Int) = q at *
    generalize wordsV (k : Int) = u at *
    go_enter Tryz.func104, Tryz.ntmps104
    go_wp2_with (go_at_call 102; refine HS.out.mono ?_; rintro e w1 ⟨rfl, hg⟩)
    go_ret
    exact ⟨u, rfl, HC.out, hg⟩
  · have hc : c < 0 ∨ 8 ≤ c := by omega
    have e : classB c = false := by unfold classB; simp; omega
    rw [e]
    rcases hc with h | h
    all_goals
      go_enter Tryz.func104, Tryz.ntmps104
      go_wp2
      go_ret
      exact ⟨0, rfl, rfl, Out.refl _ _ _⟩
/-! a page as an answer -/
def pgV (p : Int × Int × Int) : Value := .agg #[.int .i64 p.1, .int .i64 p.2.1, .int .i64 p.2.2]
theorem info3 (x y z : Int) : (Tryz.prog.info? 119).map (·.size) = some (#[Value.int .i64 x, .int .i64 y, .int .i64 z]).size := by
  rw [show (#[Value.int .i64 x, .int .i64 y, .int .i64 z]).size = 3 from rfl]; kernel_rfl
theorem retPage2 {fn : Func} {p u : Tmp} {a : Act} {w : World} {g : Nat} {x y z : Int} {v : Value} {post : Ending → World → Prop} (hr : fn.results = #[.cell p 119, .tmp u]) (hp : a.tmps.getD p undef = .pointer (some ⟨g, 0, none⟩)) (hu : a.tmps.getD u undef = v)
    (hd : a.defers = []) (hg : w.heap[g]? = some (.cells #[.int .i64 x, .int .i64 y, .int .i64 z] 119 (0, 0))) (h : post (.returned (.tuple #[.agg #[.int .i64 x, .int .i64 y, .int .i64 z], v])) w) : bodyPost Tryz.prog fn post Exit.ret a w := by
  refine bodyPost_ret (v := .tuple #[.agg #[.int .i64 x, .int .i64 y, .int .i64 z], v]) ?_ hd h
  rw [results_cell_tmp hr, hp]
  simp [asAddr, run_loadVar_row w g 119 119 _ (0, 0) _ hg Tryz.underlying119 rfl (info3 x y z), Result.andThen]
  simpa using hu
end Go.Proofs.YtcpignkjlnjjmaaGreatDoor
namespace Go.Proofs.YtcpignkjlnjjmaaGreatDoor
open Go.ChangeShapes Go.WideShapes Go.ChangeAt Go.RowKit
set_option linter.unusedVariables false
set_option linter.unusedSimpArgs false

theorem csizes_any (w : World) : Calls Tryz.prog 102 #[] w fun e w' => e = .returned (.agg #[.int .i64 2, .int .i64 4, .int .i64 6, .int .i64 8, .int .i64 12, .int .i64 16, .int .i64 20, .int .i64 32]) ∧ Below w.heap.size w w' := by
  have h0 := Below.refl w.heap.size w
  go_enter Tryz.func102, Tryz.ntmps102
  go_wp2
  refine ret8 (g := w.heap.size) rfl rfl rfl (heap_alloc_new _ _) ⟨rfl, ?_⟩
  exact h0.alloc (Nat.le_refl _) _

def blocksV (c : Int) : Int := if c = 0 then 32 else if c = 1 then 16 else if c = 2 then 10 else if c = 3 then 8 else if c = 4 then 5 else if c = 5 then 4 else if c = 6 then 3 else if c = 7 then 2 else 0
def ofV (s : Int) : Int := if s < 1 then -1 else if s ≤ 2 then 0 else if s ≤ 4 then 1 else if s ≤ 6 then 2 else if s ≤ 8 then 3 else if s ≤ 12 then 4 else if s ≤ 16 then 5 else if s ≤ 20 then 6 else if s ≤ 32 then 7 else if s ≤ 1024 then 8 else -1
def pagesV (s : Int) : Int := if 32 < s ∧ s ≤ 1024 then (s + 63) / 64 else 0
theorem class_cases (c : Int) : (c = 0 ∨ c = 1 ∨ c = 2 ∨ c = 3 ∨ c = 4 ∨ c = 5 ∨ c = 6 ∨ c = 7) ∨ (c < 0 ∨ 8 ≤ c) := by omega
theorem wordsV_out {c : Int} (h : c < 0 ∨ 8 ≤ c) : wordsV c = 0 := by unfold wordsV; split <;> (try omega); repeat (split <;> (try omega))
theorem blocksV_out {c : Int} (h : c < 0 ∨ 8 ≤ c) : blocksV c = 0 := by unfold blocksV; split <;> (try omega); repeat (split <;> (try omega))

theorem cwords_any (c : Int) (w : World) : Calls Tryz.prog 104 #[.int .i64 c] w fun e w' => e = .returned (.int .i64 (wordsV c)) ∧ Below w.heap.size w w' := by
  have h0 := Below.refl w.heap.size w
  by_cases hc : 0 ≤ c ∧ c < 8
  · obtain ⟨h1, h2⟩ := hc
    obtain ⟨k, rfl⟩ : ∃ k : Nat, c = k := ⟨c.toNat, by omega⟩
    have hi := index8n k (by omega)
    go_enter Tryz.func104, Tryz.ntmps104
    go_wp2_with (go_at_call 102; refine (calls_rel (csizes_any _) (by assumption)).mono ?_; rintro e w1 ⟨rfl, hg⟩)
    go_ret
    exact ⟨rfl, by assumption⟩
  · have hc : c < 0 ∨ 8 ≤ c := by omega
    rw [wordsV_out hc]
    rcases hc with h | h
    all_goals
      go_enter Tryz.func104, Tryz.ntmps104
      go_wp2
      go_ret
      exact ⟨rfl, h0⟩

theorem words_at (c v : Int) (h : wordsV c = v) (w : World) : Calls Tryz.prog 104 #[.int .i64 c] w fun e w' => e = .returned (.int .i64 v) ∧ Below w.heap.size w w' := by
  rw [← h]; exact cwords_any c w
/-- the eight classes and their numbers -/
theorem class_told (c : Int) : (∃ x y : Int, wordsV c = x ∧ blocksV c = y ∧ 0 ≤ c ∧ c ≤ 7 ∧ ((c = 0 ∧ x = 2 ∧ y = 32) ∨ (c = 1 ∧ x = 4 ∧ y = 16) ∨ (c = 2 ∧ x = 6 ∧ y = 10) ∨ (c = 3 ∧ x = 8 ∧ y = 8) ∨ (c = 4 ∧ x = 12 ∧ y = 5) ∨ (c = 5 ∧ x = 16 ∧ y = 4) ∨ (c = 6 ∧ x = 20 ∧ y = 3) ∨ (c = 7 ∧ x = 32 ∧ y = 2)))
    ∨ (wordsV c = 0 ∧ blocksV c = 0 ∧ (c < 0 ∨ 8 ≤ c)) := by
  rcases class_cases c with hc | hc
  · left
    refine ⟨_, _, rfl, rfl, by omega, by omega, ?_⟩
    rcases hc with rfl | rfl | rfl | rfl | rfl | rfl | rfl | rfl <;> decide
  · right; exact ⟨wordsV_out hc, blocksV_out hc, hc⟩
theorem blocks_any (c : Int) (w : World) : Calls Tryz.prog 113 #[.int .i64 c] w fun e w' => e = .returned (.int .i64 (blocksV c)) ∧ Below w.heap.size w w' := by
  have h0 := Below.refl w.heap.size w
  rcases class_told c with ⟨x, y, hx, hy, c0, c7, h⟩ | ⟨hx, hy, hc⟩
  · rw [hy]
    have H := hid_mk (words_at c x hx)
    clear hx hy c0 c7
    rcases h with ⟨rfl, rfl, rfl⟩ | ⟨rfl, rfl, rfl⟩ | ⟨rfl, rfl, rfl⟩ | ⟨rfl, rfl, rfl⟩ | ⟨rfl, rfl, rfl⟩ | ⟨rfl, rfl, rfl⟩ | ⟨rfl, rfl, rfl⟩ | ⟨rfl, rfl, rfl⟩
    all_goals
      go_enter Tryz.func113, Tryz.ntmps113
      go_wp2_with (go_at_call 104; refine (calls_rel (H.out _) (by assumption)).mono ?_; rintro e w1 ⟨rfl, hg⟩)
      go_ret
      exact ⟨rfl, by assumption⟩
  · rw [hy]
    have H := hid_mk (words_at c 0 hx)
    clear hx hy hc
    go_enter Tryz.func113, Tryz.ntmps113
    go_wp2_with (go_at_call 104; refine (calls_rel (H.out _) (by assumption)).mono ?_; rintro e w1 ⟨rfl, hg⟩)
    go_ret
    exact ⟨rfl, by assumption⟩
theorem blocks_at (c v : Int) (h : blocksV c = v) (w : World) : Calls Tryz.prog 113 #[.int .i64 c] w fun e w' => e = .returned (.int .i64 v) ∧ Below w.heap.size w w' := by
  rw [← h]; exact blocks_any c w
def startV (c i : Int) : Int := if 0 ≤ i ∧ i < blocksV c then i * wordsV c else -1
def indexV (c o : Int) : Int := if 0 < wordsV c ∧ 0 ≤ o ∧ o % wordsV c = 0 ∧ o / wordsV c < blocksV c then o / wordsV c else -1
theorem start_any (c i : Int) (w : World) : Calls Tryz.prog 114 #[.int .i64 c, .int .i64 i] w fun e w' => e = .returned (.int .i64 (startV c i)) ∧ Below w.heap.size w w' := by
  have h0 := Below.refl w.heap.size w
  have hb : blocksV c ≤ 32 ∧ 0 ≤ blocksV c := by rcases class_told c with ⟨x, y, hx, hy, c0, c7, h⟩ | ⟨hx, hy, hc⟩ <;> omega
  have hw : 0 ≤ wordsV c ∧ wordsV c ≤ 32 := by rcases class_told c with ⟨x, y, hx, hy, c0, c7, h⟩ | ⟨hx, hy, hc⟩ <;> omega
  obtain ⟨b1, b2⟩ := hb
  by_cases hi : 0 ≤ i ∧ i < blocksV c
  · obtain ⟨i1, i2⟩ := hi
    have hp1 : 0 ≤ i * wordsV c := Int.mul_nonneg i1 hw.1
    have hp2 : i * wordsV c ≤ 32 * 32 := Int.mul_le_mul (by omega) hw.2 hw.1 (by omega)
    have hs : startV c i = i * wordsV c := by unfold startV; rw [if_pos ⟨i1, i2⟩]
    rw [hs]
    have HB := hid_mk (blocks_at c _ rfl)
    have HW := hid_mk (words_at c _ rfl)
    clear hs hw
    generalize blocksV c = y at *
    generalize wordsV c = x at *
    have hwr : wrap64 (i * x) = i * x := by unfold wrap64; omega
    clear hp1 hp2
    go_enter Tryz.func114, Tryz.ntmps114
    go_wp2_with (first
      | (go_at_call 113; refine (calls_rel (HB.out _) (by assumption)).mono ?_; rintro e w1 ⟨rfl, hg⟩)
      | (go_at_call 104; refine (calls_rel (HW.out _) (by assumption)).mono ?_; rintro e w1 ⟨rfl, hg⟩))
    go_ret
    refine ⟨ret_int ?_, by assumption⟩
    first | rfl | exact hwr
  · have hs : startV c i = -1 := by unfold startV; rw [if_neg hi]
    rw [hs]
    have HB := hid_mk (blocks_at c _ rfl)
    clear hs hw b1 b2
    generalize blocksV c = y at *
    have hi : i < 0 ∨ (0 ≤ i ∧ y ≤ i) := by omega
    rcases hi with h | ⟨h1, h2⟩
    all_goals
      go_enter Tryz.func114, Tryz.ntmps114
      go_wp2_with (go_at_call 113; refine (calls_rel (HB.out _) (by assumption)).mono ?_; rintro e w1 ⟨rfl, hg⟩)
      go_ret
      exact ⟨rfl, by assumption⟩
end Go.Proofs.YtcpignkjlnjjmaaGreatDoor
namespace Go.Proofs.YtcpignkjlnjjmaaGreatDoor
open Go.ChangeShapes Go.WideShapes Go.ChangeAt Go.RowKit
set_option linter.unusedVariables false
set_option linter.unusedSimpArgs false

/-- the first class that holds it -/
theorem of_first {s : Int} (h1 : 1 ≤ s) (h2 : s ≤ 1024) (k : Nat) (hk : k < 8) : (wordsV k < s) ↔ (k : Int) < ofV s := by
  have hi : k = 0 ∨ k = 1 ∨ k = 2 ∨ k = 3 ∨ k = 4 ∨ k = 5 ∨ k = 6 ∨ k = 7 := by omega
  rcases hi with rfl | rfl | rfl | rfl | rfl | rfl | rfl | rfl <;> simp [wordsV, ofV] <;> omega
theorem ofV_in {s : Int} (h1 : 1 ≤ s) (h2 : s ≤ 1024) : 0 ≤ ofV s ∧ ofV s ≤ 8 := by unfold ofV; omega
theorem ofV_out {s : Int} (h : s < 1 ∨ 1024 < s) : ofV s = -1 := by unfold ofV; omega
set_option maxHeartbeats 800000 in
theorem of_any (s : Int) (w : World) : Calls Tryz.prog 91 #[.int .i64 s] w fun e w' => e = .returned (.int .i64 (ofV s)) ∧ Below w.heap.size w w' := by
  have h0 := Below.refl w.heap.size w
  by_cases hs : 1 ≤ s ∧ s ≤ 1024
  · obtain ⟨s1, s2⟩ := hs
    have HF := hid_mk (of_first s1 s2)
    obtain ⟨q1, q2⟩ := ofV_in s1 s2
    generalize ofV s = q at *
    go_enter Tryz.func91, Tryz.ntmps91
    go_wp2_with (go_at_call 102; refine (calls_rel (csizes_any _) (by assumption)).mono ?_; rintro e w1 ⟨rfl, hg⟩)
    go_loopw [12] (fun i wr => ∃ k : Nat, (k : Int) ≤ q ∧ i = .int .i64 k ∧ Below w.heap.size w wr) (fun i _ => 8 - (intOf i).toNat)
    case atStart => exact ⟨0, by omega, by simp, hg⟩
    case round =>
      clear hg h0
      obtain ⟨k, hk, rfl, hB⟩ := hrel
      by_cases hk8 : k < 8
      · have hi := index8n k hk8
        have hf := HF.out k hk8
        have hk8' : (k : Int) < 8 := by omega
        generalize wordsV k = x at hi hf
        by_cases hx : x < s
        · have hx' : ¬ s ≤ x := by omega
          have hkq := hf.1 hx
          go_wp2
          go_roundw
          case rel => exact ⟨k + 1, by omega, by simp, hB⟩
          case measure => simp [intOf]; omega
        · have hx' : s ≤ x := by omega
          have hkq : q = k := by have := fun h => hx (hf.2 h); omega
          subst hkq
          go_wp2
          go_ret
          exact ⟨rfl, hB⟩
      · have hkq : k = 8 := by omega
        have : q = 8 := by omega
        subst hkq this
        go_wp2
        go_ret
        exact ⟨rfl, hB⟩
  · have hs : s < 1 ∨ 1024 < s := by omega
    rw [ofV_out hs]
    rcases hs with h | h
    all_goals
      go_enter Tryz.func91, Tryz.ntmps91
      go_wp2
      go_ret
      exact ⟨rfl, h0⟩
theorem of_at (s v : Int) (h : ofV s = v) (w : World) : Calls Tryz.prog 91 #[.int .i64 s] w fun e w' => e = .returned (.int .i64 v) ∧ Below w.heap.size w w' := by
  rw [← h]; exact of_any s w
theorem ofV_eight {s : Int} : ofV s = 8 ↔ 32 < s ∧ s ≤ 1024 := by unfold ofV; omega
theorem pages_any (s : Int) (w : World) : Calls Tryz.prog 88 #[.int .i64 s] w fun e w' => e = .returned (.int .i64 (pagesV s)) ∧ Below w.heap.size w w' := by
  have h0 := Below.refl w.heap.size w
  by_cases hs : 32 < s ∧ s ≤ 1024
  · have HO := hid_mk (of_at s 8 (ofV_eight.2 hs))
    have hp : pagesV s = (s + 63) / 64 := by unfold pagesV; rw [if_pos hs]
    rw [hp]
    obtain ⟨s1, s2⟩ := hs
    clear hp
    go_enter Tryz.func88, Tryz.ntmps88
    go_wp2_with (go_at_call 91; refine (calls_rel (HO.out _) (by assumption)).mono ?_; rintro e w1 ⟨rfl, hg⟩)
    go_ret
    exact ⟨ret_int (by omega), by assumption⟩
  · have hq : (ofV s != 8) = true := by simpa using fun h => hs (ofV_eight.1 h)
    have hp : pagesV s = 0 := by unfold pagesV; rw [if_neg hs]
    have HO := hid_mk (of_at s _ rfl)
    rw [hp]
    generalize ofV s = q at *
    clear hp
    go_enter Tryz.func88, Tryz.ntmps88
    go_wp2_with (go_at_call 91; refine (calls_rel (HO.out _) (by assumption)).mono ?_; rintro e w1 ⟨rfl, hg⟩)
    go_ret
    exact ⟨rfl, by assumption⟩
end Go.Proofs.YtcpignkjlnjjmaaGreatDoor
namespace Go.Proofs.YtcpignkjlnjjmaaGreatDoor
open Go.RowKit
set_option linter.unusedVariables false
set_option linter.unusedSimpArgs false
def nextB (n : Int) : Bool := decide (-1 ≤ n ∧ n ≤ 262143)
theorem isNext_any (v : Int) (w : World) :
    Calls Tryz.prog 112 #[.int .i64 v] w fun e w' => e = .returned (.bool (nextB v)) ∧ w' = w := by
  go_enter Tryz.func112, Tryz.ntmps112
  go_wp2
  all_goals go_ret
  all_goals refine ⟨ret_bool ?_, rfl⟩
  all_goals (unfold nextB; rw [Bool.eq_iff_iff]; simp; try omega)

theorem ofInt_nat (b : Int) : (BitVec.ofInt 64 b).toNat = (b % 18446744073709551616).toNat := by
  rw [BitVec.toNat_ofInt]; rfl
theorem or_tag (b t : Int) (h1 : -1152921504606846976 ≤ b) (h2 : b ≤ 1152921504606846975) (t1 : 0 ≤ t) (t2 : t < 8) : bits .or .i64 (wrap64 (b * 8)) t = b * 8 + t := by
  have e : bits .or .i64 (wrap64 (b * 8)) t = IntKind.wrap .i64 ((BitVec.ofInt 64 (wrap64 (b * 8)) ||| BitVec.ofInt 64 t).toNat : Nat) := rfl
  have hw : wrap64 (b * 8) = b * 8 := by unfold wrap64; omega
  have h : (BitVec.ofInt 64 (b * 8) ||| BitVec.ofInt 64 t).toNat = 2 ^ 3 * (b % 2305843009213693952).toNat + t.toNat := by
    rw [BitVec.toNat_or, ofInt_nat, ofInt_nat]
    have e1 : (b * 8 % 18446744073709551616).toNat = 2 ^ 3 * (b % 2305843009213693952).toNat := by omega
    have e2 : (t % 18446744073709551616).toNat = t.toNat := by omega
    rw [e1, e2, Nat.two_pow_add_eq_or_of_lt (by omega)]
  rw [e, hw, h]
  simp [IntKind.wrap, IntKind.signed, IntKind.bits]
  omega

theorem join_any (b t : Int) (w : World) (h1 : -1152921504606846976 ≤ b) (h2 : b ≤ 1152921504606846975) (t1 : 0 ≤ t) (t2 : t < 8) :
    Calls Tryz.prog 62 #[.int .i64 b, .int .i64 t] w fun e w' => e = .returned (.int .i64 (b * 8 + t)) ∧ w' = w := by
  have H := hid_mk (or_tag b t h1 h2 t1 t2)
  clear h1 h2 t1 t2
  go_enter Tryz.func62, Tryz.ntmps62
  go_wp2
  go_ret
  exact ⟨ret_int H.out, rfl⟩

def linkV (n : Int) : Int := if nextB n = true then n * 8 + 4 else 0
theorem link_any (n : Int) (w : World) :
    Calls Tryz.prog 100 #[.int .i64 n] w fun e w' => e = .returned (.int .i64 (linkV n)) ∧ w' = w := by
  by_cases hv : nextB n = true
  · have hw : linkV n = n * 8 + 4 := by unfold linkV; rw [if_pos hv]
    have hr : -1 ≤ n ∧ n ≤ 262143 := by unfold nextB at hv; simpa using hv
    have hj := fun w => join_any n 4 w (by omega) (by omega) (by omega) (by omega)
    rw [hw]
    go_enter Tryz.func100, Tryz.ntmps100
    go_wp2_with (first | (go_at_call 62; refine calls_same (hj _) ?_) | (go_at_call 112; refine calls_same (isNext_any _ _) ?_))
    go_ret
    exact ⟨rfl, rfl⟩
  · have hv' := Bool.eq_false_iff.mpr hv
    have hw : linkV n = 0 := by unfold linkV; rw [if_neg hv]
    rw [hw]
    clear hv
    go_enter Tryz.func100, Tryz.ntmps100
    go_wp2_with (first | (go_at_call 112; refine calls_same (isNext_any _ _) ?_))
    go_ret
    exact ⟨rfl, rfl⟩
end Go.Proofs.YtcpignkjlnjjmaaGreatDoor
