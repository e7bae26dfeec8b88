/- pages: fill, the class's words, State -/
import Derived.Test.YtfkmaanfgkkjcabDoorGb
namespace Go.Proofs.YtfkmaanfgkkjcabDoor
open Go.RowKit
set_option linter.unusedVariables false
set_option linter.unusedSimpArgs false

def putA (S : Nat → Int × Int × Int) (p k : Nat) (x : Int × Int × Int) : Nat → Int × Int × Int := fun j => if p ≤ j ∧ j < p + k then x else S j
theorem putA_zero (S : Nat → Int × Int × Int) (p : Nat) (x : Int × Int × Int) : putA S p 0 x = S := by funext j; unfold putA; rw [if_neg (by omega)]
theorem putA_step (S : Nat → Int × Int × Int) (p i : Nat) (x : Int × Int × Int) : setP (putA S p i x) (p + i) x = putA S p (i + 1) x := by
  funext j
  unfold setP putA
  by_cases e : j = p + i
  · rw [if_pos e, if_pos (by omega)]
  · rw [if_neg e]
    by_cases h : p ≤ j ∧ j < p + i
    · rw [if_pos h, if_pos (by omega)]
    · rw [if_neg h, if_neg (by omega)]
theorem box3 {w : World} {X : Nat} {x y z : Int} {T : TypeId} (h : w.heap[X]? = some (.cells #[.int .i64 x, .int .i64 y, .int .i64 z] T (0, 0))) :
    w.cell? ⟨X, 0, none⟩ = some (.int .i64 x) ∧ w.cell? ⟨X, 1, none⟩ = some (.int .i64 y) ∧ w.cell? ⟨X, 2, none⟩ = some (.int .i64 z) := by
  simp [World.cell?, h]
set_option maxRecDepth 100000 in
set_option maxHeartbeats 4000000 in
theorem fill_any {w : World} {bw n p k cap : Nat} {S : Nat → Int × Int × Int} (hr : PRow w bw n S) (hpk : p + k ≤ n) (hn : n ≤ 4096) (x y z : Int) :
    Calls Tryd.prog 14 #[.slice (some ⟨bw, p * 3, none⟩) k cap, .agg #[.int .i64 x, .int .i64 y, .int .i64 z]] w fun e w' => e = .returned (.tuple #[]) ∧ PRow w' bw n (putA S p k (x, y, z)) ∧ Out bw (bw + 1) w w' := by
  have HP : Hid (p + k ≤ n ∧ n ≤ 4096) := ⟨hpk, hn⟩
  have HL : Hid (bw < w.heap.size) := Row.lt hr
  have HR1 : Hid (PRow (w.alloc (.cells #[.int .i64 x, .int .i64 y, .int .i64 z] 37)) bw n (putA S p 0 (x, y, z))) := by
    rw [putA_zero]; exact hr.kept ((Out.refl 0 0 _).alloc _) (.inr (Nat.zero_le _))
  have HO1 : Hid (Out bw (bw + 1) w (w.alloc (.cells #[.int .i64 x, .int .i64 y, .int .i64 z] 37))) := (Out.refl _ _ _).alloc _
  have HX : Hid ((w.alloc (.cells #[.int .i64 x, .int .i64 y, .int .i64 z] 37)).heap[w.heap.size]? = some (.cells #[.int .i64 x, .int .i64 y, .int .i64 z] 37 (0, 0))) := heap_alloc_new _ _
  obtain ⟨X, hX⟩ : ∃ X, w.heap.size = X := ⟨_, rfl⟩
  obtain ⟨W, hW⟩ : ∃ W, w.alloc (.cells #[.int .i64 x, .int .i64 y, .int .i64 z] 37) = W := ⟨_, rfl⟩
  rw [hX] at HX HL
  rw [hW] at HX HR1 HO1
  clear hr hpk hn
  go_enter Tryd.func14, Tryd.ntmps14
  go_wp2_with fail
  clear hX hW
  go_loopw [7] (fun u wr => ∃ i : Nat, i ≤ k ∧ u = .int .i64 i ∧ PRow wr bw n (putA S p i (x, y, z)) ∧ Out bw (bw + 1) w wr ∧ wr.heap[X]? = some (.cells #[.int .i64 x, .int .i64 y, .int .i64 z] 37 (0, 0))) (fun u _ => k - (intOf u).toNat)
  case atStart => exact ⟨0, Nat.zero_le _, rfl, HR1.out, HO1.out, HX.out⟩
  case round =>
    clear HR1 HO1 HX
    obtain ⟨i, i1, rfl, hr, ho, hx⟩ := hrel
    have HR := hid_mk hr
    have HO := hid_mk ho
    have HX := hid_mk hx
    have b0 : (0 : Int) ≤ (i : Int) := by omega
    by_cases hi : i < k
    · have b1 : (i : Int) < (k : Int) := by omega
      have b2 : (k : Int) ≤ 4096 := by have := HP.out; omega
      obtain ⟨u0, v0, t0, hp⟩ := page_of (putA S p i (x, y, z) (p + i))
      obtain ⟨q0, q1, q2⟩ := hr.page (by have := HP.out; omega) hp
      have fz0 := Row.frozen hr ((p + i) * 3)
      have fz1 := Row.frozen hr ((p + i) * 3 + 1)
      have fz2 := Row.frozen hr ((p + i) * 3 + 2)
      obtain ⟨x0, x1, x2⟩ := box3 hx
      have hr2 := hr.set (p + i) x y z
      rw [putA_step] at hr2
      have ho2 := ho.set3 (b := bw) (o := (p + i) * 3) (.inl ⟨Nat.le_refl _, Nat.lt_succ_self _⟩) (.int .i64 x) (.int .i64 y) (.int .i64 z)
      have hx2 : (((wr.setCell ⟨bw, (p + i) * 3, none⟩ (.int .i64 x)).setCell ⟨bw, (p + i) * 3 + 1, none⟩ (.int .i64 y)).setCell ⟨bw, (p + i) * 3 + 2, none⟩ (.int .i64 z)).heap[X]? = some (.cells #[.int .i64 x, .int .i64 y, .int .i64 z] 37 (0, 0)) := by
        have hne : X ≠ bw := by have := HL.out; omega
        rw [Below.heap_setCell _ _ _ _ hne, Below.heap_setCell _ _ _ _ hne, Below.heap_setCell _ _ _ _ hne]
        exact hx
      rw [Nat.add_mul] at q0 q1 q2 fz0 fz1 fz2 hr2 ho2 hx2
      have HR2 := hid_mk hr2
      have HO2 := hid_mk ho2
      have HX2 := hid_mk hx2
      clear hr ho hx hr2 ho2 hx2 hp HR HO HX
      go_wp2
      go_roundw
      case rel => exact ⟨i + 1, by omega, by go_num, HR2.out, HO2.out, HX2.out⟩
      case measure => simp [intOf]; omega
    · have : i = k := by omega
      subst this
      clear hr ho hx hi HX
      go_wp2
      exact bodyPost_end (results_none Tryd.results14 _ _ _) rfl ⟨rfl, HR.out, HO.out⟩

/-! the words of a class's blocks -/
def row8 : Array Value := #[.int .i64 2, .int .i64 4, .int .i64 6, .int .i64 8, .int .i64 12, .int .i64 16, .int .i64 20, .int .i64 32]
theorem info8 : (Tryd.prog.info? 45).map (·.size) = some row8.size := by kernel_rfl
theorem ret8 {fn : Func} {p : Tmp} (hr : fn.results = #[.cell p 45]) {a : Act} {w : World} {g : Nat} {post : Ending → World → Prop} (hp : a.tmps.getD p undef = .pointer (some ⟨g, 0, none⟩))
    (hd : a.defers = []) (b : w.heap[g]? = some (.cells row8 45 (0, 0))) (h : post (.returned (.agg row8)) w) : bodyPost Tryd.prog fn post Exit.ret a w :=
  bodyPost_ret (v := .agg row8) (results_cell_row hr a.tmps w g 45 row8 (0, 0) _ hp b Tryd.underlying45 rfl info8) hd h
theorem sizes_any (w : World) : Calls Tryd.prog 17 #[] w fun e w' => e = .returned (.agg #[.int .i64 2, .int .i64 4, .int .i64 6, .int .i64 8, .int .i64 12, .int .i64 16, .int .i64 20, .int .i64 32]) ∧ Out 0 0 w w' := by
  go_enter Tryd.func17, Tryd.ntmps17
  go_wp2
  exact ret8 (g := w.heap.size) rfl rfl rfl (heap_alloc_new _ _) ⟨rfl, (Out.refl _ _ _).alloc _⟩
def wordsV (c : Int) : Int := if c = 0 then 2 else if c = 1 then 4 else if c = 2 then 6 else if c = 3 then 8 else if c = 4 then 12 else if c = 5 then 16 else if c = 6 then 20 else if c = 7 then 32 else 0
theorem index8 (cs : Array Value) (i : Int) (k : Nat) (v : Value) (hi : i = k) (h : k < 8) (hv : cs[k]? = some v) (w : World) : (Instr.index 45 (.agg cs) (.int .i64 i)).run Tryd.prog w = .ok v w := by
  subst hi
  simp [Instr.index, run_underlying Tryd.underlying45, asIntOf, h, hv, go_sem]
theorem index8n (i : Nat) (h : i < 8) (w : World) : (Instr.index 45 (.agg #[.int .i64 2, .int .i64 4, .int .i64 6, .int .i64 8, .int .i64 12, .int .i64 16, .int .i64 20, .int .i64 32]) (.int .i64 i)).run Tryd.prog w = .ok (.int .i64 (wordsV i)) w := by
  refine index8 _ _ i _ rfl h ?_ w
  have hi : i = 0 ∨ i = 1 ∨ i = 2 ∨ i = 3 ∨ i = 4 ∨ i = 5 ∨ i = 6 ∨ i = 7 := by omega
  rcases hi with rfl | rfl | rfl | rfl | rfl | rfl | rfl | rfl <;> rfl
theorem wordsV_in {k : Nat} (h : k < 8) : (wordsV (k : Int) == 0) = false := by
  have hi : k = 0 ∨ k = 1 ∨ k = 2 ∨ k = 3 ∨ k = 4 ∨ k = 5 ∨ k = 6 ∨ k = 7 := by omega
  rcases hi with rfl | rfl | rfl | rfl | rfl | rfl | rfl | rfl <;> rfl
theorem words_any (c : Int) (w : World) : Calls Tryd.prog 12 #[.int .i64 c] w fun e w' => ∃ v : Int, e = .returned (.int .i64 v) ∧ (v == 0) = !classB c ∧ Out 0 0 w w' := by
  by_cases hc : 0 ≤ c ∧ c < 8
  · obtain ⟨h1, h2⟩ := hc
    obtain ⟨k, rfl⟩ : ∃ k : Nat, c = k := ⟨c.toNat, by omega⟩
    have hi := index8n k (by omega)
    have HC : Hid ((wordsV (k : Int) == 0) = !classB (k : Int)) := by
      show _ = _
      rw [wordsV_in (by omega), show classB (k : Int) = true from by unfold classB; simp; omega]; rfl
    have HS := hid_mk (sizes_any w)
    generalize classB (k : Int) = q at *
    generalize wordsV (k : Int) = u at *
    go_enter Tryd.func12, Tryd.ntmps12
    go_wp2_with (go_at_call 17; refine HS.out.mono ?_; rintro e w1 ⟨rfl, hg⟩)
    go_ret
    exact ⟨u, rfl, HC.out, hg⟩
  · have hc : c < 0 ∨ 8 ≤ c := by omega
    have e : classB c = false := by unfold classB; simp; omega
    rw [e]
    rcases hc with h | h
    all_goals
      go_enter Tryd.func12, Tryd.ntmps12
      go_wp2
      go_ret
      exact ⟨0, rfl, rfl, Out.refl _ _ _⟩
/-! a page as an answer -/
def pgV (p : Int × Int × Int) : Value := .agg #[.int .i64 p.1, .int .i64 p.2.1, .int .i64 p.2.2]
theorem info3 (x y z : Int) : (Tryd.prog.info? 37).map (·.size) = some (#[Value.int .i64 x, .int .i64 y, .int .i64 z]).size := by
  rw [show (#[Value.int .i64 x, .int .i64 y, .int .i64 z]).size = 3 from rfl]; kernel_rfl
theorem retPage2 {fn : Func} {p u : Tmp} {a : Act} {w : World} {g : Nat} {x y z : Int} {v : Value} {post : Ending → World → Prop} (hr : fn.results = #[.cell p 37, .tmp u]) (hp : a.tmps.getD p undef = .pointer (some ⟨g, 0, none⟩)) (hu : a.tmps.getD u undef = v)
    (hd : a.defers = []) (hg : w.heap[g]? = some (.cells #[.int .i64 x, .int .i64 y, .int .i64 z] 37 (0, 0))) (h : post (.returned (.tuple #[.agg #[.int .i64 x, .int .i64 y, .int .i64 z], v])) w) : bodyPost Tryd.prog fn post Exit.ret a w := by
  refine bodyPost_ret (v := .tuple #[.agg #[.int .i64 x, .int .i64 y, .int .i64 z], v]) ?_ hd h
  rw [results_cell_tmp hr, hp]
  simp [asAddr, run_loadVar_row w g 37 37 _ (0, 0) _ hg Tryd.underlying37 rfl (info3 x y z), Result.andThen]
  simpa using hu
set_option maxRecDepth 100000 in
set_option maxHeartbeats 4000000 in
theorem state_any {w : World} {b bw n : Nat} {S : Nat → Int × Int × Int} (h : TblAt 35 w b bw n S) (i : Int) :
    Calls Tryd.prog 11 #[.pointer (some ⟨b, 0, none⟩), .int .i64 i] w fun e w' => e = .returned (.tuple #[pgV (stP S n i), .bool (inB n i)]) ∧ Out 0 0 w w' := by
  obtain ⟨cap, c0, hcap⟩ := h.cell
  have hn := h.nums
  have c1 := ((Out.refl 0 0 w).alloc (.cells #[.int .i64 0, .int .i64 0, .int .i64 0] 37)).cell c0 (.inr (Nat.zero_le _))
  have HL := hid_mk (len_cell c1)
  by_cases hi : inB n i = true
  · unfold inB at hi
    simp at hi
    obtain ⟨k, rfl⟩ : ∃ k : Nat, i = k := ⟨i.toNat, by omega⟩
    have e1 : inB n (k : Int) = true := by unfold inB; simp; omega
    have e2 : stP S n (k : Int) = S k := by unfold stP; rw [e1]; rfl
    rw [e1, e2]
    obtain ⟨x, y, z, hp⟩ := page_of (S k)
    have hr := h.row.kept ((Out.refl 0 0 w).alloc (.cells #[.int .i64 0, .int .i64 0, .int .i64 0] 37)) (.inr (Nat.zero_le _))
    obtain ⟨q0, q1, q2⟩ := hr.page (by omega) hp
    have b0 : (0 : Int) ≤ (k : Int) := by omega
    have b1 : (k : Int) < (n : Int) := by omega
    have b2 : (n : Int) ≤ 4096 := by omega
    rw [hp]
    clear h hn e1 e2 hi hr hp c0
    go_enter Tryd.func11, Tryd.ntmps11
    go_wp2_with (go_at_call 16; refine calls_same HL.out ?_)
    refine retPage2 (g := w.heap.size) Tryd.results11 rfl rfl rfl (heap_alloc_new _ _) ⟨rfl, (Out.refl _ _ _).alloc _⟩
  · have e1 : inB n i = false := by simpa using hi
    have e2 : stP S n i = (0, 0, 0) := by unfold stP; rw [e1]; rfl
    rw [e1, e2]
    unfold inB at hi
    simp at hi
    have b2 : (n : Int) ≤ 4096 := by omega
    by_cases h0 : 0 ≤ i
    · have b1 : (n : Int) ≤ i := by omega
      clear h hn e1 e2 hi c0
      go_enter Tryd.func11, Tryd.ntmps11
      go_wp2_with (go_at_call 16; refine calls_same HL.out ?_)
      refine retPage2 (g := w.heap.size) Tryd.results11 rfl rfl rfl (heap_alloc_new _ _) ⟨rfl, (Out.refl _ _ _).alloc _⟩
    · have b1 : i < 0 := by omega
      clear h hn e1 e2 hi c0 h0
      go_enter Tryd.func11, Tryd.ntmps11
      go_wp2_with (go_at_call 16; refine calls_same HL.out ?_)
      refine retPage2 (g := w.heap.size) Tryd.results11 rfl rfl rfl (heap_alloc_new _ _) ⟨rfl, (Out.refl _ _ _).alloc _⟩
end Go.Proofs.YtfkmaanfgkkjcabDoor
