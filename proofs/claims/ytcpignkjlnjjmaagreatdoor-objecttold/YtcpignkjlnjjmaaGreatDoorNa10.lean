import Derived.Test.YtcpignkjlnjjmaaGreatDoorNa05
import Derived.Test.YtcpignkjlnjjmaaGreatDoorNa06
import Derived.Test.YtcpignkjlnjjmaaGreatDoorNa07
import Derived.Test.YtcpignkjlnjjmaaGreatDoorNa09
import Derived.Defers
import Derived.Recover
import Derived.WalkSmall
namespace Go.Proofs.YtcpignkjlnjjmaaGreatDoor
open Go.RowKit
set_option linter.unusedVariables false
set_option linter.unusedSimpArgs false

/-- the parts of a space, each as it lies -/
structure Raw where
  W : Nat → Int
  S : Nat → Int × Int × Int
  F : Nat → Nat → Bool
  P : Nat → Bool
  M : Int → Option Blk
  R : Int → Option Int
  last : Int
def blkV (a : Int) (b : Blk) : Value := .agg #[.int .i64 a, .int .i64 b.1, .int .i64 b.2.1, .int .i64 b.2.2.1, .int .i64 b.2.2.2]
/-- 0 to 7: the free blocks of each class; 8: the places; 9, 10: the table and its pages; 11: the words; 12, 13: the two maps; 14: the struct -/
def ln (i : Nat) : Nat := if i < 9 then 2 else 1
def spCells (s : Nat → Nat) (n cap : Nat) (last : Int) : Array Value :=
  #[.slice (some ⟨s 11, 0, none⟩) (64 * n) cap, .pointer (some ⟨s 9, 0, none⟩), .map (some (s 12)), .pointer (some ⟨s 8 + 1, 0, none⟩), .pointer (some ⟨s 0 + 1, 0, none⟩), .pointer (some ⟨s 1 + 1, 0, none⟩), .pointer (some ⟨s 2 + 1, 0, none⟩),
    .pointer (some ⟨s 3 + 1, 0, none⟩), .pointer (some ⟨s 4 + 1, 0, none⟩), .pointer (some ⟨s 5 + 1, 0, none⟩), .pointer (some ⟨s 6 + 1, 0, none⟩), .pointer (some ⟨s 7 + 1, 0, none⟩), .map (some (s 13)), .int .i64 last]
def mapM (M : Int → Option Blk) (a : Int) : Option Value := (M a).map (blkV a)
def mapR (R : Int → Option Int) (a : Int) : Option Value := (R a).map (fun x => .int .i64 x)
structure RawAt (w : World) (lo hi : Nat) (s : Nat → Nat) (n cap : Nat) (r : Raw) : Prop where
  glob : 4 ≤ lo
  top : hi ≤ w.heap.size
  inn : ∀ i, i < 15 → lo ≤ s i ∧ s i + ln i ≤ hi
  apart : ∀ i j, i < 15 → j < 15 → i ≠ j → s i + ln i ≤ s j ∨ s j + ln j ≤ s i
  n1 : 1 ≤ n
  n2 : n ≤ 4096
  capn : 64 * n ≤ cap
  tab : Tab w
  self : w.heap[s 14]? = some (.cells (spCells s n cap r.last) 86 (0, 0))
  words : Row w (s 11) 3 (64 * n) (fun i => .int .i64 (r.W i))
  tbl : TblAt 126 w (s 9) (s 10) n r.S
  objs : MpAt w (s 12) (mapM r.M)
  sers : MpAt w (s 13) (mapR r.R)
  places : MapAt w (s 8) (s 8 + 2) (s 8 + 1) (64 * n) r.P
  free : ∀ c, c < 8 → MapAt w (s c) (s c + 2) (s c + 1) (64 * n) (r.F c)
section
variable {w w' : World} {lo hi n cap : Nat} {s : Nat → Nat} {r : Raw}
/-- what is written beside it -/
theorem RawAt.kept {x y : Nat} (h : RawAt w lo hi s n cap r) (o : Out x y w w') (hd : hi ≤ x ∨ y ≤ lo) (hg : 4 ≤ x ∨ y = 0) : RawAt w' lo hi s n cap r := by
  have ini := fun i hi => h.inn i hi
  have h8 := ini 8 (by omega)
  have h9 := ini 9 (by omega)
  have h10 := ini 10 (by omega)
  have h11 := ini 11 (by omega)
  have h12 := ini 12 (by omega)
  have h13 := ini 13 (by omega)
  have h14 := ini 14 (by omega)
  simp [ln] at h8 h9 h10 h11 h12 h13 h14
  refine ⟨h.glob, Nat.le_trans h.top o.size, h.inn, h.apart, h.n1, h.n2, h.capn, h.tab.kept o hg, o.heap h.self (by omega), h.words.kept o (by omega), h.tbl.kept o (by omega) (by omega), h.objs.kept o (by omega), h.sers.kept o (by omega), h.places.kept o (by omega) hg, fun c hc => (h.free c hc).kept o ?_ hg⟩
  have := ini c (by omega)
  simp [ln, show c < 9 from by omega] at this
  omega
theorem RawAt.quiet (h : RawAt w lo hi s n cap r) (o : Out 0 0 w w') : RawAt w' lo hi s n cap r := h.kept o (.inr (Nat.zero_le _)) (.inr rfl)
theorem RawAt.wide (h : RawAt w lo hi s n cap r) {i : Nat} (hi' : i < 15) (o : Out (s i) (s i + ln i) w w') : Out lo hi w w' := o.wide (h.inn i hi').1 (h.inn i hi').2
/-- one part is written: the others stay -/
theorem RawAt.but (h : RawAt w lo hi s n cap r) {i : Nat} (hi' : i < 15) (o : Out (s i) (s i + ln i) w w') :
    4 ≤ s i ∧ hi ≤ w'.heap.size ∧ Tab w' ∧ (i ≠ 14 → w'.heap[s 14]? = some (.cells (spCells s n cap r.last) 86 (0, 0))) ∧ (i ≠ 11 → Row w' (s 11) 3 (64 * n) (fun i => .int .i64 (r.W i))) ∧
      (i ≠ 9 → i ≠ 10 → TblAt 126 w' (s 9) (s 10) n r.S) ∧ (i ≠ 12 → MpAt w' (s 12) (mapM r.M)) ∧ (i ≠ 13 → MpAt w' (s 13) (mapR r.R)) ∧
      (i ≠ 8 → MapAt w' (s 8) (s 8 + 2) (s 8 + 1) (64 * n) r.P) ∧ (∀ c, c < 8 → i ≠ c → MapAt w' (s c) (s c + 2) (s c + 1) (64 * n) (r.F c)) := by
  have hg : 4 ≤ s i := by have := (h.inn i hi').1; have := h.glob; omega
  have ap := fun j hj hne => h.apart i j hi' hj hne
  have l1 : ∀ j, 9 ≤ j → ln j = 1 := fun j hj => by unfold ln; rw [if_neg (by omega)]
  have l2 : ∀ j, j < 9 → ln j = 2 := fun j hj => by unfold ln; rw [if_pos hj]
  refine ⟨hg, Nat.le_trans h.top o.size, h.tab.kept o (.inl hg), fun e => o.heap h.self ?_, fun e => h.words.kept o ?_, fun e e' => h.tbl.kept o ?_ ?_, fun e => h.objs.kept o ?_, fun e => h.sers.kept o ?_, fun e => h.places.kept o ?_ (.inl hg), fun c hc e => (h.free c hc).kept o ?_ (.inl hg)⟩
  · have := ap 14 (by omega) e; rw [l1 14 (by omega)] at this; omega
  · have := ap 11 (by omega) e; rw [l1 11 (by omega)] at this; omega
  · have := ap 9 (by omega) e; rw [l1 9 (by omega)] at this; omega
  · have := ap 10 (by omega) e'; rw [l1 10 (by omega)] at this; omega
  · have := ap 12 (by omega) e; rw [l1 12 (by omega)] at this; omega
  · have := ap 13 (by omega) e; rw [l1 13 (by omega)] at this; omega
  · have := ap 8 (by omega) e; rw [l2 8 (by omega)] at this; omega
  · have := ap c (by omega) e; rw [l2 c (by omega)] at this; omega
theorem RawAt.setF (h : RawAt w lo hi s n cap r) {c : Nat} (hc : c < 8) {S' : Nat → Bool} (o : Out (s c) (s c + 2) w w') (hm : MapAt w' (s c) (s c + 2) (s c + 1) (64 * n) S') :
    RawAt w' lo hi s n cap { r with F := fun d => if d = c then S' else r.F d } := by
  obtain ⟨b0, b1, b2, b3, b4, b5, b6, b7, b8, b9⟩ := h.but (i := c) (by omega) (by unfold ln; rw [if_pos (show c < 9 from by omega)]; exact o)
  refine ⟨h.glob, b1, h.inn, h.apart, h.n1, h.n2, h.capn, b2, b3 (by omega), b4 (by omega), b5 (by omega) (by omega), b6 (by omega), b7 (by omega), b8 (by omega), fun d hd => ?_⟩
  show MapAt w' (s d) (s d + 2) (s d + 1) (64 * n) (if d = c then S' else r.F d)
  by_cases e : d = c
  · rw [if_pos e, e]; exact hm
  · rw [if_neg e]; exact b9 d hd (fun e' => e e'.symm)
theorem RawAt.setP (h : RawAt w lo hi s n cap r) {S' : Nat → Bool} (o : Out (s 8) (s 8 + 2) w w') (hm : MapAt w' (s 8) (s 8 + 2) (s 8 + 1) (64 * n) S') : RawAt w' lo hi s n cap { r with P := S' } := by
  obtain ⟨b0, b1, b2, b3, b4, b5, b6, b7, b8, b9⟩ := h.but (i := 8) (by omega) o
  exact ⟨h.glob, b1, h.inn, h.apart, h.n1, h.n2, h.capn, b2, b3 (by omega), b4 (by omega), b5 (by omega) (by omega), b6 (by omega), b7 (by omega), hm, fun d hd => b9 d hd (by omega)⟩
theorem RawAt.setT (h : RawAt w lo hi s n cap r) {S' : Nat → Int × Int × Int} (o : Out (s 10) (s 10 + 1) w w') (hm : TblAt 126 w' (s 9) (s 10) n S') : RawAt w' lo hi s n cap { r with S := S' } := by
  obtain ⟨b0, b1, b2, b3, b4, b5, b6, b7, b8, b9⟩ := h.but (i := 10) (by omega) o
  exact ⟨h.glob, b1, h.inn, h.apart, h.n1, h.n2, h.capn, b2, b3 (by omega), b4 (by omega), hm, b6 (by omega), b7 (by omega), b8 (by omega), fun d hd => b9 d hd (by omega)⟩
theorem RawAt.setW (h : RawAt w lo hi s n cap r) {W' : Nat → Int} (o : Out (s 11) (s 11 + 1) w w') (hm : Row w' (s 11) 3 (64 * n) (fun i => .int .i64 (W' i))) : RawAt w' lo hi s n cap { r with W := W' } := by
  obtain ⟨b0, b1, b2, b3, b4, b5, b6, b7, b8, b9⟩ := h.but (i := 11) (by omega) o
  exact ⟨h.glob, b1, h.inn, h.apart, h.n1, h.n2, h.capn, b2, b3 (by omega), hm, b5 (by omega) (by omega), b6 (by omega), b7 (by omega), b8 (by omega), fun d hd => b9 d hd (by omega)⟩
theorem RawAt.setM (h : RawAt w lo hi s n cap r) {M' : Int → Option Blk} (o : Out (s 12) (s 12 + 1) w w') (hm : MpAt w' (s 12) (mapM M')) : RawAt w' lo hi s n cap { r with M := M' } := by
  obtain ⟨b0, b1, b2, b3, b4, b5, b6, b7, b8, b9⟩ := h.but (i := 12) (by omega) o
  exact ⟨h.glob, b1, h.inn, h.apart, h.n1, h.n2, h.capn, b2, b3 (by omega), b4 (by omega), b5 (by omega) (by omega), hm, b7 (by omega), b8 (by omega), fun d hd => b9 d hd (by omega)⟩
theorem RawAt.setR (h : RawAt w lo hi s n cap r) {R' : Int → Option Int} (o : Out (s 13) (s 13 + 1) w w') (hm : MpAt w' (s 13) (mapR R')) : RawAt w' lo hi s n cap { r with R := R' } := by
  obtain ⟨b0, b1, b2, b3, b4, b5, b6, b7, b8, b9⟩ := h.but (i := 13) (by omega) o
  exact ⟨h.glob, b1, h.inn, h.apart, h.n1, h.n2, h.capn, b2, b3 (by omega), b4 (by omega), b5 (by omega) (by omega), b6 (by omega), hm, b8 (by omega), fun d hd => b9 d hd (by omega)⟩
theorem RawAt.setL (h : RawAt w lo hi s n cap r) (v : Int) : RawAt (w.setCell ⟨s 14, 13, none⟩ (.int .i64 v)) lo hi s n cap { r with last := v } ∧ Out (s 14) (s 14 + 1) w (w.setCell ⟨s 14, 13, none⟩ (.int .i64 v)) := by
  have o : Out (s 14) (s 14 + 1) w (w.setCell ⟨s 14, 13, none⟩ (.int .i64 v)) := (Out.refl _ _ _).setCell (.inl ⟨Nat.le_refl _, Nat.lt_succ_self _⟩) _
  obtain ⟨b0, b1, b2, b3, b4, b5, b6, b7, b8, b9⟩ := h.but (i := 14) (by omega) o
  refine ⟨⟨h.glob, b1, h.inn, h.apart, h.n1, h.n2, h.capn, b2, ?_, b4 (by omega), b5 (by omega) (by omega), b6 (by omega), b7 (by omega), b8 (by omega), fun d hd => b9 d hd (by omega)⟩, o⟩
  simp [World.setCell, Array.getElem?_modify, h.self]
  simp [spCells]
/-- the struct's cells -/
theorem RawAt.cells (h : RawAt w lo hi s n cap r) : w.cell? ⟨s 14, 0, none⟩ = some (.slice (some ⟨s 11, 0, none⟩) (64 * n) cap) ∧ w.cell? ⟨s 14, 1, none⟩ = some (.pointer (some ⟨s 9, 0, none⟩)) ∧ w.cell? ⟨s 14, 2, none⟩ = some (.map (some (s 12))) ∧
    w.cell? ⟨s 14, 3, none⟩ = some (.pointer (some ⟨s 8 + 1, 0, none⟩)) ∧ w.cell? ⟨s 14, 12, none⟩ = some (.map (some (s 13))) ∧ w.cell? ⟨s 14, 13, none⟩ = some (.int .i64 r.last) := by
  have h' := h.self
  refine ⟨?_, ?_, ?_, ?_, ?_, ?_⟩ <;> simp [World.cell?, h', spCells]
theorem RawAt.cellF (h : RawAt w lo hi s n cap r) {c : Nat} (hc : c < 8) : w.cell? ⟨s 14, 4 + c, none⟩ = some (.pointer (some ⟨s c + 1, 0, none⟩)) := by
  have h' := h.self
  have : c = 0 ∨ c = 1 ∨ c = 2 ∨ c = 3 ∨ c = 4 ∨ c = 5 ∨ c = 6 ∨ c = 7 := by omega
  rcases this with rfl | rfl | rfl | rfl | rfl | rfl | rfl | rfl <;> simp [World.cell?, h', spCells]
theorem RawAt.cellL (h : RawAt w lo hi s n cap r) : w.frozen? ⟨s 14, 13, none⟩ = false := by
  have h' := h.self
  simp [World.frozen?, h']
theorem RawAt.congr {r' : Raw} (h : RawAt w lo hi s n cap r) (e : r = r') : RawAt w lo hi s n cap r' := e ▸ h
theorem Raw.eq {a b : Raw} (h1 : a.W = b.W) (h2 : a.S = b.S) (h3 : a.F = b.F) (h4 : a.P = b.P) (h5 : a.M = b.M) (h6 : a.R = b.R) (h7 : a.last = b.last) : a = b := by
  cases a; cases b; simp_all
end
/-! tied -/
def obM (st : Sp) (a : Int) : Option Blk := if 0 ≤ a ∧ hasB (st.O a.toNat) = true then some (st.O a.toNat) else none
def serF (n : Nat) (st : Sp) (x : Int) : Option Nat := if 1 ≤ x then (List.range (64 * n)).find? (fun a => hasB (st.O a) && ((st.O a).2.2.1 == x)) else none
def serM (n : Nat) (st : Sp) (x : Int) : Option Int := (serF n st x).map (fun a => (a : Int))
def rawOf (n : Nat) (st : Sp) : Raw := ⟨st.W, st.S, fun c => fr n st (c : Int), ob n st, obM st, serM n st, st.last⟩
/-- a space -/
def SpAt (w : World) (lo hi : Nat) (s : Nat → Nat) (n cap : Nat) (st : Sp) : Prop := RawAt w lo hi s n cap (rawOf n st) ∧ Inv n st
theorem SpAt.kept {w w' : World} {lo hi n cap x y : Nat} {s : Nat → Nat} {st : Sp} (h : SpAt w lo hi s n cap st) (o : Out x y w w') (hd : hi ≤ x ∨ y ≤ lo) (hg : 4 ≤ x ∨ y = 0) : SpAt w' lo hi s n cap st := ⟨h.1.kept o hd hg, h.2⟩
theorem SpAt.quiet {w w' : World} {lo hi n cap : Nat} {s : Nat → Nat} {st : Sp} (h : SpAt w lo hi s n cap st) (o : Out 0 0 w w') : SpAt w' lo hi s n cap st := ⟨h.1.quiet o, h.2⟩
end Go.Proofs.YtcpignkjlnjjmaaGreatDoor
namespace Go.Proofs.YtcpignkjlnjjmaaGreatDoor
open Go.RowKit
set_option linter.unusedVariables false
set_option linter.unusedSimpArgs false

theorem zero_block (w : World) : (zeroValue 44).run Tryz.prog w = .ok (.agg #[.int .i64 0, .int .i64 0, .int .i64 0, .int .i64 0, .int .i64 0]) w := by kernel_rfl
theorem zero_int (w : World) : (zeroValue 3).run Tryz.prog w = .ok (.int .i64 0) w := by kernel_rfl
theorem infoB (a b c d e : Int) : (Tryz.prog.info? 44).map (·.size) = some (#[Value.int .i64 a, .int .i64 b, .int .i64 c, .int .i64 d, .int .i64 e]).size := by
  rw [show (#[Value.int .i64 a, .int .i64 b, .int .i64 c, .int .i64 d, .int .i64 e]).size = 5 from rfl]; kernel_rfl
theorem infoF (a b : Int) : (Tryz.prog.info? 33).map (·.size) = some (#[Value.int .i64 a, .int .i64 b]).size := by
  rw [show (#[Value.int .i64 a, .int .i64 b]).size = 2 from rfl]; kernel_rfl
def fltV (e a : Int) : Value := .agg #[.int .i64 e, .int .i64 a]
theorem retBlk2 {fn : Func} {p u : Tmp} {a : Act} {w : World} {g : Nat} {x1 x2 x3 x4 x5 : Int} {v : Value} {post : Ending → World → Prop} (hr : fn.results = #[.cell p 44, .tmp u]) (hp : a.tmps.getD p undef = .pointer (some ⟨g, 0, none⟩)) (hu : a.tmps.getD u undef = v)
    (hd : a.defers = []) (hg : w.heap[g]? = some (.cells #[.int .i64 x1, .int .i64 x2, .int .i64 x3, .int .i64 x4, .int .i64 x5] 44 (0, 0))) (h : post (.returned (.tuple #[.agg #[.int .i64 x1, .int .i64 x2, .int .i64 x3, .int .i64 x4, .int .i64 x5], v])) w) : bodyPost Tryz.prog fn post Exit.ret a w := by
  refine bodyPost_ret (v := .tuple #[.agg #[.int .i64 x1, .int .i64 x2, .int .i64 x3, .int .i64 x4, .int .i64 x5], v]) ?_ hd h
  rw [results_cell_tmp hr, hp]
  simp [asAddr, run_loadVar_row w g 44 44 _ (0, 0) _ hg Tryz.underlying44 rfl (infoB x1 x2 x3 x4 x5), Result.andThen]
  simpa using hu
theorem retFlt {fn : Func} {p : Tmp} {a : Act} {w : World} {g : Nat} {x1 x2 : Int} {post : Ending → World → Prop} (hr : fn.results = #[.cell p 33]) (hp : a.tmps.getD p undef = .pointer (some ⟨g, 0, none⟩))
    (hd : a.defers = []) (hg : w.heap[g]? = some (.cells #[.int .i64 x1, .int .i64 x2] 33 (0, 0))) (h : post (.returned (fltV x1 x2)) w) : bodyPost Tryz.prog fn post Exit.ret a w :=
  bodyPost_ret (v := fltV x1 x2) (results_cell_row hr a.tmps _ g 33 _ (0, 0) _ hp hg Tryz.underlying33 rfl (infoF x1 x2)) hd h
theorem Out.drewN {lo hi : Nat} {a w : World} (h : Out lo hi a w) (m : Nat) : Out lo hi a (w.drewN m) := ⟨h.1, h.2.1, h.2.2.1, h.size, h.2.2.2.2⟩
theorem two_first {w : World} {o o2 : Obj} : ((w.alloc o).alloc o2).heap[w.heap.size]? = some o := by
  rw [Below.heap_alloc _ _ _ (by simp)]
  exact heap_alloc_new _ _
theorem self_any (b : Nat) (w : World) : Calls Tryz.prog 42 #[.pointer (some ⟨b, 0, none⟩)] w fun e w' => e = .returned (.pointer (some ⟨b, 0, none⟩)) ∧ w' = w := by
  go_enter Tryz.func42, Tryz.ntmps42
  go_wp2
  go_ret
  exact ⟨rfl, rfl⟩
section
variable {w : World} {lo hi n cap : Nat} {s : Nat → Nat} {r : Raw}
theorem spWords_any (h : RawAt w lo hi s n cap r) : Calls Tryz.prog 56 #[.pointer (some ⟨s 14, 0, none⟩)] w fun e w' => e = .returned (.int .i64 ((64 * n : Nat) : Int)) ∧ w' = w := by
  obtain ⟨c0, c1, c2, c3, c4, c5⟩ := h.cells
  clear h
  go_enter Tryz.func56, Tryz.ntmps56
  go_wp2_with (go_at_call 42; refine calls_same (self_any _ _) ?_)
  go_ret
  exact ⟨rfl, rfl⟩
theorem spHas_any (h : RawAt w lo hi s n cap r) (a : Int) : Calls Tryz.prog 32 #[.pointer (some ⟨s 14, 0, none⟩), .int .i64 a] w fun e w' => e = .returned (.bool (inB (64 * n) a)) ∧ w' = w := by
  have HW := hid_mk (spWords_any h)
  have h2 := h.n2
  generalize 64 * n = m at *
  clear h
  unfold inB
  by_cases h0 : 0 ≤ a
  · go_enter Tryz.func32, Tryz.ntmps32
    go_wp2_with (go_at_call 56; refine calls_same HW.out ?_)
    go_ret
    exact ⟨ret_bool (by simp [h0]), rfl⟩
  · have h0' : a < 0 := by omega
    go_enter Tryz.func32, Tryz.ntmps32
    go_wp2_with (go_at_call 56; refine calls_same HW.out ?_)
    go_ret
    exact ⟨ret_bool (by simp [h0]; try omega), rfl⟩
def peekV (n : Nat) (W : Nat → Int) (a : Int) : Int := if inB (64 * n) a then W a.toNat else 0
theorem peek_any (h : RawAt w lo hi s n cap r) (a : Int) : Calls Tryz.prog 13 #[.pointer (some ⟨s 14, 0, none⟩), .int .i64 a] w fun e w' => e = .returned (.tuple #[.int .i64 (peekV n r.W a), .bool (inB (64 * n) a)]) ∧ w' = w := by
  have HH := hid_mk (spHas_any h a)
  obtain ⟨c0, c1, c2, c3, c4, c5⟩ := h.cells
  have h2 := h.n2
  by_cases hi' : inB (64 * n) a = true
  · obtain ⟨k, rfl, hk, hk2⟩ := inB_nat hi'
    have hc := h.words.cell hk
    have hv : peekV n r.W (k : Int) = r.W k := by unfold peekV; rw [if_pos hi', hk2]
    have b1 : (0 : Int) ≤ (k : Int) := by omega
    have b2 : (k : Int) < ((64 * n : Nat) : Int) := by omega
    have b3 : ((64 * n : Nat) : Int) ≤ 262144 := by omega
    rw [hi'] at HH ⊢
    rw [hv]
    generalize r.W k = v at *
    generalize 64 * n = m at *
    clear h hv hi' hk hk2 h2
    go_enter Tryz.func13, Tryz.ntmps13
    go_wp2_with (go_at_call 32; refine calls_same HH.out ?_)
    go_ret2
    exact ⟨rfl, rfl⟩
  · have hf : inB (64 * n) a = false := by simpa using hi'
    have hv : peekV n r.W a = 0 := by unfold peekV; rw [hf]; rfl
    rw [hf] at HH ⊢
    rw [hv]
    clear h hv hi'
    go_enter Tryz.func13, Tryz.ntmps13
    go_wp2_with (go_at_call 32; refine calls_same HH.out ?_)
    go_ret2
    exact ⟨rfl, rfl⟩
theorem Row.upd {w : World} {b k : Nat} {T : TypeId} {W : Nat → Int} (h : Row w b T k (fun i => .int .i64 (W i))) (a : Nat) (v : Int) : Row (w.setCell ⟨b, a, none⟩ (.int .i64 v)) b T k (fun i => .int .i64 (updW W a v i)) :=
  (h.set a (.int .i64 v)).congr fun i _ => by unfold updW; split <;> rfl
theorem RawAt.poke (h : RawAt w lo hi s n cap r) (a : Nat) (v : Int) : RawAt (w.setCell ⟨s 11, a, none⟩ (.int .i64 v)) lo hi s n cap { r with W := updW r.W a v } ∧ Out (s 11) (s 11 + 1) w (w.setCell ⟨s 11, a, none⟩ (.int .i64 v)) := by
  have o : Out (s 11) (s 11 + 1) w (w.setCell ⟨s 11, a, none⟩ (.int .i64 v)) := (Out.refl _ _ _).setCell (.inl ⟨Nat.le_refl _, Nat.lt_succ_self _⟩) _
  exact ⟨h.setW o (h.words.upd a v), o⟩
def pokeW (n : Nat) (W : Nat → Int) (a v : Int) : Nat → Int := if inB (64 * n) a then updW W a.toNat v else W
theorem poke_any (h : RawAt w lo hi s n cap r) (a v : Int) : Calls Tryz.prog 15 #[.pointer (some ⟨s 14, 0, none⟩), .int .i64 a, .int .i64 v] w fun e w' => e = .returned (.bool (inB (64 * n) a)) ∧ RawAt w' lo hi s n cap { r with W := pokeW n r.W a v } ∧ Out lo hi w w' := by
  have HH := hid_mk (spHas_any h a)
  obtain ⟨c0, c1, c2, c3, c4, c5⟩ := h.cells
  have h2 := h.n2
  by_cases hi' : inB (64 * n) a = true
  · obtain ⟨k, rfl, hk, hk2⟩ := inB_nat hi'
    have hc := h.words.cell hk
    have hfz := h.words.frozen k
    have hv : pokeW n r.W (k : Int) v = updW r.W k v := by unfold pokeW; rw [if_pos hi', hk2]
    have b1 : (0 : Int) ≤ (k : Int) := by omega
    have b2 : (k : Int) < ((64 * n : Nat) : Int) := by omega
    have b3 : ((64 * n : Nat) : Int) ≤ 262144 := by omega
    have HP := hid_mk (h.poke k v)
    have HW := hid_mk (h.wide (i := 11) (by omega) HP.out.2)
    rw [hi'] at HH ⊢
    rw [hv]
    generalize r.W k = u at *
    generalize hm : 64 * n = m at *
    clear h hv hi' hk hk2 h2 hm
    go_enter Tryz.func15, Tryz.ntmps15
    go_wp2_with (go_at_call 32; refine calls_same HH.out ?_)
    go_ret
    exact ⟨rfl, HP.out.1, HW.out⟩
  · have hf : inB (64 * n) a = false := by simpa using hi'
    have hv : pokeW n r.W a v = r.W := by unfold pokeW; rw [hf]; rfl
    have HP := hid_mk h
    rw [hf] at HH ⊢
    rw [hv]
    clear h hv hi'
    go_enter Tryz.func15, Tryz.ntmps15
    go_wp2_with (go_at_call 32; refine calls_same HH.out ?_)
    go_ret
    exact ⟨rfl, HP.out, Out.refl _ _ _⟩
theorem RawAt.look (h : RawAt w lo hi s n cap r) (c : Bool) (a : Int) : (Instr.lookup 81 (.map (some (s 12))) (.int .i64 a) c).run Tryz.prog w =
    .ok (if c then .tuple #[(mapM r.M a).getD (.agg #[.int .i64 0, .int .i64 0, .int .i64 0, .int .i64 0, .int .i64 0]), .bool (mapM r.M a).isSome] else (mapM r.M a).getD (.agg #[.int .i64 0, .int .i64 0, .int .i64 0, .int .i64 0, .int .i64 0])) w :=
  mp_look c Tryz.underlying81 Tryz.underlying3 (zero_block w) h.objs a
theorem RawAt.find (h : RawAt w lo hi s n cap r) (c : Bool) (a : Int) : (Instr.lookup 84 (.map (some (s 13))) (.int .i64 a) c).run Tryz.prog w =
    .ok (if c then .tuple #[(mapR r.R a).getD (.int .i64 0), .bool (mapR r.R a).isSome] else (mapR r.R a).getD (.int .i64 0)) w :=
  mp_look c Tryz.underlying84 Tryz.underlying3 (zero_int w) h.sers a
theorem block_some (h : RawAt w lo hi s n cap r) {a k z x t : Int} (hm : r.M a = some (k, z, x, t)) : Calls Tryz.prog 40 #[.pointer (some ⟨s 14, 0, none⟩), .int .i64 a] w fun e w' => e = .returned (.tuple #[.agg #[.int .i64 a, .int .i64 k, .int .i64 z, .int .i64 x, .int .i64 t], .bool true]) ∧ Out 0 0 w w' := by
  have h' := h.quiet ((Out.refl 0 0 w).alloc (.cells #[.int .i64 0, .int .i64 0, .int .i64 0, .int .i64 0, .int .i64 0] 44))
  obtain ⟨c0, c1, c2, c3, c4, c5⟩ := h'.cells
  have hl := h'.look true a
  have e1 : mapM r.M a = some (.agg #[.int .i64 a, .int .i64 k, .int .i64 z, .int .i64 x, .int .i64 t]) := by unfold mapM; rw [hm]; rfl
  rw [e1] at hl
  simp only [Option.getD_some, Option.isSome_some, if_true] at hl
  clear h h' e1 hm
  go_enter Tryz.func40, Tryz.ntmps40
  go_wp2_with (go_at_call 42; refine calls_same (self_any _ _) ?_)
  refine retBlk2 (g := w.heap.size) Tryz.results40 rfl rfl rfl two_first ⟨rfl, ((Out.refl _ _ _).alloc _).alloc _⟩
theorem block_none (h : RawAt w lo hi s n cap r) {a : Int} (hm : r.M a = none) : Calls Tryz.prog 40 #[.pointer (some ⟨s 14, 0, none⟩), .int .i64 a] w fun e w' => e = .returned (.tuple #[.agg #[.int .i64 0, .int .i64 0, .int .i64 0, .int .i64 0, .int .i64 0], .bool false]) ∧ Out 0 0 w w' := by
  have h' := h.quiet ((Out.refl 0 0 w).alloc (.cells #[.int .i64 0, .int .i64 0, .int .i64 0, .int .i64 0, .int .i64 0] 44))
  obtain ⟨c0, c1, c2, c3, c4, c5⟩ := h'.cells
  have hl := h'.look true a
  have e1 : mapM r.M a = none := by unfold mapM; rw [hm]; rfl
  rw [e1] at hl
  simp only [Option.getD_none, Option.isSome_none, if_true] at hl
  clear h h' e1 hm
  go_enter Tryz.func40, Tryz.ntmps40
  go_wp2_with (go_at_call 42; refine calls_same (self_any _ _) ?_)
  refine retBlk2 (g := w.heap.size) Tryz.results40 rfl rfl rfl two_first ⟨rfl, ((Out.refl _ _ _).alloc _).alloc _⟩
set_option maxHeartbeats 1000000 in
theorem headed_any (h : RawAt w lo hi s n cap r) {a : Nat} (ha : a < 64 * n) (k z x t : Int) : Calls Tryz.prog 77 #[.pointer (some ⟨s 14, 0, none⟩), .agg #[.int .i64 (a : Int), .int .i64 k, .int .i64 z, .int .i64 x, .int .i64 t]] w fun e w' => e = .returned (.bool (r.W a == makeV a k z)) ∧ Out 0 0 w w' := by
  have h' := h.quiet ((Out.refl 0 0 w).alloc (.cells #[.int .i64 (a : Int), .int .i64 k, .int .i64 z, .int .i64 x, .int .i64 t] 44))
  obtain ⟨c0, c1, c2, c3, c4, c5⟩ := h'.cells
  have h2 := h.n2
  have hc := h'.words.cell ha
  have b1 : (0 : Int) ≤ (a : Int) := by omega
  have b2 : (a : Int) < ((64 * n : Nat) : Int) := by omega
  have b3 : ((64 * n : Nat) : Int) ≤ 262144 := by omega
  have HM := hid_mk (fun w => hmake_any (a : Int) k z w)
  generalize makeV (a : Int) k z = mv at *
  generalize r.W a = u at *
  generalize 64 * n = m at *
  clear h h' ha h2
  go_enter Tryz.func77, Tryz.ntmps77
  go_wp2_with fail
  go_quiet (first | (go_at_call 94; exact Calls.quiet_of_same (HM.out _)))
  go_wp2
  go_ret
  exact ⟨rfl, ((Out.refl 0 0 w).alloc _).drewN _⟩
end
end Go.Proofs.YtcpignkjlnjjmaaGreatDoor
namespace Go.Proofs.YtcpignkjlnjjmaaGreatDoor
open Go.RowKit
set_option linter.unusedVariables false
set_option linter.unusedSimpArgs false

/-- what a panic carries: a fault -/
def stopP (e a : Int) : PanicEntry := { v := .iface 106 (.agg #[.int .i64 e, .int .i64 a]), recovered := false }
theorem want_yes (e : Int) (w : World) : Calls Tryz.prog 30 #[.bool true, .int .i64 e] w fun x w' => x = .returned (.tuple #[]) ∧ w' = w := by
  go_enter Tryz.func30, Tryz.ntmps30
  go_wp2
  exact bodyPost_end (results_none Tryz.results30 _ _ _) rfl ⟨rfl, rfl⟩
theorem want_no (e : Int) (w : World) : Calls Tryz.prog 30 #[.bool false, .int .i64 e] w fun x w' => x = .panicked [stopP e 0] ∧ w' = w := by
  go_enter Tryz.func30, Tryz.ntmps30
  go_wp2
  exact ⟨rfl, rfl, rfl⟩
theorem fail_ok (a : Int) (w : World) : Calls Tryz.prog 36 #[.agg #[.int .i64 0, .int .i64 a]] w fun x w' => x = .returned (.tuple #[]) ∧ Out 0 0 w w' := by
  go_enter Tryz.func36, Tryz.ntmps36
  go_wp2
  exact bodyPost_end (results_none Tryz.results36 _ _ _) rfl ⟨rfl, (Out.refl 0 0 w).alloc _⟩
theorem fail_no {e : Int} (he : e ≠ 0) (a : Int) (w : World) : Calls Tryz.prog 36 #[.agg #[.int .i64 e, .int .i64 a]] w fun x w' => x = .panicked [stopP e a] ∧ Out 0 0 w w' := by
  have h1 : (e != 0) = true := by simpa using he
  go_enter Tryz.func36, Tryz.ntmps36
  go_wp2
  exact ⟨rfl, rfl, (Out.refl 0 0 w).alloc _⟩
theorem caught_nil (w : World) : Calls Tryz.prog 23 #[.nilIface] w fun x w' => x = .returned (.agg #[.int .i64 0, .int .i64 0]) ∧ Out 0 0 w w' := by
  go_enter Tryz.func23, Tryz.ntmps23
  go_wp2
  exact retFlt Tryz.results23 rfl rfl (heap_alloc_new _ _) ⟨rfl, (Out.refl 0 0 w).alloc _⟩
theorem caught_stop (e a : Int) (w : World) : Calls Tryz.prog 23 #[.iface 106 (.agg #[.int .i64 e, .int .i64 a])] w fun x w' => x = .returned (.agg #[.int .i64 e, .int .i64 a]) ∧ Out 0 0 w w' := by
  have h1 : ∀ W, (binOp .eql 20 (.iface 106 (.agg #[.int .i64 e, .int .i64 a])) .nilIface).run Tryz.prog W = .ok (.bool false) W := fun W => by kernel_rfl
  have h2 : ∀ W, (Instr.typeAssert (.iface 106 (.agg #[.int .i64 e, .int .i64 a])) 20 106 true).run Tryz.prog W = .ok (.tuple #[.agg #[.int .i64 e, .int .i64 a], .bool true]) W := fun W => by kernel_rfl
  go_enter Tryz.func23, Tryz.ntmps23
  go_wp2
  exact retFlt Tryz.results23 rfl rfl two_first ⟨rfl, ((Out.refl 0 0 w).alloc _).alloc _⟩
end Go.Proofs.YtcpignkjlnjjmaaGreatDoor
