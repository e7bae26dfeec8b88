import Derived.Test.YtcpignkjlnjjmaaDoorNk05
import Derived.Deep.OwnRows
import Derived.Lib.SliceRun
import Derived.Deep.AppendLies
import Derived.OwnWalk
import Derived.ArgAppend
import Derived.Deep.DeepAppendRoom
namespace Go.Proofs.YtcpignkjlnjjmaaDoor
open Go.RowKit
set_option linter.unusedVariables false
set_option linter.unusedSimpArgs false

theorem elem_pages : Tryd.prog.elem 100 = 123 := by kernel_rfl
theorem size_page (w : World) : (sizeOf 123).run Tryd.prog w = .ok 3 w := by kernel_rfl
/-- a piece of a list: where it begins counts for nothing if it is empty -/
theorem slice_at (bw n cap lo hi : Nat) (h1 : lo ≤ hi) (h2 : hi ≤ cap) : ∃ o cp : Nat, (∀ wx, (Instr.slice 100 (.slice (some ⟨bw, 0, none⟩) n cap) (some (.int .i64 (lo : Int))) (some (.int .i64 (hi : Int))) none).run Tryd.prog wx = .ok (.slice (some ⟨bw, o, none⟩) (hi - lo) cp) wx) ∧ (0 < hi - lo → o = lo * 3) := by
  by_cases e : cap = lo
  · refine ⟨0, cap - lo, fun wx => ?_, fun h => by omega⟩
    rw [run_slice_lh wx 100 _ n cap (by rw [elem_pages]; exact Tryd.underlying100) .i64 .i64 (lo : Int) (hi : Int) (by omega) (by omega) (by omega), elem_pages, size_page]
    simp [Result.andThen, sliced, e]
  · refine ⟨lo * 3, cap - lo, fun wx => ?_, fun h => rfl⟩
    rw [run_slice_lh wx 100 _ n cap (by rw [elem_pages]; exact Tryd.underlying100) .i64 .i64 (lo : Int) (hi : Int) (by omega) (by omega) (by omega), elem_pages, size_page]
    have e2 : (⟨bw, 0, none⟩ : Addr).add (lo * 3) = ⟨bw, lo * 3, none⟩ := by rw [Addr.add_lit, Nat.zero_add]
    simp [Result.andThen, sliced, e, e2]
theorem fill_zero {w : World} {a : Option Addr} {cap : Nat} (x y z : Int) :
    Calls Tryd.prog 82 #[.slice a 0 cap, .agg #[.int .i64 x, .int .i64 y, .int .i64 z]] w fun e w' => e = .returned (.tuple #[]) ∧ Out 0 0 w w' := by
  go_enter Tryd.func82, Tryd.ntmps82
  go_wp2_with fail
  go_loopw [7] (fun u wr => u = .int .i64 0 ∧ Out 0 0 w wr) (fun u _ => 0)
  case atStart => exact ⟨rfl, (Out.refl _ _ _).alloc _⟩
  case round =>
    obtain ⟨rfl, ho⟩ := hrel
    have HO := hid_mk ho
    clear ho
    go_wp2
    exact bodyPost_end (results_none Tryd.results82 _ _ _) rfl ⟨rfl, HO.out⟩
theorem fill_at {w : World} {bw n p k o cap : Nat} {S : Nat → Int × Int × Int} (hr : PRow w bw n S) (hpk : p + k ≤ n) (hn : n ≤ 4096) (ho : 0 < k → o = p * 3) (x y z : Int) :
    Calls Tryd.prog 82 #[.slice (some ⟨bw, o, none⟩) k cap, .agg #[.int .i64 x, .int .i64 y, .int .i64 z]] w fun e w' => e = .returned (.tuple #[]) ∧ PRow w' bw n (putA S p k (x, y, z)) ∧ Out bw (bw + 1) w w' := by
  by_cases h0 : 0 < k
  · rw [ho h0]; exact fill_any hr hpk hn x y z
  · have : k = 0 := by omega
    subst this
    rw [putA_zero]
    exact (fill_zero x y z).mono fun e w' ⟨h1, h2⟩ => ⟨h1, hr.kept h2 (.inr (Nat.zero_le _)), h2.any _ _⟩
set_option maxRecDepth 100000 in
set_option maxHeartbeats 4000000 in
theorem takeRun_some {w : World} {b bw n : Nat} {S : Nat → Int × Int × Int} (h : TblAt 102 w b bw n S) (hT : Tab w) (k : Nat) (h1 : 1 ≤ k) (h2 : k ≤ 16) (p : Nat) (hf : rowF S n k = some p) :
    Calls Tryd.prog 72 #[.pointer (some ⟨b, 0, none⟩), .int .i64 k] w fun e w' => e = .returned (.tuple #[.int .i64 p, .int .i64 0]) ∧ TblAt 102 w' b bw n (setR S p k) ∧ Out bw (bw + 1) w w' := by
  have hn := h.nums
  have HH := hid_mk h
  have HT := hid_mk hT
  have HR : Hid (Calls Tryd.prog 81 #[.pointer (some ⟨b, 0, none⟩), .int .i64 k] w fun e w' => e = .returned (.tuple #[.int .i64 p, .bool true]) ∧ Out 0 0 w w') := by
    obtain ⟨cap, c0, _⟩ := HH.out.cell
    have := row_any c0 HT.out ⟨hn.1, hn.2.1⟩ HH.out.row HH.out.good k h1 h2
    rw [hf] at this
    exact this
  obtain ⟨p1, p2, p3⟩ := rowF_pages HH.out.good hf
  have p4 := p3 p (Nat.le_refl _) (by omega)
  have HG := hid_mk (good_setR HH.out.good p3 h1 h2 p2)
  have b0 : (0 : Int) ≤ (p : Int) := by omega
  have b1 : (p : Int) < (n : Int) := by omega
  have b2 : (n : Int) ≤ 4096 := by omega
  have b3 : (1 : Int) ≤ (k : Int) := by omega
  have b4 : (k : Int) ≤ 16 := by omega
  have b5 : (p : Int) + (k : Int) ≤ (n : Int) := by omega
  have HP := hid_mk p1
  have HP4 := hid_mk p4
  have HB : Hid (4 ≤ b ∧ 4 ≤ bw ∧ bw ≠ b) := ⟨hn.2.2.1, hn.2.2.2.1, hn.2.2.2.2.1⟩
  clear hn h hT hf p1 p2 p3 p4
  go_enter Tryd.func72, Tryd.ntmps72
  go_wp2_with (go_at_call 81; refine HR.out.mono ?_; rintro e w2 ⟨rfl, ho⟩; obtain ⟨cap, c0, hcap⟩ := (HH.out.quiet ho).cell; obtain ⟨q0, q1, q2⟩ := (HH.out.quiet ho).row.page HP.out HP4.out; have fz0 := Row.frozen (HH.out.quiet ho).row (p * 3); have fz1 := Row.frozen (HH.out.quiet ho).row (p * 3 + 1); have fz2 := Row.frozen (HH.out.quiet ho).row (p * 3 + 2); have HO2 := hid_mk ho; clear ho)
  have hr3 := (HH.out.quiet HO2.out).row.set p 2 0 k
  have ho3 : Out bw (bw + 1) w (((w2.setCell ⟨bw, p * 3, none⟩ (.int .i64 2)).setCell ⟨bw, p * 3 + 1, none⟩ (.int .i64 0)).setCell ⟨bw, p * 3 + 2, none⟩ (.int .i64 k)) := (HO2.out.any _ _).set3 (.inl ⟨Nat.le_refl _, Nat.lt_succ_self _⟩) _ _ _
  have d0 := ((Out.refl bw (bw + 1) w2).set3 (b := bw) (o := p * 3) (.inl ⟨Nat.le_refl _, Nat.lt_succ_self _⟩) (.int .i64 2) (.int .i64 0) (.int .i64 k)).cell c0 (by have := HB.out; omega)
  obtain ⟨W3, hW3⟩ : ∃ W3, ((w2.setCell ⟨bw, p * 3, none⟩ (.int .i64 2)).setCell ⟨bw, p * 3 + 1, none⟩ (.int .i64 0)).setCell ⟨bw, p * 3 + 2, none⟩ (.int .i64 k) = W3 := ⟨_, rfl⟩
  rw [hW3] at hr3 ho3 d0 ⊢
  have hT3 := HT.out.kept ho3 (.inl HB.out.2.1)
  obtain ⟨r0, r1, r2⟩ := hT3.r
  have HR3 := hid_mk hr3
  have HO3 := hid_mk ho3
  obtain ⟨l, hl⟩ : ∃ l : Nat, p + 1 = l := ⟨_, rfl⟩
  obtain ⟨u, hu⟩ : ∃ u : Nat, p + k = u := ⟨_, rfl⟩
  obtain ⟨o, cp, hsl, hoo⟩ := slice_at bw n cap l u (by omega) (by omega)
  obtain ⟨ln, hln⟩ : ∃ ln : Nat, u - l = ln := ⟨_, rfl⟩
  rw [hln] at hsl hoo
  have x1 : IntKind.i64.wrap ((p : Int) + 1) = (l : Int) := by simp [IntKind.wrap, IntKind.signed, IntKind.bits]; omega
  have x2 : IntKind.i64.wrap ((p : Int) + (k : Int)) = (u : Int) := by simp [IntKind.wrap, IntKind.signed, IntKind.bits]; omega
  have HF : Hid (∀ w', PRow w' bw n (setP S p (2, 0, (k : Int))) → Calls Tryd.prog 82 #[.slice (some ⟨bw, o, none⟩) ln cp, .agg #[.int .i64 3, .int .i64 0, .int .i64 0]] w' fun e w'' => e = .returned (.tuple #[]) ∧ PRow w'' bw n (setR S p k) ∧ Out bw (bw + 1) w' w'') := fun w' hr => by
    rw [setR_eq S p k h1, show k - 1 = ln from by omega]
    exact fill_at hr (by omega) (by omega) (fun h => by rw [hoo h, hl]) 3 0 0
  clear hr3 ho3 hT3 q0 q1 q2 fz0 fz1 fz2 c0 hW3 hl hu hln hoo
  go_region_held3 (fun w' => w'.cell? ⟨b, 0, none⟩ = some (.slice (some ⟨bw, 0, none⟩) n cap) ∧ w'.cell? ⟨1, 0, none⟩ = some (.int .i64 3) ∧ w'.cell? ⟨1, 1, none⟩ = some (.int .i64 0) ∧ w'.cell? ⟨1, 2, none⟩ = some (.int .i64 0)) (first | go_keep | (refine ⟨?_, ?_, ?_, ?_⟩ <;> exact hOO.cell (by assumption) (by have := HB.out; omega)))
    (first | (go_at_call 82; refine (HF.out _ (by exact HR3.out)).mono ?_; rintro e w4 ⟨rfl, hp4, hOO⟩))
  all_goals (try go_wp2)
  all_goals go_ret2
  all_goals exact ⟨rfl, HH.out.turn (HO3.out.trans ((Out.refl _ _ _).drew.trans hOO)) hp4 HG.out, HO3.out.trans ((Out.refl _ _ _).drew.trans hOO)⟩
theorem takeRun_none {w : World} {b bw n : Nat} {S : Nat → Int × Int × Int} (h : TblAt 102 w b bw n S) (hT : Tab w) (k : Nat) (h1 : 1 ≤ k) (h2 : k ≤ 16) (hf : rowF S n k = none) :
    Calls Tryd.prog 72 #[.pointer (some ⟨b, 0, none⟩), .int .i64 k] w fun e w' => e = .returned (.tuple #[.int .i64 0, .int .i64 20]) ∧ Out 0 0 w w' := by
  have hn := h.nums
  have HR : Hid (Calls Tryd.prog 81 #[.pointer (some ⟨b, 0, none⟩), .int .i64 k] w fun e w' => e = .returned (.tuple #[.int .i64 0, .bool false]) ∧ Out 0 0 w w') := by
    obtain ⟨cap, c0, _⟩ := h.cell
    have := row_any c0 hT ⟨hn.1, hn.2.1⟩ h.row h.good k h1 h2
    rw [hf] at this
    exact this
  have b3 : (1 : Int) ≤ (k : Int) := by omega
  have b4 : (k : Int) ≤ 16 := by omega
  clear hn h hT hf h1 h2
  go_enter Tryd.func72, Tryd.ntmps72
  go_wp2_with (go_at_call 81; refine HR.out.mono ?_; rintro e w2 ⟨rfl, ho⟩)
  go_ret2
  exact ⟨rfl, ho⟩
theorem takeRun_any {w : World} {b bw n : Nat} {S : Nat → Int × Int × Int} (h : TblAt 102 w b bw n S) (hT : Tab w) (c : Int) :
    Calls Tryd.prog 72 #[.pointer (some ⟨b, 0, none⟩), .int .i64 c] w fun e w' => e = .returned (.tuple #[.int .i64 (trP S n c : Nat), .int .i64 (trE S n c)]) ∧ TblAt 102 w' b bw n (trS S n c) ∧ Out bw (bw + 1) w w' := by
  unfold trP trE trS
  by_cases hc : runB c = true
  · rw [if_pos hc, if_pos hc, if_pos hc]
    unfold runB at hc
    simp at hc
    obtain ⟨k, rfl⟩ : ∃ k : Nat, c = k := ⟨c.toNat, by omega⟩
    rw [show ((k : Nat) : Int).toNat = k from by omega]
    cases hf : rowF S n k with
    | none => exact (takeRun_none h hT k (by omega) (by omega) hf).mono fun e w' ⟨a, o⟩ => ⟨a, h.quiet o, o.any _ _⟩
    | some p => exact takeRun_some h hT k (by omega) (by omega) p hf
  · rw [if_neg hc, if_neg hc, if_neg hc]
    unfold runB at hc
    simp at hc
    have H := hid_mk h
    by_cases h1 : 1 ≤ c
    · have h2 : 16 < c := by omega
      clear h hT hc
      go_enter Tryd.func72, Tryd.ntmps72
      go_wp2
      go_ret2
      exact ⟨rfl, H.out, Out.refl _ _ _⟩
    · have h2 : c < 1 := by omega
      clear h hT hc h1
      go_enter Tryd.func72, Tryd.ntmps72
      go_wp2
      go_ret2
      exact ⟨rfl, H.out, Out.refl _ _ _⟩
end Go.Proofs.YtcpignkjlnjjmaaDoor
namespace Go.Proofs.YtcpignkjlnjjmaaDoor
open Go.RowKit
set_option linter.unusedVariables false
set_option linter.unusedSimpArgs false

/-- what State answers where nothing is given -/
def NoGive (x : Int) (ok : Bool) : Prop := ok = false ∨ x = 0 ∨ x = 3
theorem give_parts {n : Nat} {S : Nat → Int × Int × Int} {p : Int} (hg : Good n S) (h : giveB S n p = false) : ∃ x, stP S n p = (x, 0, 0) ∧ NoGive x (inB n p) := by
  unfold giveB at h
  cases hb : inB n p with
  | false => exact ⟨0, by unfold stP; rw [hb]; rfl, .inl rfl⟩
  | true =>
    rw [hb] at h
    unfold stP
    rw [hb]
    have hi : p.toNat < n := by unfold inB at hb; simp at hb; omega
    rcases hg.cases hi with e | ⟨c, _, _, e⟩ | ⟨k, _, _, _, e⟩ | e
    · exact ⟨0, by rw [if_pos rfl, e], .inr (.inl rfl)⟩
    · rw [e] at h; simp at h
    · rw [e] at h; simp at h
    · exact ⟨3, by rw [if_pos rfl, e], .inr (.inr rfl)⟩
/-! New -/
theorem info_page : (Tryd.prog.info? 123).map (fun i => (i.zero, i.size, i.bytes)) = some (some (.agg #[.int .i64 0, .int .i64 0, .int .i64 0]), 3, 24) := by kernel_rfl
theorem info_parts {T : TypeId} {z : Value} {a b : Nat} (h : (Tryd.prog.info? T).map (fun i => (i.zero, i.size, i.bytes)) = some (some z, a, b)) : ∃ i, Tryd.prog.info? T = some i ∧ i.zero = some z ∧ i.size = a ∧ i.bytes = b := by
  cases hi : Tryd.prog.info? T with
  | none => rw [hi] at h; cases h
  | some i => rw [hi] at h; simp at h; exact ⟨i, rfl, h.1, h.2.1, h.2.2⟩
theorem made3 {i k : Nat} (h : i < k) : (madeCells #[Value.int .i64 0, .int .i64 0, .int .i64 0] k)[i]? = some (.int .i64 0) := by
  have hm : i % 3 = 0 ∨ i % 3 = 1 ∨ i % 3 = 2 := by omega
  rcases hm with hm | hm | hm <;> simp [madeCells, h, hm]
theorem make_pages (n : Nat) (hn : n ≤ 4096) : ∃ cur : Array Value, (∀ i, i < n * 3 → cur[i]? = some (.int .i64 0)) ∧ cur.size = n * 3 ∧ ∀ w : World, (Instr.makeSlice 100 (.int .i64 (n : Int)) (.int .i64 (n : Int))).run Tryd.prog w = .ok (.slice (some ⟨w.heap.size, 0, none⟩) n n) (w.alloc (.cells cur 123)) := by
  obtain ⟨i0, hi, hz0, hz1, hz2⟩ := info_parts info_page
  refine ⟨madeCells #[Value.int .i64 0, .int .i64 0, .int .i64 0] (n * 3), fun i h => made3 h, size_madeCells _ _, fun w => ?_⟩
  have := run_make (P := Tryd.prog) w 100 123 i0 _ Tryd.underlying100 hi hz0 .i64 .i64 (n : Int) (n : Int) (by omega) (Int.le_refl _) (by rw [hz2]; omega) (by omega)
  rw [this, hz1]
  simp [Value.cells]
theorem table_new {T : TypeId} {w : World} {cur : Array Value} {n : Nat} (h1 : 1 ≤ n) (h2 : n ≤ 4096) (hw : 4 ≤ w.heap.size) (hc : ∀ i, i < n * 3 → cur[i]? = some (.int .i64 0)) (hs : cur.size = n * 3) :
    TblAt T ((w.alloc (.cells cur 123)).alloc (.cells #[.slice (some ⟨w.heap.size, 0, none⟩) n n] T)) (w.heap.size + 1) w.heap.size n (fun _ => (0, 0, 0)) := by
  refine ⟨n, ?_, Nat.le_refl _, by omega, by omega, hw, h1, h2, good_free n, cur, ?_, by omega, fun i hi => ?_⟩
  · have := heap_alloc_new (w.alloc (.cells cur 123)) (.cells #[.slice (some ⟨w.heap.size, 0, none⟩) n n] T)
    simpa using this
  · rw [heap_alloc_old _ _ (by simp)]; exact heap_alloc_new _ _
  · rw [hc i hi]; unfold pcell fld; simp
def newB (n : Int) : Bool := decide (1 ≤ n) && decide (n ≤ 4096)
set_option maxHeartbeats 1000000 in
theorem new_yes {w : World} (hT : Tab w) (n : Nat) (h1 : 1 ≤ n) (h2 : n ≤ 4096) :
    Calls Tryd.prog 40 #[.int .i64 n] w fun e w' => e = .returned (.tuple #[.pointer (some ⟨w.heap.size + 1, 0, none⟩), .int .i64 0]) ∧ TblAt 102 w' (w.heap.size + 1) w.heap.size n (fun _ => (0, 0, 0)) ∧ Out 0 0 w w' ∧ w'.heap.size = w.heap.size + 2 := by
  obtain ⟨cur, hc, hs, hmk⟩ := make_pages n h2
  have HN := hid_mk (fun T => table_new (T := T) h1 h2 hT.lt hc hs)
  have b1 : (1 : Int) ≤ (n : Int) := by omega
  have b2 : (n : Int) ≤ 4096 := by omega
  clear hT h1 h2 hc hs
  go_enter Tryd.func40, Tryd.ntmps40
  go_wp2
  go_ret2
  exact ⟨rfl, HN.out _, ((Out.refl _ _ _).alloc _).alloc _, by simp⟩
theorem new_no (n : Int) (h : newB n = false) (w : World) :
    Calls Tryd.prog 40 #[.int .i64 n] w fun e w' => e = .returned (.tuple #[.pointer none, .int .i64 1]) ∧ w' = w := by
  unfold newB at h
  simp at h
  by_cases h1 : 1 ≤ n
  · have h2 : 4096 < n := by omega
    clear h
    go_enter Tryd.func40, Tryd.ntmps40
    go_wp2
    go_ret2
    exact ⟨rfl, rfl⟩
  · have h2 : n < 1 := by omega
    clear h h1
    go_enter Tryd.func40, Tryd.ntmps40
    go_wp2
    go_ret2
    exact ⟨rfl, rfl⟩
end Go.Proofs.YtcpignkjlnjjmaaDoor
namespace Go.Proofs.YtcpignkjlnjjmaaDoor
open Go.RowKit
set_option linter.unusedVariables false
set_option linter.unusedSimpArgs false

def pgs (l : List (Int × Int × Int)) : List Value := l.flatMap fun p => [.int .i64 p.1, .int .i64 p.2.1, .int .i64 p.2.2]
theorem pgs_cons (p : Int × Int × Int) (l : List (Int × Int × Int)) : pgs (p :: l) = .int .i64 p.1 :: .int .i64 p.2.1 :: .int .i64 p.2.2 :: pgs l := rfl
theorem pgs_append (a b : List (Int × Int × Int)) : pgs (a ++ b) = pgs a ++ pgs b := by unfold pgs; rw [List.flatMap_append]
theorem pgs_len (l : List (Int × Int × Int)) : (pgs l).length = l.length * 3 := by
  induction l with
  | nil => rfl
  | cons p l ih => rw [pgs_cons]; simp [ih]; omega
theorem pgs_at {l : List (Int × Int × Int)} : ∀ {i : Nat} {p : Int × Int × Int}, l[i]? = some p → (pgs l)[i * 3]? = some (.int .i64 p.1) ∧ (pgs l)[i * 3 + 1]? = some (.int .i64 p.2.1) ∧ (pgs l)[i * 3 + 2]? = some (.int .i64 p.2.2) := by
  induction l with
  | nil => intro i p h; simp at h
  | cons q l ih =>
    intro i p h
    rw [pgs_cons]
    cases i with
    | zero => simp at h; subst h; exact ⟨rfl, rfl, rfl⟩
    | succ i =>
      have := ih (i := i) (p := p) (by simpa using h)
      rw [show (i + 1) * 3 = i * 3 + 3 from by omega]
      simpa using this
theorem pgs_one (l : List (Int × Int × Int)) : ∀ u ∈ pgs l, u.oneCell' = true := by
  intro u hu
  unfold pgs at hu
  rw [List.mem_flatMap] at hu
  obtain ⟨p, _, hu⟩ := hu
  simp at hu
  rcases hu with rfl | rfl | rfl <;> rfl
def pgl (S : Nat → Int × Int × Int) (n : Nat) : List (Int × Int × Int) := (List.range n).map S
theorem pgl_len (S : Nat → Int × Int × Int) (n : Nat) : (pgl S n).length = n := by unfold pgl; simp
theorem pgl_at (S : Nat → Int × Int × Int) {n i : Nat} (h : i < n) : (pgl S n)[i]? = some (S i) := by unfold pgl; simp [h]
theorem pgs_cell (S : Nat → Int × Int × Int) (n : Nat) {j : Nat} (h : j < n * 3) : (pgs (pgl S n))[j]? = some (pcell S j) := by
  obtain ⟨a, b, c⟩ := pgs_at (pgl_at S (n := n) (i := j / 3) (by omega))
  unfold pcell
  have hm : j % 3 = 0 ∨ j % 3 = 1 ∨ j % 3 = 2 := by omega
  rcases hm with hm | hm | hm
  · rw [show j / 3 * 3 = j from by omega] at a; rw [a, hm]; rfl
  · rw [show j / 3 * 3 + 1 = j from by omega] at b; rw [b, hm]; rfl
  · rw [show j / 3 * 3 + 2 = j from by omega] at c; rw [c, hm]; rfl
/-- a list of pages as an answer -/
def ListIs (w : World) (base : Nat) (v : Value) (l : List (Int × Int × Int)) : Prop := w.ownsRow base 123 3 v l.length (pgs l)
theorem own_kept {w w' : World} {v : Value} {base k lo hi s : Nat} {xs : List Value} {T : TypeId} (h : w.ownsRow base T s v k xs) (o : Out lo hi w w') (hd : hi ≤ base) : w'.ownsRow base T s v k xs := by
  obtain ⟨hlen, hcase⟩ := h
  refine ⟨hlen, ?_⟩
  rcases hcase with ⟨hv, h0⟩ | ⟨g, cap', cur, rfl, hg1, hg2, hg3⟩
  · exact .inl ⟨hv, h0⟩
  · exact .inr ⟨g, cap', cur, rfl, hg1, o.heap hg2 (.inr (by omega)), hg3⟩
theorem ListIs.kept {w w' : World} {base lo hi : Nat} {v : Value} {l : List (Int × Int × Int)} (h : ListIs w base v l) (o : Out lo hi w w') (hd : hi ≤ base) : ListIs w' base v l := own_kept h o hd
theorem own_mono {w : World} {a b n s : Nat} {T : TypeId} {v : Value} {xs : List Value} (h : w.ownsRow a T s v n xs) (hab : b ≤ a) : w.ownsRow b T s v n xs := by
  obtain ⟨h1, h2⟩ := h
  refine ⟨h1, ?_⟩
  rcases h2 with h2 | ⟨g, cap, cur, e, hg, r⟩
  · exact .inl h2
  · exact .inr ⟨g, cap, cur, e, Nat.le_trans hab hg, r⟩
theorem own_lt {w : World} {B n s : Nat} {T : TypeId} {v : Value} {xs : List Value} (h : w.ownsRow B T s v n xs) {x : Nat} (hx : v.ownBlock = some x) : x < w.heap.size := (h.lt x hx).2
theorem own_shape {w : World} {B n s : Nat} {T : TypeId} {v : Value} {xs : List Value} (h : w.ownsRow B T s v n xs) : ∃ a cap, v = .slice a n cap := by
  rcases h.2 with ⟨e, h0⟩ | ⟨g, cap, cur, e, _⟩
  · exact ⟨none, 0, by rw [e, h0]⟩
  · exact ⟨_, _, e⟩
theorem own_cells {w : World} {B n g cap s : Nat} {T : TypeId} {xs : List Value} (h : w.ownsRow B T s (.slice (some ⟨g, 0, none⟩) n cap) n xs) : ∀ j u, xs[j]? = some u → w.cell? ((⟨g, 0, none⟩ : Addr).add j) = some u := h.cells (g := g) rfl
theorem row_cell {w : World} {B n g cap s : Nat} {T : TypeId} {xs : List Value} (h : w.ownsRow B T s (.slice (some ⟨g, 0, none⟩) n cap) n xs) {j : Nat} {u : Value} (hu : xs[j]? = some u) : w.cell? ⟨g, j, none⟩ = some u := by
  have := own_cells h j u hu
  rw [Addr.add_lit, Nat.zero_add] at this
  exact this
/-- page i of a block -/
def PgAt (w : World) (g i : Nat) (p : Int × Int × Int) : Prop := w.cell? ⟨g, i * 3, none⟩ = some (.int .i64 p.1) ∧ w.cell? ⟨g, i * 3 + 1, none⟩ = some (.int .i64 p.2.1) ∧ w.cell? ⟨g, i * 3 + 2, none⟩ = some (.int .i64 p.2.2)
theorem PgAt.kept {w w' : World} {lo hi g i : Nat} {p : Int × Int × Int} (h : PgAt w g i p) (o : Out lo hi w w') (hd : g < lo ∨ hi ≤ g) : PgAt w' g i p := ⟨o.cell h.1 hd, o.cell h.2.1 hd, o.cell h.2.2 hd⟩
/-- a list that can be read -/
def SliceIs (w : World) (v : Value) (l : List (Int × Int × Int)) : Prop := ∃ a cap, v = .slice a l.length cap ∧ (0 < l.length → ∃ g, a = some ⟨g, 0, none⟩ ∧ g < w.heap.size ∧ ∀ i p, l[i]? = some p → PgAt w g i p)
theorem SliceIs.kept {w w' : World} {v : Value} {l : List (Int × Int × Int)} (h : SliceIs w v l) (o : Out 0 0 w w') : SliceIs w' v l := by
  obtain ⟨a, cap, e, hr⟩ := h
  refine ⟨a, cap, e, fun h0 => ?_⟩
  obtain ⟨g, g0, g1, g2⟩ := hr h0
  exact ⟨g, g0, Nat.lt_of_lt_of_le g1 o.size, fun i p hp => (g2 i p hp).kept o (.inr (Nat.zero_le _))⟩
theorem list_shape {w : World} {B : Nat} {v : Value} {l : List (Int × Int × Int)} (h : ListIs w B v l) : ∃ a cap, v = .slice a l.length cap ∧ (0 < l.length → ∃ g, a = some ⟨g, 0, none⟩ ∧ v.ownBlock = some g ∧ g < w.heap.size ∧ ∀ i p, l[i]? = some p → PgAt w g i p) := by
  have h' := h
  rcases h.2 with ⟨e, h0⟩ | ⟨g, cap, cur, e, _, hg, _⟩
  · exact ⟨none, 0, by rw [e, h0], fun h => by omega⟩
  · refine ⟨_, _, e, fun _ => ⟨g, rfl, by rw [e]; rfl, heap_lt hg, fun i p hp => ?_⟩⟩
    unfold ListIs at h'
    rw [e] at h'
    obtain ⟨a, b, c⟩ := pgs_at hp
    exact ⟨row_cell h' a, row_cell h' b, row_cell h' c⟩
theorem ListIs.slice {w : World} {B : Nat} {v : Value} {l : List (Int × Int × Int)} (h : ListIs w B v l) : SliceIs w v l := by
  obtain ⟨a, cap, e, hr⟩ := list_shape h
  exact ⟨a, cap, e, fun h0 => by obtain ⟨g, g0, _, g1, g2⟩ := hr h0; exact ⟨g, g0, g1, g2⟩⟩
theorem PRow.slice {w : World} {b n cap : Nat} {S : Nat → Int × Int × Int} (h : PRow w b n S) : SliceIs w (.slice (some ⟨b, 0, none⟩) n cap) (pgl S n) := by
  refine ⟨_, cap, by rw [pgl_len], fun _ => ⟨b, rfl, Row.lt h, fun i p hp => ?_⟩⟩
  have hi : i < n := by have := (List.getElem?_eq_some_iff.1 hp).1; rw [pgl_len] at this; exact this
  rw [pgl_at S hi] at hp
  cases hp
  exact h.cells hi
theorem ListIs.row {w : World} {B g n cap : Nat} {S : Nat → Int × Int × Int} (h : ListIs w B (.slice (some ⟨g, 0, none⟩) n cap) (pgl S n)) : PRow w g n S ∧ B ≤ g ∧ n ≤ cap := by
  unfold ListIs at h
  rw [pgl_len] at h
  rcases h.2 with ⟨e, h0⟩ | ⟨g', cap', cur, e, h1, h2, h3, h4, h5, h6⟩
  · cases e
  · cases e
    refine ⟨⟨cur, h2, by omega, fun i hi => ?_⟩, h1, h3⟩
    have e : (cur.toList.take (n * 3))[i]? = (pgs (pgl S n))[i]? := by rw [h6]
    rw [pgs_cell S n hi] at e
    simp [hi] at e
    simpa using e
end Go.Proofs.YtcpignkjlnjjmaaDoor
