/- pages: Give, Free, New -/
import Derived.Test.YtfkmaanfgkkjcabDoorGe
import Derived.Deep.OwnRows
namespace Go.Proofs.YtfkmaanfgkkjcabDoor
open Go.RowKit
set_option linter.unusedVariables false
set_option linter.unusedSimpArgs false

/-- what State answers where nothing is given -/
def NoGive (x : Int) (ok : Bool) : Prop := ok = false ∨ x = 0 ∨ x = 3
set_option maxRecDepth 100000 in
set_option maxHeartbeats 4000000 in
theorem give_no {w : World} {b : Nat} (hT : Tab w) (p : Int) (x : Int) (ok : Bool) (hx : NoGive x ok)
    (HS : Hid (∀ w', Out 0 0 w w' → Calls Tryd.prog 11 #[.pointer (some ⟨b, 0, none⟩), .int .i64 p] w' fun e w' => e = .returned (.tuple #[.agg #[.int .i64 x, .int .i64 0, .int .i64 0], .bool ok]) ∧ Out 0 0 w w')) :
    Calls Tryd.prog 10 #[.pointer (some ⟨b, 0, none⟩), .int .i64 p] w fun e w' => e = .returned (.int .i64 1) ∧ Out 0 0 w w' := by
  have HT := hid_mk hT
  clear hT
  rcases hx with rfl | rfl | rfl
  · go_enter Tryd.func10, Tryd.ntmps10
    go_wp2_with (go_at_call 11; refine (HS.out _ (Out.refl 0 0 _)).mono ?_; rintro e w2 ⟨rfl, ho'⟩; have HO2 := hid_mk (ho'.alloc (.cells #[.int .i64 x, .int .i64 0, .int .i64 0] 37)); obtain ⟨f0, f1, f2⟩ := (HT.out.quiet HO2.out).f; obtain ⟨r0, r1, r2⟩ := (HT.out.quiet HO2.out).r; clear ho')
    all_goals go_ret
    all_goals exact ⟨rfl, HO2.out⟩
  · cases ok
    all_goals
      go_enter Tryd.func10, Tryd.ntmps10
      go_wp2_with (go_at_call 11; refine (HS.out _ (Out.refl 0 0 _)).mono ?_; rintro e w2 ⟨rfl, ho'⟩; have HO2 := hid_mk (ho'.alloc (.cells #[.int .i64 0, .int .i64 0, .int .i64 0] 37)); obtain ⟨f0, f1, f2⟩ := (HT.out.quiet HO2.out).f; obtain ⟨r0, r1, r2⟩ := (HT.out.quiet HO2.out).r; clear ho')
      go_ret
      exact ⟨rfl, HO2.out⟩
  · cases ok
    all_goals
      go_enter Tryd.func10, Tryd.ntmps10
      go_wp2_with (go_at_call 11; refine (HS.out _ (Out.refl 0 0 _)).mono ?_; rintro e w2 ⟨rfl, ho'⟩; have HO2 := hid_mk (ho'.alloc (.cells #[.int .i64 3, .int .i64 0, .int .i64 0] 37)); obtain ⟨f0, f1, f2⟩ := (HT.out.quiet HO2.out).f; obtain ⟨r0, r1, r2⟩ := (HT.out.quiet HO2.out).r; clear ho')
      go_ret
      exact ⟨rfl, HO2.out⟩
theorem give_parts {n : Nat} {S : Nat → Int × Int × Int} {p : Int} (hg : Good n S) (h : giveB S n p = false) : ∃ x, stP S n p = (x, 0, 0) ∧ NoGive x (inB n p) := by
  unfold giveB at h
  cases hb : inB n p with
  | false => exact ⟨0, by unfold stP; rw [hb]; rfl, .inl rfl⟩
  | true =>
    rw [hb] at h
    unfold stP
    rw [hb]
    have hi : p.toNat < n := by unfold inB at hb; simp at hb; omega
    rcases hg.cases hi with e | ⟨c, _, _, e⟩ | ⟨k, _, _, _, e⟩ | e
    · exact ⟨0, by rw [if_pos rfl, e], .inr (.inl rfl)⟩
    · rw [e] at h; simp at h
    · rw [e] at h; simp at h
    · exact ⟨3, by rw [if_pos rfl, e], .inr (.inr rfl)⟩
theorem give_any {w : World} {b bw n : Nat} {S : Nat → Int × Int × Int} (h : TblAt 35 w b bw n S) (hT : Tab w) (p : Int) :
    Calls Tryd.prog 10 #[.pointer (some ⟨b, 0, none⟩), .int .i64 p] w fun e w' => e = .returned (.int .i64 (gvE S n p)) ∧ TblAt 35 w' b bw n (gvS S n p) ∧ Out bw (bw + 1) w w' := by
  unfold gvE gvS
  by_cases hb : giveB S n p = true
  · rw [if_pos hb, if_pos hb]
    have hb' := hb
    unfold giveB inB at hb
    simp at hb
    obtain ⟨k, rfl⟩ : ∃ k : Nat, p = k := ⟨p.toNat, by omega⟩
    exact give_yes h hT k (by omega) (by simpa using hb.2)
  · rw [if_neg hb, if_neg hb]
    obtain ⟨x, e, hx⟩ := give_parts h.good (by simpa using hb)
    refine (give_no hT p x (inB n p) hx (fun w' ho => ?_)).mono fun e w' ⟨a, o⟩ => ⟨a, h.quiet o, o.any _ _⟩
    have := state_any (h.quiet ho) p
    rw [e] at this
    exact this.mono fun e w' ⟨a, b⟩ => ⟨a, ho.trans b⟩
set_option maxRecDepth 100000 in
set_option maxHeartbeats 4000000 in
theorem free_any {w : World} {b bw n : Nat} {S : Nat → Int × Int × Int} (h : TblAt 35 w b bw n S) (hT : Tab w) :
    Calls Tryd.prog 9 #[.pointer (some ⟨b, 0, none⟩)] w fun e w' => e = .returned (.int .i64 (cntF S n : Nat)) ∧ Out 0 0 w w' := by
  obtain ⟨cap, c0, _⟩ := h.cell
  have H := hid_mk (list_cell c0)
  have HT := hid_mk hT
  have HR := hid_mk h.row
  have HG := hid_mk h.good
  have HN := hid_mk h.nums
  clear c0 hT h
  go_enter Tryd.func9, Tryd.ntmps9
  go_wp2_with (go_at_call 15; refine calls_same H.out ?_)
  go_loopw [3, 9] (fun x y wr => ∃ i : Nat, i ≤ n ∧ x = .int .i64 (cntF S i : Nat) ∧ y = .int .i64 i ∧ Out 0 0 w wr) (fun _ y _ => n - (intOf y).toNat)
  case atStart => exact ⟨0, Nat.zero_le _, rfl, rfl, Out.refl _ _ _⟩
  case round =>
    obtain ⟨i, i1, rfl, rfl, ho⟩ := hrel
    have HO := hid_mk ho
    obtain ⟨f0, f1, f2⟩ := (HT.out.quiet ho).f
    have b0 : (0 : Int) ≤ (i : Int) := by omega
    have b5 : (i : Int) ≤ 4096 := by have := HN.out; omega
    obtain ⟨c, hc⟩ : ∃ c, cntF S i = c := ⟨_, rfl⟩
    have b6 : (c : Int) ≤ 4096 := by have := cntF_le S i; omega
    have b7 : (0 : Int) ≤ (c : Int) := by omega
    by_cases hi : i < n
    · have b1 : (i : Int) < (n : Int) := by omega
      have HO2 : Hid (∀ c, Out 0 0 w (wr.alloc c)) := fun c => ho.alloc c
      have HS := hid_mk (cntF_succ S i)
      obtain ⟨x, y, z, hp⟩ := page_of (S i)
      obtain ⟨q0, q1, q2⟩ := (HR.out.kept ho (.inr (Nat.zero_le _))).page hi hp
      obtain ⟨g0, g1, g2⟩ := (HT.out.quiet (ho.alloc (.cells #[.int .i64 x, .int .i64 y, .int .i64 z] 37))).f
      rw [hc] at HS ⊢
      by_cases hf : freeB (S i) = true
      · have e := HG.out.free hi hf
        rw [hf] at HS
        rw [hp] at e
        cases e
        clear ho hp hf HO hc
        go_wp2
        go_roundw
        case rel => exact ⟨i + 1, by omega, by rw [HS.out]; go_num, by go_num, HO2.out _⟩
        case measure => simp [intOf]; omega
      · have hf' : freeB (S i) = false := by simpa using hf
        rw [hf'] at HS
        have hx : (x == 0) = false := by have := hf'; rw [hp] at this; exact this
        clear ho hp hf HO hf' hc
        go_wp2
        go_roundw
        case rel => exact ⟨i + 1, by omega, by rw [HS.out]; go_num, by go_num, HO2.out _⟩
        case measure => simp [intOf]; omega
    · have : i = n := by omega
      subst this
      clear ho hi hc
      go_wp2
      go_ret
      exact ⟨rfl, HO.out⟩
/-! New -/
theorem info_page : (Tryd.prog.info? 37).map (fun i => (i.zero, i.size, i.bytes)) = some (some (.agg #[.int .i64 0, .int .i64 0, .int .i64 0]), 3, 24) := by kernel_rfl
theorem info_parts {T : TypeId} {z : Value} {a b : Nat} (h : (Tryd.prog.info? T).map (fun i => (i.zero, i.size, i.bytes)) = some (some z, a, b)) : ∃ i, Tryd.prog.info? T = some i ∧ i.zero = some z ∧ i.size = a ∧ i.bytes = b := by
  cases hi : Tryd.prog.info? T with
  | none => rw [hi] at h; cases h
  | some i => rw [hi] at h; simp at h; exact ⟨i, rfl, h.1, h.2.1, h.2.2⟩
theorem made3 {i k : Nat} (h : i < k) : (madeCells #[Value.int .i64 0, .int .i64 0, .int .i64 0] k)[i]? = some (.int .i64 0) := by
  have hm : i % 3 = 0 ∨ i % 3 = 1 ∨ i % 3 = 2 := by omega
  rcases hm with hm | hm | hm <;> simp [madeCells, h, hm]
theorem make_pages (n : Nat) (hn : n ≤ 4096) : ∃ cur : Array Value, (∀ i, i < n * 3 → cur[i]? = some (.int .i64 0)) ∧ cur.size = n * 3 ∧ ∀ w : World, (Instr.makeSlice 33 (.int .i64 (n : Int)) (.int .i64 (n : Int))).run Tryd.prog w = .ok (.slice (some ⟨w.heap.size, 0, none⟩) n n) (w.alloc (.cells cur 37)) := by
  obtain ⟨i0, hi, hz0, hz1, hz2⟩ := info_parts info_page
  refine ⟨madeCells #[Value.int .i64 0, .int .i64 0, .int .i64 0] (n * 3), fun i h => made3 h, size_madeCells _ _, fun w => ?_⟩
  have := run_make (P := Tryd.prog) w 33 37 i0 _ Tryd.underlying33 hi hz0 .i64 .i64 (n : Int) (n : Int) (by omega) (Int.le_refl _) (by rw [hz2]; omega) (by omega)
  rw [this, hz1]
  simp [Value.cells]
theorem table_new {T : TypeId} {w : World} {cur : Array Value} {n : Nat} (h1 : 1 ≤ n) (h2 : n ≤ 4096) (hw : 2 ≤ w.heap.size) (hc : ∀ i, i < n * 3 → cur[i]? = some (.int .i64 0)) (hs : cur.size = n * 3) :
    TblAt T ((w.alloc (.cells cur 37)).alloc (.cells #[.slice (some ⟨w.heap.size, 0, none⟩) n n] T)) (w.heap.size + 1) w.heap.size n (fun _ => (0, 0, 0)) := by
  refine ⟨n, ?_, Nat.le_refl _, by omega, by omega, hw, h1, h2, good_free n, cur, ?_, by omega, fun i hi => ?_⟩
  · have := heap_alloc_new (w.alloc (.cells cur 37)) (.cells #[.slice (some ⟨w.heap.size, 0, none⟩) n n] T)
    simpa using this
  · rw [heap_alloc_old _ _ (by simp)]; exact heap_alloc_new _ _
  · rw [hc i hi]; unfold pcell fld; simp
def newB (n : Int) : Bool := decide (1 ≤ n) && decide (n ≤ 4096)
set_option maxHeartbeats 1000000 in
theorem new_yes {w : World} (hT : Tab w) (n : Nat) (h1 : 1 ≤ n) (h2 : n ≤ 4096) :
    Calls Tryd.prog 5 #[.int .i64 n] w fun e w' => e = .returned (.tuple #[.pointer (some ⟨w.heap.size + 1, 0, none⟩), .int .i64 0]) ∧ TblAt 35 w' (w.heap.size + 1) w.heap.size n (fun _ => (0, 0, 0)) ∧ Out 0 0 w w' ∧ w'.heap.size = w.heap.size + 2 := by
  obtain ⟨cur, hc, hs, hmk⟩ := make_pages n h2
  have HN := hid_mk (fun T => table_new (T := T) h1 h2 hT.lt hc hs)
  have b1 : (1 : Int) ≤ (n : Int) := by omega
  have b2 : (n : Int) ≤ 4096 := by omega
  clear hT h1 h2 hc hs
  go_enter Tryd.func5, Tryd.ntmps5
  go_wp2
  go_ret2
  exact ⟨rfl, HN.out _, ((Out.refl _ _ _).alloc _).alloc _, by simp⟩
theorem new_no (n : Int) (h : newB n = false) (w : World) :
    Calls Tryd.prog 5 #[.int .i64 n] w fun e w' => e = .returned (.tuple #[.pointer none, .int .i64 1]) ∧ w' = w := by
  unfold newB at h
  simp at h
  by_cases h1 : 1 ≤ n
  · have h2 : 4096 < n := by omega
    clear h
    go_enter Tryd.func5, Tryd.ntmps5
    go_wp2
    go_ret2
    exact ⟨rfl, rfl⟩
  · have h2 : n < 1 := by omega
    clear h h1
    go_enter Tryd.func5, Tryd.ntmps5
    go_wp2
    go_ret2
    exact ⟨rfl, rfl⟩
end Go.Proofs.YtfkmaanfgkkjcabDoor
