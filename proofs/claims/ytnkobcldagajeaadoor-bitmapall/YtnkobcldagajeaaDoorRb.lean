/- the document's own map: New, Put, Get, PutRange, Reset -/
import Derived.Test.YtnkobcldagajeaaDoorBj
namespace Go.Proofs.YtnkobcldagajeaaDoor
open Go.RowKit
set_option linter.unusedVariables false
set_option linter.unusedSimpArgs false

/-- block b is the document's map of the length n with the numbers of S -/
def RefAt (w : World) (lo hi b n : Nat) (S : Nat → Bool) : Prop :=
  ∃ (ao : Option Addr) (cap : Nat), w.heap[b]? = some (.cells #[.slice ao n cap] 49 (0, 0)) ∧ lo ≤ b ∧ b < hi ∧ hi ≤ w.heap.size ∧ n ≤ 262144 ∧ (∀ j, n ≤ j → S j = false) ∧
    (0 < n → ∃ br, ao = some ⟨br, 0, none⟩ ∧ lo ≤ br ∧ br < hi ∧ br ≠ b ∧ Row w br 4 n (fun i => .bool (S i)))
theorem RefAt.kept {w w' : World} {lo hi b n lo' hi' : Nat} {S : Nat → Bool} (h : RefAt w lo hi b n S) (g : Out lo' hi' w w') (hd : hi ≤ lo' ∨ hi' ≤ lo) : RefAt w' lo hi b n S := by
  obtain ⟨ao, cap, hb, h1, h2, h3, h4, h5, h6⟩ := h
  refine ⟨ao, cap, g.heap hb (by omega), h1, h2, Nat.le_trans h3 g.size, h4, h5, fun hn => ?_⟩
  obtain ⟨br, e, l1, l2, l3, hr⟩ := h6 hn
  have hk : br < lo' ∨ hi' ≤ br := by clear h6 hr hb h5; omega
  exact ⟨br, e, l1, l2, l3, hr.kept g hk⟩
theorem RefAt.quiet {w w' : World} {lo hi b n : Nat} {S : Nat → Bool} (h : RefAt w lo hi b n S) (g : Out 0 0 w w') : RefAt w' lo hi b n S := h.kept g (.inr (Nat.zero_le _))
theorem RefAt.drew {w : World} {lo hi b n : Nat} {S : Nat → Bool} (h : RefAt w lo hi b n S) : RefAt w.drew lo hi b n S := h.quiet (Out.refl _ _ _).drew
theorem RefAt.alloc {w : World} {lo hi b n : Nat} {S : Nat → Bool} (h : RefAt w lo hi b n S) (o : Obj) : RefAt (w.alloc o) lo hi b n S := h.quiet ((Out.refl _ _ _).alloc o)
theorem RefAt.bounds {w : World} {lo hi b n : Nat} {S : Nat → Bool} (h : RefAt w lo hi b n S) : lo ≤ b ∧ b < hi ∧ hi ≤ w.heap.size ∧ n ≤ 262144 ∧ ∀ j, n ≤ j → S j = false := by
  obtain ⟨ao, cap, hb, h1, h2, h3, h4, h5, h6⟩ := h
  exact ⟨h1, h2, h3, h4, h5⟩
theorem RefAt.field {w : World} {lo hi b n : Nat} {S : Nat → Bool} (h : RefAt w lo hi b n S) : ∃ ao cap, w.cell? ⟨b, 0, none⟩ = some (.slice ao n cap) := by
  obtain ⟨ao, cap, hb, _⟩ := h
  exact ⟨ao, cap, by simp [World.cell?, hb]⟩
theorem RefAt.words {w : World} {lo hi b n : Nat} {S : Nat → Bool} (h : RefAt w lo hi b n S) (hn : 0 < n) :
    ∃ br cap, w.heap[b]? = some (.cells #[.slice (some ⟨br, 0, none⟩) n cap] 49 (0, 0)) ∧ w.cell? ⟨b, 0, none⟩ = some (.slice (some ⟨br, 0, none⟩) n cap) ∧ lo ≤ br ∧ br < hi ∧ br ≠ b ∧ Row w br 4 n (fun i => .bool (S i)) := by
  obtain ⟨ao, cap, hb, h1, h2, h3, h4, h5, h6⟩ := h
  obtain ⟨br, e, l1, l2, l3, hr⟩ := h6 hn
  subst e
  exact ⟨br, cap, hb, by simp [World.cell?, hb], l1, l2, l3, hr⟩
theorem RefAt.store {w : World} {lo hi b n br cap : Nat} {S : Nat → Bool} (h : RefAt w lo hi b n S) (hb : w.heap[b]? = some (.cells #[.slice (some ⟨br, 0, none⟩) n cap] 49 (0, 0)))
    (hr : Row w br 4 n (fun i => .bool (S i))) (l1 : lo ≤ br) (l2 : br < hi) (l3 : br ≠ b) (k : Nat) (hk : k < n) (v : Bool) :
    RefAt (w.setCell ⟨br, k, none⟩ (.bool v)) lo hi b n (upd S k v) ∧ (w.setCell ⟨br, k, none⟩ (.bool v)).heap[b]? = some (.cells #[.slice (some ⟨br, 0, none⟩) n cap] 49 (0, 0)) ∧ Row (w.setCell ⟨br, k, none⟩ (.bool v)) br 4 n (fun i => .bool (upd S k v i)) := by
  obtain ⟨ao, cap', hb', h1, h2, h3, h4, h5, h6⟩ := h
  have g : Out lo hi w (w.setCell ⟨br, k, none⟩ (.bool v)) := (Out.refl _ _ _).setCell (.inl ⟨l1, l2⟩) _
  have hb2 : (w.setCell ⟨br, k, none⟩ (.bool v)).heap[b]? = some (.cells #[.slice (some ⟨br, 0, none⟩) n cap] 49 (0, 0)) := by rw [Below.heap_setCell _ _ _ _ (Ne.symm l3)]; exact hb
  have hr2 : Row (w.setCell ⟨br, k, none⟩ (.bool v)) br 4 n (fun i => .bool (upd S k v i)) := (hr.set k _).congr fun i hi => by
    unfold upd
    by_cases e : i = k
    · simp only [if_pos e]
    · simp only [if_neg e]
  exact ⟨⟨_, _, hb2, h1, h2, Nat.le_trans h3 g.size, h4, fun j hj => by unfold upd; rw [if_neg (by omega)]; exact h5 j hj, fun _ => ⟨br, rfl, l1, l2, l3, hr2⟩⟩, hb2, hr2⟩
theorem info_bool : (Tryd.prog.info? 4).map (fun i => (i.zero, i.size, i.bytes)) = some (some (.bool false), 1, 1) := by kernel_rfl
theorem refNew_no (n : Int) (w : World) (h : n < 0 ∨ 262144 < n) :
    Calls Tryd.prog 19 #[.int .i64 n] w fun e w' => e = .returned (.tuple #[.pointer none, .int .i64 1]) ∧ w' = w := by
  rcases h with h | h
  · go_enter Tryd.func19, Tryd.ntmps19
    go_wp2
    go_ret2
    exact ⟨rfl, rfl⟩
  · have h0 : 0 ≤ n := by omega
    go_enter Tryd.func19, Tryd.ntmps19
    go_wp2
    go_ret2
    exact ⟨rfl, rfl⟩
theorem refAt_new (n : Nat) (w : World) (h : n ≤ 262144) : RefAt ((w.alloc (.cells (madeCells #[.bool false] n) 4)).alloc (.cells #[.slice (some ⟨w.heap.size, 0, none⟩) n n] 49))
    w.heap.size ((w.alloc (.cells (madeCells #[.bool false] n) 4)).alloc (.cells #[.slice (some ⟨w.heap.size, 0, none⟩) n n] 49)).heap.size (w.heap.size + 1) n (fun _ => false) := by
  refine ⟨_, _, heap_alloc2_new _ _ _, by omega, by simp, Nat.le_refl _, h, fun _ _ => rfl, fun _ => ⟨w.heap.size, rfl, Nat.le_refl _, by simp; omega, by omega, ?_⟩⟩
  obtain ⟨c, hb, hn, hc⟩ := (World.rowIs_made w (.bool false) n 4).alloc (.cells #[.slice (some ⟨w.heap.size, 0, none⟩) n n] 49)
  exact ⟨c, hb, by omega, fun i hi => by rw [hc i hi]⟩
set_option maxHeartbeats 1000000 in
theorem refNew_any (n : Nat) (w : World) (h : n ≤ 262144) :
    Calls Tryd.prog 19 #[.int .i64 n] w fun e w' => ∃ b, e = .returned (.tuple #[.pointer (some ⟨b, 0, none⟩), .int .i64 0]) ∧ RefAt w' w.heap.size w'.heap.size b n (fun _ => false) ∧ Out 0 0 w w' := by
  have h0 : (0 : Int) ≤ (n : Int) := by omega
  have h1 : (n : Int) ≤ 262144 := by omega
  have hmk := run_make_row' (P := Tryd.prog) 47 4 (.bool false) 1 Tryd.underlying47 info_bool rfl .i64 .i64 n (by omega) (by omega)
  go_enter Tryd.func19, Tryd.ntmps19
  go_wp2
  go_ret2
  exact ⟨_, rfl, refAt_new n w h, ((Out.refl _ _ _).alloc _).alloc _⟩
theorem put_yes {w : World} {lo hi b n : Nat} {S : Nat → Bool} (h : RefAt w lo hi b n S) (i : Nat) (hi' : i < n) (v : Bool) :
    Calls Tryd.prog 31 #[.pointer (some ⟨b, 0, none⟩), .int .i64 i, .bool v] w fun e w' => e = .returned (.int .i64 0) ∧ RefAt w' lo hi b n (upd S i v) ∧ Out lo hi w w' := by
  obtain ⟨br, cap, hb, c0, l1, l2, l3, hr⟩ := h.words (by omega)
  have c1 := hr.cell hi'
  have c2 := hr.frozen i
  have HF := hid_mk (h.store hb hr l1 l2 l3 i hi' v).1
  have HO : Hid (lo ≤ br ∧ br < hi) := ⟨l1, l2⟩
  have i1 : (0 : Int) ≤ (i : Int) := by omega
  have i2 : (i : Int) < (n : Int) := by omega
  clear h hb hr l1 l2 l3
  go_enter Tryd.func31, Tryd.ntmps31
  go_wp2
  go_ret
  exact ⟨rfl, HF.out, (Out.refl _ _ _).setCell (.inl HO.out) _⟩
theorem put_no {w : World} {lo hi b n : Nat} {S : Nat → Bool} (h : RefAt w lo hi b n S) (i : Int) (hi' : inB n i = false) (v : Bool) :
    Calls Tryd.prog 31 #[.pointer (some ⟨b, 0, none⟩), .int .i64 i, .bool v] w fun e w' => e = .returned (.int .i64 10) ∧ w' = w := by
  obtain ⟨ao, cap, c0⟩ := h.field
  clear h
  by_cases h0 : 0 ≤ i
  · have h1 : (n : Int) ≤ i := by simp [inB, h0] at hi'; omega
    clear hi'
    go_enter Tryd.func31, Tryd.ntmps31
    go_wp2
    go_ret
    exact ⟨rfl, rfl⟩
  · have h1 : i < 0 := by omega
    clear hi' h0
    go_enter Tryd.func31, Tryd.ntmps31
    go_wp2
    go_ret
    exact ⟨rfl, rfl⟩
theorem put_any {w : World} {lo hi b n : Nat} {S : Nat → Bool} (h : RefAt w lo hi b n S) (i : Int) (v : Bool) :
    Calls Tryd.prog 31 #[.pointer (some ⟨b, 0, none⟩), .int .i64 i, .bool v] w fun e w' => e = .returned (.int .i64 (setE n i)) ∧ RefAt w' lo hi b n (setS S n i v) ∧ Out lo hi w w' := by
  unfold setE setS
  by_cases hi' : inB n i = true
  · rw [if_pos hi', if_pos hi']
    obtain ⟨k, rfl, hk, e⟩ := inB_nat hi'
    rw [e]
    exact put_yes h k hk v
  · rw [if_neg hi', if_neg hi']
    exact (put_no h i (by simpa using hi') v).mono fun e w' ⟨h1, h2⟩ => ⟨h1, by rw [h2]; exact h, by rw [h2]; exact Out.refl _ _ _⟩
theorem refGet_any {w : World} {lo hi b n : Nat} {S : Nat → Bool} (h : RefAt w lo hi b n S) (i : Int) :
    Calls Tryd.prog 39 #[.pointer (some ⟨b, 0, none⟩), .int .i64 i] w fun e w' => e = .returned (.bool (getB S n i)) ∧ w' = w := by
  unfold getB
  by_cases h0 : 0 ≤ i
  · by_cases h1 : i < n
    · obtain ⟨k, rfl⟩ := Int.eq_ofNat_of_zero_le h0
      have hk : k < n := by omega
      obtain ⟨br, cap, hb, c0, l1, l2, l3, hr⟩ := h.words (by omega)
      have c1 := hr.cell hk
      have e : inB n (k : Int) = true := by simp [inB]; omega
      rw [e, Int.toNat_natCast, Bool.true_and]
      clear h hb hr l1 l2 l3 e
      go_enter Tryd.func39, Tryd.ntmps39
      go_wp2
      go_ret
      exact ⟨rfl, rfl⟩
    · obtain ⟨ao, cap, c0⟩ := h.field
      have e : inB n i = false := by simp [inB, h1]
      rw [e, Bool.false_and]
      have h2 : (n : Int) ≤ i := by omega
      clear h e h1
      go_enter Tryd.func39, Tryd.ntmps39
      go_wp2
      go_ret
      exact ⟨rfl, rfl⟩
  · have e : inB n i = false := by simp [inB, h0]
    rw [e, Bool.false_and]
    have h2 : i < 0 := by omega
    clear h e h0
    go_enter Tryd.func39, Tryd.ntmps39
    go_wp2
    go_ret
    exact ⟨rfl, rfl⟩
theorem fill_upd (S : Nat → Bool) (a i : Nat) (v : Bool) (h : a ≤ i) : upd (fill S a i v) i v = fill S a (i + 1) v := by
  funext j
  unfold upd fill
  by_cases h1 : j = i
  · rw [if_pos h1, if_pos (by omega)]
  · rw [if_neg h1]
    by_cases h2 : a ≤ j ∧ j < i
    · rw [if_pos h2, if_pos (by omega)]
    · rw [if_neg h2, if_neg (by omega)]
set_option maxHeartbeats 1000000 in
theorem putRange_yes {w : World} {lo hi b n : Nat} {S : Nat → Bool} (h : RefAt w lo hi b n S) (a t : Nat) (h1 : a ≤ t) (h2 : t ≤ n) (v : Bool) :
    Calls Tryd.prog 34 #[.pointer (some ⟨b, 0, none⟩), .int .i64 a, .int .i64 t, .bool v] w fun e w' => e = .returned (.int .i64 0) ∧ RefAt w' lo hi b n (fill S a t v) ∧ Out lo hi w w' := by
  obtain ⟨ao, cap, c0⟩ := h.field
  have HM := hid_mk h
  have HN := hid_mk h.bounds.2.2.2.1
  have i1 : (0 : Int) ≤ (a : Int) := by omega
  have i2 : (a : Int) ≤ (t : Int) := by omega
  have i3 : (t : Int) ≤ (n : Int) := by omega
  clear h
  go_enter Tryd.func34, Tryd.ntmps34
  go_wp2_with fail
  go_loopw [9] (fun x wr => ∃ i : Nat, a ≤ i ∧ i ≤ t ∧ x = .int .i64 i ∧ RefAt wr lo hi b n (fill S a i v) ∧ Out lo hi w wr) (fun x _ => t - (intOf x).toNat)
  case atStart => exact ⟨a, Nat.le_refl _, h1, rfl, by rw [fill_nil _ _ _ _ (Nat.le_refl _)]; exact HM.out, Out.refl _ _ _⟩
  case round =>
    clear c0
    obtain ⟨i, g1, g2, rfl, g3, g4⟩ := hrel
    by_cases hit : i < t
    · obtain ⟨br, cap', hb, c0, l1, l2, l3, hr⟩ := g3.words (by omega)
      have c1 := hr.cell (show i < n by omega)
      have c2 := hr.frozen i
      have HF := hid_mk (g3.store hb hr l1 l2 l3 i (by omega) v).1
      rw [fill_upd S a i v g1] at HF
      have HO := hid_mk (g4.setCell (p := ⟨br, i, none⟩) (.inl ⟨l1, l2⟩) (.bool v))
      have j1 : (0 : Int) ≤ (i : Int) := by omega
      have j2 : (i : Int) < (n : Int) := by omega
      have j3 : (i : Int) < (t : Int) := by omega
      have j4 : (i : Int) < 1000000 := by have := HN.out; omega
      clear g3 g4 hb hr l1 l2 l3
      go_wp2
      go_roundw
      case rel => exact ⟨i + 1, by omega, by omega, by go_num, HF.out, HO.out⟩
      case measure => simp [intOf]; omega
    · obtain rfl : i = t := by omega
      have G3 := hid_mk g3
      have G4 := hid_mk g4
      clear g3 g4
      go_wp2
      go_ret
      exact ⟨rfl, G3.out, G4.out⟩
theorem putRange_no {w : World} {lo hi b n : Nat} {S : Nat → Bool} (h : RefAt w lo hi b n S) (a t : Int) (hr : inR n a t = false) (v : Bool) :
    Calls Tryd.prog 34 #[.pointer (some ⟨b, 0, none⟩), .int .i64 a, .int .i64 t, .bool v] w fun e w' => e = .returned (.int .i64 10) ∧ w' = w := by
  obtain ⟨ao, cap, c0⟩ := h.field
  clear h
  by_cases h0 : 0 ≤ a
  · by_cases h1 : t ≤ n
    · have h2 : t < a := by simp [inR, h0] at hr; omega
      clear hr
      go_enter Tryd.func34, Tryd.ntmps34
      go_wp2
      go_ret
      exact ⟨rfl, rfl⟩
    · have h2 : (n : Int) < t := by omega
      clear hr h1
      go_enter Tryd.func34, Tryd.ntmps34
      go_wp2
      go_ret
      exact ⟨rfl, rfl⟩
  · have h2 : a < 0 := by omega
    clear hr h0
    go_enter Tryd.func34, Tryd.ntmps34
    go_wp2
    go_ret
    exact ⟨rfl, rfl⟩
theorem putRange_any {w : World} {lo hi b n : Nat} {S : Nat → Bool} (h : RefAt w lo hi b n S) (a t : Int) (v : Bool) :
    Calls Tryd.prog 34 #[.pointer (some ⟨b, 0, none⟩), .int .i64 a, .int .i64 t, .bool v] w fun e w' => e = .returned (.int .i64 (rngE n a t)) ∧ RefAt w' lo hi b n (rngS S n a t v) ∧ Out lo hi w w' := by
  unfold rngE rngS
  by_cases hr : inR n a t = true
  · rw [if_pos hr, if_pos hr]
    obtain ⟨x, y, rfl, rfl, h1, h2⟩ := inR_nat hr
    rw [Int.toNat_natCast, Int.toNat_natCast]
    exact putRange_yes h x y h1 h2 v
  · rw [if_neg hr, if_neg hr]
    exact (putRange_no h a t (by simpa using hr) v).mono fun e w' ⟨h1, h2⟩ => ⟨h1, by rw [h2]; exact h, by rw [h2]; exact Out.refl _ _ _⟩
set_option maxHeartbeats 1000000 in
theorem refReset_any {w : World} {lo hi b n : Nat} {S : Nat → Bool} (h : RefAt w lo hi b n S) :
    Calls Tryd.prog 37 #[.pointer (some ⟨b, 0, none⟩)] w fun e w' => e = .returned (.tuple #[]) ∧ RefAt w' lo hi b n (fun _ => false) ∧ Out lo hi w w' := by
  have HM := hid_mk h
  have HN := hid_mk h.bounds.2.2.2.1
  have HS := hid_mk h.bounds.2.2.2.2
  clear h
  go_enter Tryd.func37, Tryd.ntmps37
  go_wp2_with fail
  go_loopw [2] (fun x wr => ∃ i : Nat, i ≤ n ∧ x = .int .i64 i ∧ RefAt wr lo hi b n (fill S 0 i false) ∧ Out lo hi w wr) (fun x _ => n - (intOf x).toNat)
  case atStart => exact ⟨0, Nat.zero_le _, rfl, by rw [fill_nil _ _ _ _ (Nat.le_refl _)]; exact HM.out, Out.refl _ _ _⟩
  case round =>
    obtain ⟨i, g2, rfl, g3, g4⟩ := hrel
    by_cases hit : i < n
    · obtain ⟨br, cap', hb, c0, l1, l2, l3, hr⟩ := g3.words (by omega)
      have c1 := hr.cell hit
      have c2 := hr.frozen i
      have HF := hid_mk (g3.store hb hr l1 l2 l3 i hit false).1
      rw [fill_upd S 0 i false (Nat.zero_le _)] at HF
      have HO := hid_mk (g4.setCell (p := ⟨br, i, none⟩) (.inl ⟨l1, l2⟩) (.bool false))
      have j1 : (0 : Int) ≤ (i : Int) := by omega
      have j2 : (i : Int) < (n : Int) := by omega
      have j4 : (i : Int) < 1000000 := by have := HN.out; omega
      clear g3 g4 hb hr l1 l2 l3
      go_wp2
      go_roundw
      case rel => exact ⟨i + 1, by omega, by go_num, HF.out, HO.out⟩
      case measure => simp [intOf]; omega
    · obtain rfl : i = n := by omega
      obtain ⟨ao, cap, c0⟩ := g3.field
      have G3 := hid_mk g3
      have G4 := hid_mk g4
      clear g3 g4
      go_wp2
      refine bodyPost_end (results_none Tryd.results37 _ _ _) rfl ⟨rfl, ?_, G4.out⟩
      have e : fill S 0 i false = fun _ => false := by
        funext j
        unfold fill
        by_cases hj : 0 ≤ j ∧ j < i
        · rw [if_pos hj]
        · rw [if_neg hj]; exact HS.out j (by omega)
      have := G3.out
      rw [e] at this
      exact this
end Go.Proofs.YtnkobcldagajeaaDoor
