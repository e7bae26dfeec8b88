import Derived.Test.YtcpignkjlnjjmaaDoorNk07
import Derived.Deep.QuietTactic
import Derived.BigQuiet
namespace Go.Proofs.YtcpignkjlnjjmaaDoor
open Go.RowKit
set_option linter.unusedVariables false
set_option linter.unusedSimpArgs false

theorem info_u64 : (Tryd.prog.info? 120).map (fun i => (i.zero, i.size, i.bytes)) = some (some (.int .u64 0), 1, 8) := by kernel_rfl
theorem pk_none_all (i : Nat) : pk (fun _ => false) i = 0 := (pk_ext fun j => by simp).symm
theorem bnew_no (n : Int) (w : World) (h : n < 0 ∨ 262144 < n) :
    Calls Tryd.prog 54 #[.int .i64 n] w fun e w' => e = .returned (.tuple #[.pointer none, .int .i64 1]) ∧ w' = w := by
  rcases h with h | h
  · go_enter Tryd.func54, Tryd.ntmps54
    go_wp2
    go_ret2
    exact ⟨rfl, rfl⟩
  · have h0 : 0 ≤ n := by omega
    go_enter Tryd.func54, Tryd.ntmps54
    go_wp2
    go_ret2
    exact ⟨rfl, rfl⟩
theorem mapAt_new (n : Nat) (w : World) (h : n ≤ 262144) (hT : Tab w) : MapAt ((w.alloc (.cells (madeCells #[.int .u64 0] (nw n)) 120)).alloc (.cells #[.int .i64 n, .slice (some ⟨w.heap.size, 0, none⟩) (nw n) (nw n)] 113))
    w.heap.size ((w.alloc (.cells (madeCells #[.int .u64 0] (nw n)) 120)).alloc (.cells #[.int .i64 n, .slice (some ⟨w.heap.size, 0, none⟩) (nw n) (nw n)] 113)).heap.size (w.heap.size + 1) n (fun _ => false) := by
  have g : Out 0 0 w ((w.alloc (.cells (madeCells #[.int .u64 0] (nw n)) 120)).alloc (.cells #[.int .i64 n, .slice (some ⟨w.heap.size, 0, none⟩) (nw n) (nw n)] 113)) := ((Out.refl _ _ _).alloc _).alloc _
  refine ⟨_, _, heap_alloc2_new _ _ _, by omega, by simp, Nat.le_refl _, hT.lt, h, Nat.le_refl _, fun _ _ => rfl, hT.kept g (.inr rfl), Nat.le_refl _, by simp; omega, by omega, ?_⟩
  obtain ⟨c, hb, hn, hc⟩ := (World.rowIs_made w (.int .u64 0) (nw n) 120).alloc (.cells #[.int .i64 n, .slice (some ⟨w.heap.size, 0, none⟩) (nw n) (nw n)] 113)
  exact ⟨c, hb, by omega, fun i hi => by rw [hc i hi]; show some (Value.int IntKind.u64 0) = some (Value.int IntKind.u64 ↑(pk (fun _ => false) i)); rw [pk_none_all]; rfl⟩
set_option maxHeartbeats 1000000 in
theorem bnew_any (n : Nat) (w : World) (h : n ≤ 262144) (hT : Tab w) :
    Calls Tryd.prog 54 #[.int .i64 n] w fun e w' => ∃ b, e = .returned (.tuple #[.pointer (some ⟨b, 0, none⟩), .int .i64 0]) ∧ MapAt w' w.heap.size w'.heap.size b n (fun _ => false) ∧ Out 0 0 w w' := by
  have h0 : (0 : Int) ≤ (n : Int) := by omega
  have h1 : (n : Int) ≤ 262144 := by omega
  have hn : nw n ≤ 4096 := by unfold nw; omega
  have hmk := run_make_row' (P := Tryd.prog) 111 120 (.int .u64 0) 8 Tryd.underlying111 info_u64 rfl .i64 .i64 (nw n) (by omega) (by omega)
  have he : ((n : Int) + 64 - 1) / 64 = ((nw n : Nat) : Int) := by unfold nw; omega
  have HT := hid_mk hT
  have HN := hid_mk hn
  clear hT hn
  go_enter Tryd.func54, Tryd.ntmps54
  go_wp2
  go_ret2
  exact ⟨_, rfl, mapAt_new n w h HT.out, ((Out.refl _ _ _).alloc _).alloc _⟩
theorem MapAt.words {w : World} {lo hi b n : Nat} {S : Nat → Bool} (h : MapAt w lo hi b n S) :
    ∃ bw cap, w.heap[b]? = some (.cells #[.int .i64 n, .slice (some ⟨bw, 0, none⟩) (nw n) cap] 113 (0, 0)) ∧ nw n ≤ cap ∧ lo ≤ bw ∧ bw < hi ∧ bw ≠ b ∧ Row w bw 120 (nw n) (fun i => .int .u64 (pk S i)) := by
  obtain ⟨bw, cap, hb, h1, h2, h3, h4, h5, h6, h7, h8, l1, l2, l3, hr⟩ := h
  exact ⟨bw, cap, hb, h6, l1, l2, l3, hr⟩
/-- a word is stored -/
theorem MapAt.store {w : World} {lo hi b n bw cap : Nat} {S S' : Nat → Bool} (h : MapAt w lo hi b n S) (hb : w.heap[b]? = some (.cells #[.int .i64 n, .slice (some ⟨bw, 0, none⟩) (nw n) cap] 113 (0, 0)))
    (hr : Row w bw 120 (nw n) (fun i => .int .u64 (pk S i))) (l1 : lo ≤ bw) (l2 : bw < hi) (l3 : bw ≠ b) (k : Nat) (v : Int) (hv : v = pk S' k) (ho : ∀ i, i < nw n → i ≠ k → pk S i = pk S' i) (hS : ∀ j, n ≤ j → S' j = false) :
    MapAt (w.setCell ⟨bw, k, none⟩ (.int .u64 v)) lo hi b n S' := by
  obtain ⟨bw', cap', hb', h1, h2, h3, h4, h5, h6, h7, h8, h9⟩ := h
  have e := hb.symm.trans hb'
  simp at e
  obtain ⟨e1, e2⟩ := e
  subst e1 e2
  have g : Out lo hi w (w.setCell ⟨bw, k, none⟩ (.int .u64 v)) := (Out.refl _ _ _).setCell (.inl ⟨l1, l2⟩) _
  refine ⟨_, _, ?_, h1, h2, Nat.le_trans h3 g.size, h4, h5, h6, hS, h8.kept g (.inl h4), l1, l2, l3, ?_⟩
  · rw [Below.heap_setCell _ _ _ _ (Ne.symm l3)]; exact hb
  · refine (hr.set k _).congr fun i hi => ?_
    by_cases e : i = k
    · subst e; simp only [if_true]; rw [hv]
    · simp only [if_neg e]; rw [ho i hi e]
theorem nw_lt {i n : Nat} (h : i < n) : i / 64 < nw n := by unfold nw; omega
set_option maxHeartbeats 1000000 in
theorem set_yes {w : World} {lo hi b n : Nat} {S : Nat → Bool} (h : MapAt w lo hi b n S) (i : Nat) (hi' : i < n) :
    Calls Tryd.prog 67 #[.pointer (some ⟨b, 0, none⟩), .int .i64 i] w fun e w' => e = .returned (.int .i64 0) ∧ MapAt w' lo hi b n (upd S i true) ∧ Out lo hi w w' := by
  have hb5 := h.bounds
  obtain ⟨bw, cap, hb, hcap, l1, l2, l3, hr⟩ := h.words
  have c1 : w.cell? ⟨b, 1, none⟩ = some (.slice (some ⟨bw, 0, none⟩) (nw n) cap) := by simp [World.cell?, hb]
  have c2 := hr.cell (nw_lt hi')
  have c3 := hr.frozen (i / 64)
  have HH := hid_mk (has_any h i)
  have e0 : inB n i = true := by simp [inB]; omega
  rw [e0] at HH
  have HB := hid_mk (fun w => bit_any i w (by omega))
  have HF := hid_mk (h.store (S' := upd S i true) hb hr l1 l2 l3 (i / 64) (bits .or .u64 (pk S (i / 64)) (bitN i)) (by rw [bits_or_u64_nat _ _ (pk_lt _ _) (bitN_lt _)]; unfold bitN; rw [pk_set]) (fun j _ hj => (pk_upd_other S i j true hj).symm) (fun j hj => by unfold upd; rw [if_neg (by omega)]; exact hb5.2.2.2.2.2 j hj))
  have i1 : (0 : Int) ≤ (i : Int) := by omega
  have i2 : (i : Int) < 262144 := by omega
  obtain ⟨k, hk⟩ : ∃ k, i / 64 = k := ⟨_, rfl⟩
  have i3 : (k : Int) < (nw n : Int) := by have := nw_lt hi'; omega
  have i4 : (0 : Int) ≤ (k : Int) := by omega
  have hk' : (i : Int) / 64 = (k : Int) := by omega
  have hk2 : (i : Int).tdiv 64 = (k : Int) := by rw [Int.tdiv_eq_ediv_of_nonneg i1]; exact hk'
  have hk3 : IntKind.i64.wrap (k : Int) = (k : Int) := by simp [IntKind.wrap, IntKind.signed, IntKind.bits]; omega
  rw [hk] at c2 c3 HF
  clear hk
  have HO := hid_mk l1
  have HP := hid_mk l2
  clear h hb hr l3 e0 hb5 hcap l1 l2
  go_enter Tryd.func67, Tryd.ntmps67
  go_wp2_with (first | (go_at_call 78; refine calls_same HH.out ?_) | (go_at_call 79; refine calls_same (HB.out _) ?_))
  go_region_with (go_at_call 79; refine calls_same (HB.out _) ?_)
  all_goals (try go_wp2)
  all_goals go_ret
  all_goals exact ⟨rfl, HF.out.drew, ((Out.refl _ _ _).setCell (.inl ⟨HO.out, HP.out⟩) _).drew⟩
def setE (n : Nat) (i : Int) : Int := if inB n i = true then 0 else 10
def setS (S : Nat → Bool) (n : Nat) (i : Int) (v : Bool) : Nat → Bool := if inB n i = true then upd S i.toNat v else S
theorem set_no {w : World} {lo hi b n : Nat} {S : Nat → Bool} (h : MapAt w lo hi b n S) (i : Int) (hi' : inB n i = false) :
    Calls Tryd.prog 67 #[.pointer (some ⟨b, 0, none⟩), .int .i64 i] w fun e w' => e = .returned (.int .i64 10) ∧ w' = w := by
  have HH := hid_mk (has_any h i)
  rw [hi'] at HH
  clear hi'
  go_enter Tryd.func67, Tryd.ntmps67
  go_wp2_with (go_at_call 78; refine calls_same HH.out ?_)
  go_ret
  exact ⟨rfl, rfl⟩
theorem inB_nat {n : Nat} {i : Int} (h : inB n i = true) : ∃ k : Nat, i = k ∧ k < n ∧ i.toNat = k := by
  simp [inB] at h
  exact ⟨i.toNat, by omega, by omega, rfl⟩
theorem set_any {w : World} {lo hi b n : Nat} {S : Nat → Bool} (h : MapAt w lo hi b n S) (i : Int) :
    Calls Tryd.prog 67 #[.pointer (some ⟨b, 0, none⟩), .int .i64 i] w fun e w' => e = .returned (.int .i64 (setE n i)) ∧ MapAt w' lo hi b n (setS S n i true) ∧ Out lo hi w w' := by
  by_cases hi' : inB n i = true
  · unfold setE setS
    rw [if_pos hi', if_pos hi']
    obtain ⟨k, rfl, hk, e⟩ := inB_nat hi'
    rw [e]
    exact set_yes h k hk
  · unfold setE setS
    rw [if_neg hi', if_neg hi']
    exact (set_no h i (by simpa using hi')).mono fun e w' ⟨h1, h2⟩ => ⟨h1, by rw [h2]; exact h, by rw [h2]; exact Out.refl _ _ _⟩
theorem out_drewN (w : World) (m : Nat) : Out 0 0 w (w.drewN m) := ⟨rfl, rfl, rfl, Nat.le_refl _, fun _ _ _ => rfl⟩
/-- is it in? -/
def getB (S : Nat → Bool) (n : Nat) (i : Int) : Bool := inB n i && S i.toNat
set_option maxHeartbeats 1000000 in
theorem get_yes {w : World} {lo hi b n : Nat} {S : Nat → Bool} (h : MapAt w lo hi b n S) (i : Nat) (hi' : i < n) :
    Calls Tryd.prog 93 #[.pointer (some ⟨b, 0, none⟩), .int .i64 i] w fun e w' => e = .returned (.bool (S i)) ∧ Out 0 0 w w' := by
  have hb5 := h.bounds
  obtain ⟨bw, cap, hb, hcap, l1, l2, l3, hr⟩ := h.words
  have c1 : w.cell? ⟨b, 1, none⟩ = some (.slice (some ⟨bw, 0, none⟩) (nw n) cap) := by simp [World.cell?, hb]
  have c2 := hr.cell (nw_lt hi')
  have HH := hid_mk (fun w (h : MapAt w lo hi b n S) => has_any h i)
  have e0 : inB n i = true := by simp [inB]; omega
  rw [e0] at HH
  have HM := hid_mk h
  have HB := hid_mk (fun w => bit_any i w (by omega))
  have HV : Hid ((bits .and .u64 (pk S (i / 64)) (bitN i) != 0) = S i) := by
    show (bits .and .u64 (pk S (i / 64)) (bitN i) != 0) = S i
    rw [bits_and_u64_nat _ _ (pk_lt _ _) (bitN_lt _)]
    have hp := bitN_pos i
    unfold bitN at *
    rw [pk_get]
    generalize 2 ^ (i % 64) = p at *
    cases hs : S i
    · simp
    · simp; omega
  have i1 : (0 : Int) ≤ (i : Int) := by omega
  have i2 : (i : Int) < 262144 := by omega
  obtain ⟨k, hk⟩ : ∃ k, i / 64 = k := ⟨_, rfl⟩
  have i3 : (k : Int) < (nw n : Int) := by have := nw_lt hi'; omega
  have i4 : (0 : Int) ≤ (k : Int) := by omega
  have hk' : (i : Int) / 64 = (k : Int) := by omega
  have hk2 : (i : Int).tdiv 64 = (k : Int) := by rw [Int.tdiv_eq_ediv_of_nonneg i1]; exact hk'
  have hk3 : IntKind.i64.wrap (k : Int) = (k : Int) := by simp [IntKind.wrap, IntKind.signed, IntKind.bits]; omega
  rw [hk] at c2 HV
  clear hk
  clear h hb hr l3 e0 hb5 hcap l1 l2
  go_enter Tryd.func93, Tryd.ntmps93
  go_wp2_with fail
  go_region_held3 (fun w' => w'.cell? ⟨b, 1, none⟩ = some (.slice (some ⟨bw, 0, none⟩) (nw n) cap) ∧ w'.cell? ⟨bw, k, none⟩ = some (.int .u64 (pk S k))) (go_keep)
    (first | (go_at_call 78; refine calls_same (HH.out _ (by exact HM.out.drew)) ?_) | (go_at_call 79; refine calls_same (HB.out _) ?_))
  all_goals (try go_wp2)
  all_goals go_ret
  all_goals exact ⟨ret_bool HV.out, (Out.refl _ _ _).drew⟩
theorem get_no {w : World} {lo hi b n : Nat} {S : Nat → Bool} (h : MapAt w lo hi b n S) (i : Int) (hi' : inB n i = false) :
    Calls Tryd.prog 93 #[.pointer (some ⟨b, 0, none⟩), .int .i64 i] w fun e w' => e = .returned (.bool false) ∧ Out 0 0 w w' := by
  have HH := hid_mk (fun w (h : MapAt w lo hi b n S) => has_any h i)
  rw [hi'] at HH
  have HM := hid_mk h
  clear h hi'
  go_enter Tryd.func93, Tryd.ntmps93
  go_wp2_with fail
  go_quiet ((go_at_call 78; exact Calls.quiet_of_same (HH.out _ (HM.out.quiet (out_drewN _ _)))))
  all_goals (try go_wp2)
  all_goals go_ret
  all_goals exact ⟨rfl, out_drewN _ _⟩
theorem get_any {w : World} {lo hi b n : Nat} {S : Nat → Bool} (h : MapAt w lo hi b n S) (i : Int) :
    Calls Tryd.prog 93 #[.pointer (some ⟨b, 0, none⟩), .int .i64 i] w fun e w' => e = .returned (.bool (getB S n i)) ∧ Out 0 0 w w' := by
  unfold getB
  by_cases hi' : inB n i = true
  · rw [hi']
    obtain ⟨k, rfl, hk, e⟩ := inB_nat hi'
    rw [e]
    exact get_yes h k hk
  · rw [Bool.eq_false_iff.mpr hi']
    exact get_no h i (by simpa using hi')
set_option maxHeartbeats 1000000 in
theorem clear_yes {w : World} {lo hi b n : Nat} {S : Nat → Bool} (h : MapAt w lo hi b n S) (i : Nat) (hi' : i < n) :
    Calls Tryd.prog 76 #[.pointer (some ⟨b, 0, none⟩), .int .i64 i] w fun e w' => e = .returned (.int .i64 0) ∧ MapAt w' lo hi b n (upd S i false) ∧ Out lo hi w w' := by
  have hb5 := h.bounds
  obtain ⟨bw, cap, hb, hcap, l1, l2, l3, hr⟩ := h.words
  have c1 : w.cell? ⟨b, 1, none⟩ = some (.slice (some ⟨bw, 0, none⟩) (nw n) cap) := by simp [World.cell?, hb]
  have c2 := hr.cell (nw_lt hi')
  have c3 := hr.frozen (i / 64)
  have HH := hid_mk (has_any h i)
  have e0 : inB n i = true := by simp [inB]; omega
  rw [e0] at HH
  have HB := hid_mk (fun w => bit_any i w (by omega))
  have HF := hid_mk (h.store (S' := upd S i false) hb hr l1 l2 l3 (i / 64) (bits .andNot .u64 (pk S (i / 64)) (bitN i)) (by rw [bits_andNot_u64_nat _ _ (pk_lt _ _) (bitN_lt _)]; unfold bitN; rw [pk_clear]) (fun j _ hj => (pk_upd_other S i j false hj).symm) (fun j hj => by unfold upd; rw [if_neg (by omega)]; exact hb5.2.2.2.2.2 j hj))
  have i1 : (0 : Int) ≤ (i : Int) := by omega
  have i2 : (i : Int) < 262144 := by omega
  obtain ⟨k, hk⟩ : ∃ k, i / 64 = k := ⟨_, rfl⟩
  have i3 : (k : Int) < (nw n : Int) := by have := nw_lt hi'; omega
  have i4 : (0 : Int) ≤ (k : Int) := by omega
  have hk' : (i : Int) / 64 = (k : Int) := by omega
  have hk2 : (i : Int).tdiv 64 = (k : Int) := by rw [Int.tdiv_eq_ediv_of_nonneg i1]; exact hk'
  have hk3 : IntKind.i64.wrap (k : Int) = (k : Int) := by simp [IntKind.wrap, IntKind.signed, IntKind.bits]; omega
  rw [hk] at c2 c3 HF
  clear hk
  have HO := hid_mk l1
  have HP := hid_mk l2
  clear h hb hr l3 e0 hb5 hcap l1 l2
  go_enter Tryd.func76, Tryd.ntmps76
  go_wp2_with (go_at_call 78; refine calls_same HH.out ?_)
  go_region_with (go_at_call 79; refine calls_same (HB.out _) ?_)
  all_goals (try go_wp2)
  all_goals go_ret
  all_goals exact ⟨rfl, HF.out.drew, ((Out.refl _ _ _).setCell (.inl ⟨HO.out, HP.out⟩) _).drew⟩
theorem clear_no {w : World} {lo hi b n : Nat} {S : Nat → Bool} (h : MapAt w lo hi b n S) (i : Int) (hi' : inB n i = false) :
    Calls Tryd.prog 76 #[.pointer (some ⟨b, 0, none⟩), .int .i64 i] w fun e w' => e = .returned (.int .i64 10) ∧ w' = w := by
  have HH := hid_mk (has_any h i)
  rw [hi'] at HH
  clear hi'
  go_enter Tryd.func76, Tryd.ntmps76
  go_wp2_with (go_at_call 78; refine calls_same HH.out ?_)
  go_ret
  exact ⟨rfl, rfl⟩
theorem clear_any {w : World} {lo hi b n : Nat} {S : Nat → Bool} (h : MapAt w lo hi b n S) (i : Int) :
    Calls Tryd.prog 76 #[.pointer (some ⟨b, 0, none⟩), .int .i64 i] w fun e w' => e = .returned (.int .i64 (setE n i)) ∧ MapAt w' lo hi b n (setS S n i false) ∧ Out lo hi w w' := by
  by_cases hi' : inB n i = true
  · unfold setE setS
    rw [if_pos hi', if_pos hi']
    obtain ⟨k, rfl, hk, e⟩ := inB_nat hi'
    rw [e]
    exact clear_yes h k hk
  · unfold setE setS
    rw [if_neg hi', if_neg hi']
    exact (clear_no h i (by simpa using hi')).mono fun e w' ⟨h1, h2⟩ => ⟨h1, by rw [h2]; exact h, by rw [h2]; exact Out.refl _ _ _⟩
end Go.Proofs.YtcpignkjlnjjmaaDoor
namespace Go.Proofs.YtcpignkjlnjjmaaDoor
open Go.RowKit
set_option linter.unusedVariables false
set_option linter.unusedSimpArgs false

theorem seek_out {w : World} {lo hi b n : Nat} {S : Nat → Bool} (h : MapAt w lo hi b n S) (a : Int) (x : Int) (ha : (n : Int) ≤ a) :
    Calls Tryd.prog 83 #[.pointer (some ⟨b, 0, none⟩), .int .i64 a, .int .u64 x] w fun e w' => e = .returned (.int .i64 n) ∧ w' = w := by
  have H := hid_mk (len_any h)
  clear h
  go_enter Tryd.func83, Tryd.ntmps83
  go_wp2_with (go_at_call 84; refine calls_same H.out ?_)
  go_ret
  exact ⟨rfl, rfl⟩
/-- what is looked for: those that are in, or (fl) those that are out -/
def flp (S : Nat → Bool) (fl : Bool) : Nat → Bool := fun j => S j != fl
def flv (fl : Bool) : Nat := if fl then 18446744073709551615 else 0
theorem flv_lt (fl : Bool) : flv fl < 18446744073709551616 := by cases fl <;> decide
theorem pk_flp (S : Nat → Bool) (fl : Bool) (s : Nat) : bits .xor .u64 (pk S s) (flv fl) = pk (flp S fl) s := by
  rw [bits_xor_u64_nat _ _ (pk_lt _ _) (flv_lt _)]
  cases fl
  · show ((pk S s ^^^ 0 : Nat) : Int) = _
    rw [pk_flip0]
    rw [pk_congr (S := flp S false) (T := S) fun j _ => by simp [flp]]
  · show ((pk S s ^^^ 18446744073709551615 : Nat) : Int) = _
    rw [pk_flip1]
    rw [pk_congr (S := flp S true) (T := fun j => !S j) fun j _ => by simp [flp]]
theorem head_eq (T : Nat → Bool) (a : Nat) : bits .andNot .u64 (pk T (a / 64)) (IntKind.u64.wrap ((bitN a : Int) - 1)) = pk (from_ T a) (a / 64) := by
  have h1 := bitN_lt a
  have h2 := bitN_pos a
  have e : IntKind.u64.wrap ((bitN a : Int) - 1) = ((bitN a - 1 : Nat) : Int) := by rw [IntKind.wrap_u64]; omega
  rw [e, bits_andNot_u64_nat _ _ (pk_lt _ _) (by omega)]
  unfold bitN
  rw [pk_head]
set_option maxRecDepth 100000 in
set_option maxHeartbeats 2000000 in
theorem seek_in {w : World} {lo hi b n : Nat} {S : Nat → Bool} (h : MapAt w lo hi b n S) (a x : Nat) (fl : Bool) (hx : x = flv fl) (ha : a < n) :
    Calls Tryd.prog 83 #[.pointer (some ⟨b, 0, none⟩), .int .i64 a, .int .u64 x] w fun e w' => e = .returned (.int .i64 (nx (flp S fl) n a)) ∧ Out 0 0 w w' := by
  have hb5 := h.bounds
  have c0 := h.len
  obtain ⟨bw, cap, hb, hcap, l1, l2, l3, hr⟩ := h.words
  have c1 : w.cell? ⟨b, 1, none⟩ = some (.slice (some ⟨bw, 0, none⟩) (nw n) cap) := by simp [World.cell?, hb]
  have c2 := hr.cell (nw_lt ha)
  have HR := hid_mk hr
  have HH := hid_mk (len_any h)
  have HT := hid_mk h.tab
  have HB := hid_mk (fun w => bit_any a w (by omega))
  have HX := hid_mk (pk_flp S fl)
  rw [← hx] at HX
  clear hx
  have HE := hid_mk (head_eq (flp S fl) a)
  have HN : Hid (nw n * 64 < n + 64 ∧ n ≤ nw n * 64 ∧ nw n ≤ 4096) := by show _ ∧ _ ∧ _; unfold nw; omega
  have HA := hid_mk (nw_lt ha)
  have i1 : (0 : Int) ≤ (a : Int) := by omega
  have i5 : (a : Int) < (n : Int) := by omega
  obtain ⟨k, hk⟩ : ∃ k, a / 64 = k := ⟨_, rfl⟩
  have i3 : (k : Int) < (nw n : Int) := by have := nw_lt ha; omega
  have i4 : (0 : Int) ≤ (k : Int) := by omega
  have i7 : (k : Int) < 4096 := by omega
  have hk' : (a : Int) / 64 = (k : Int) := by omega
  have HK := hid_mk hk
  rw [hk] at c2 HE HA
  clear hk h hb hr l3 hb5 hcap l1 l2
  go_enter Tryd.func83, Tryd.ntmps83
  go_wp2_with (go_at_call 84; refine calls_same HH.out ?_)
  go_region_held3 (fun w' => w'.cell? ⟨b, 1, none⟩ = some (.slice (some ⟨bw, 0, none⟩) (nw n) cap) ∧ w'.cell? ⟨bw, k, none⟩ = some (.int .u64 (pk S k))) (go_keep)
    (first | (go_at_call 79; refine calls_same (HB.out _) ?_))
  rw [HX.out, HE.out]
  clear hk' c2
  go_wp2_with fail
  go_loop [7, 8] (fun t r => ∃ s : Nat, k ≤ s ∧ s < nw n ∧ t = .int .i64 s ∧ r = .int .u64 (pk (from_ (flp S fl) a) s) ∧ ∀ j, a ≤ j → j < 64 * s → flp S fl j = false) (fun t _ => nw n - (intOf t).toNat)
  case atStart => exact ⟨k, Nat.le_refl _, HA.out, rfl, rfl, fun j h1 h2 => by have := HK.out; omega⟩
  case round =>
    obtain ⟨s, hs1, hs2, rfl, rfl, hz⟩ := hrel
    have HZ := hid_mk hz
    have j1 : (s : Int) < (nw n : Int) := by omega
    have j2 : (0 : Int) ≤ (s : Int) := by omega
    have j3 : (s : Int) < 4096 := by have := HN.out; omega
    obtain ⟨r, hr⟩ : ∃ r, pk (from_ (flp S fl) a) s = r := ⟨_, rfl⟩
    have hrl : r < 18446744073709551616 := by rw [← hr]; exact pk_lt _ _
    rw [hr]
    have HQ := hid_mk hr
    have HL := hid_mk hrl
    have HG := hid_mk ha
    have HS := hid_mk hs1
    have HS2 := hid_mk hs2
    clear hz hr hrl ha hs1 hs2
    by_cases h0 : r = 0
    · subst h0
      by_cases h1 : s + 1 = nw n
      · have h2 : (((s : Int) + 1) == (nw n : Int)) = true := by rw [beq_iff_eq]; omega
        have HR1 := hid_mk h1
        clear h1 i3 j1
        go_wp2
        go_ret
        refine ⟨ret_int ?_, (Out.refl _ _ _).drew⟩
        rw [seek_none (seek_step HZ.out HQ.out) (by have := HN.out; have := HR1.out; omega)]
      · have h2 : (((s : Int) + 1) == (nw n : Int)) = false := by rw [beq_eq_false_iff_ne]; omega
        have h3 : (s : Int) + 1 < (nw n : Int) := by omega
        have c3 : w.cell? ⟨bw, s + 1, none⟩ = some (.int .u64 (pk S (s + 1))) := HR.out.cell (by omega)
        have HR1 := hid_mk h1
        clear h1
        go_wp2
        rw [HX.out, ← pk_tail (flp S fl) a (s + 1) (by have := HS.out; have := HK.out; omega)]
        go_round
        case rel => exact ⟨s + 1, by have := HS.out; omega, by have := HS2.out; have := HR1.out; omega, by go_num, rfl, seek_step HZ.out HQ.out⟩
        case measure => simp [intOf]; omega
    · have h2 : ((r : Int) == 0) = false := by rw [beq_eq_false_iff_ne]; omega
      have HC := hid_mk (fun w (hT : Tab w) => tz_any r HL.out h0 hT)
      have HV := hid_mk (seek_found (n := n) HG.out (by rw [HK.out]; exact HS.out) HZ.out (by rw [HQ.out]; exact h0))
      rw [HQ.out] at HV
      have hc6 : (Lib.ctz 64 r : Int) < 64 := by have := (ctz_spec r h0 HL.out).1; omega
      generalize Lib.ctz 64 r = c at *
      have hw1 : IntKind.i64.wrap ((s : Int) * 64) = (s : Int) * 64 := by simp [IntKind.wrap, IntKind.signed, IntKind.bits]; omega
      have hw2 : IntKind.i64.wrap ((s : Int) * 64 + (c : Int)) = (s : Int) * 64 + (c : Int) := by simp [IntKind.wrap, IntKind.signed, IntKind.bits]; omega
      by_cases hm : (n : Int) < (s : Int) * 64 + (c : Int)
      · go_wp2_with fail
        go_region_held3 (fun w' => w'.cell? ⟨b, 0, none⟩ = some (.int .i64 n)) (go_keep)
          (first | (go_at_call 90; refine calls_same (HC.out _ (by exact HT.out)) ?_))
        all_goals (try go_wp2)
        all_goals go_ret
        all_goals exact ⟨ret_int (by have := HV.out; omega), (Out.refl _ _ _).drew.drew⟩
      · go_wp2_with fail
        go_region_held3 (fun w' => w'.cell? ⟨b, 0, none⟩ = some (.int .i64 n)) (go_keep)
          (first | (go_at_call 90; refine calls_same (HC.out _ (by exact HT.out)) ?_))
        all_goals (try go_wp2)
        all_goals go_ret
        all_goals exact ⟨ret_int (by have := HV.out; omega), (Out.refl _ _ _).drew.drew⟩
theorem flp_in (S : Nat → Bool) : flp S false = S := by funext j; simp [flp]
theorem seek_any {w : World} {lo hi b n : Nat} {S : Nat → Bool} (h : MapAt w lo hi b n S) (a : Int) (x : Nat) (fl : Bool) (hx : x = flv fl) (ha : 0 ≤ a) :
    Calls Tryd.prog 83 #[.pointer (some ⟨b, 0, none⟩), .int .i64 a, .int .u64 x] w fun e w' => e = .returned (.int .i64 (nx (flp S fl) n a.toNat)) ∧ Out 0 0 w w' := by
  by_cases hn : a < n
  · obtain ⟨k, rfl⟩ := Int.eq_ofNat_of_zero_le ha
    rw [Int.toNat_natCast]
    exact seek_in h k x fl hx (by omega)
  · rw [nx_end _ _ _ (by omega)]
    exact (seek_out h a x (by omega)).mono fun e w' ⟨h1, h2⟩ => ⟨h1, by rw [h2]; exact Out.refl _ _ _⟩

set_option maxHeartbeats 1000000 in
theorem next_any {w : World} {lo hi b n : Nat} {S : Nat → Bool} (h : MapAt w lo hi b n S) (a : Int) :
    Calls Tryd.prog 73 #[.pointer (some ⟨b, 0, none⟩), .int .i64 a] w fun e w' => e = .returned (.int .i64 (nxr S n a.toNat)) ∧ Out 0 0 w w' := by
  have hS := seek_any h (max a 0) 0 false rfl (by omega)
  rw [flp_in, show (max a 0).toNat = a.toNat from by omega] at hS
  have HL := hid_mk (fun w (h : MapAt w lo hi b n S) => len_any h)
  have HM := hid_mk h
  have hle := nx_le S n a.toNat
  unfold nxr
  generalize nx S n a.toNat = r at *
  by_cases h0 : 0 ≤ a
  · rw [show max a 0 = a from by omega] at hS
    have HS := hid_mk hS
    clear hS h
    by_cases hr : r < n
    · rw [if_pos hr]
      have e : ((r : Int) == (n : Int)) = false := by rw [beq_eq_false_iff_ne]; omega
      go_enter Tryd.func73, Tryd.ntmps73
      go_wp2_with fail
      refine HS.out.mono ?_
      rintro e' w1 ⟨rfl, hg⟩
      have HG := hid_mk hg
      clear hg
      go_wp2_with (go_at_call 84; refine calls_same (HL.out _ (HM.out.quiet HG.out)) ?_)
      go_ret
      exact ⟨rfl, HG.out⟩
    · rw [if_neg hr]
      obtain rfl : r = n := by omega
      have e : ((r : Int) == (r : Int)) = true := by simp
      go_enter Tryd.func73, Tryd.ntmps73
      go_wp2_with fail
      refine HS.out.mono ?_
      rintro e' w1 ⟨rfl, hg⟩
      have HG := hid_mk hg
      clear hg
      go_wp2_with (go_at_call 84; refine calls_same (HL.out _ (HM.out.quiet HG.out)) ?_)
      go_ret
      exact ⟨rfl, HG.out⟩
  · rw [show max a 0 = 0 from by omega] at hS
    have HS := hid_mk hS
    clear hS h
    by_cases hr : r < n
    · rw [if_pos hr]
      have e : ((r : Int) == (n : Int)) = false := by rw [beq_eq_false_iff_ne]; omega
      go_enter Tryd.func73, Tryd.ntmps73
      go_wp2_with fail
      refine HS.out.mono ?_
      rintro e' w1 ⟨rfl, hg⟩
      have HG := hid_mk hg
      clear hg
      go_wp2_with (go_at_call 84; refine calls_same (HL.out _ (HM.out.quiet HG.out)) ?_)
      go_ret
      exact ⟨rfl, HG.out⟩
    · rw [if_neg hr]
      obtain rfl : r = n := by omega
      have e : ((r : Int) == (r : Int)) = true := by simp
      go_enter Tryd.func73, Tryd.ntmps73
      go_wp2_with fail
      refine HS.out.mono ?_
      rintro e' w1 ⟨rfl, hg⟩
      have HG := hid_mk hg
      clear hg
      go_wp2_with (go_at_call 84; refine calls_same (HL.out _ (HM.out.quiet HG.out)) ?_)
      go_ret
      exact ⟨rfl, HG.out⟩
end Go.Proofs.YtcpignkjlnjjmaaDoor
namespace Go.Proofs.YtcpignkjlnjjmaaDoor
open Go.RowKit
set_option linter.unusedVariables false
set_option linter.unusedSimpArgs false

/-- block g is one cell that holds v -/
def Box (w : World) (g : Nat) (T : TypeId) (v : Value) : Prop := w.heap[g]? = some (.cells #[v] T (0, 0))
theorem Box.cell {w : World} {g : Nat} {T : TypeId} {v : Value} (h : Box w g T v) : w.cell? ⟨g, 0, none⟩ = some v := by
  unfold Box at h; simp [World.cell?, h]
theorem Box.frozen {w : World} {g : Nat} {T : TypeId} {v : Value} (h : Box w g T v) : w.frozen? ⟨g, 0, none⟩ = false := by
  unfold Box at h; simp [World.frozen?, h]
theorem Box.lt {w : World} {g : Nat} {T : TypeId} {v : Value} (h : Box w g T v) : g < w.heap.size := heap_lt h
theorem Box.kept {w w' : World} {g lo hi : Nat} {T : TypeId} {v : Value} (h : Box w g T v) (o : Out lo hi w w') (h2 : g < lo ∨ hi ≤ g) : Box w' g T v := o.heap h h2
theorem Box.new (w : World) (T : TypeId) (v : Value) : Box (w.alloc (.cells #[v] T)) w.heap.size T v := heap_alloc_new _ _
theorem Box.alloc {w : World} {g : Nat} {T : TypeId} {v : Value} (h : Box w g T v) (o : Obj) : Box (w.alloc o) g T v := by
  unfold Box; rw [heap_alloc_old _ _ h.lt]; exact h
theorem Box.set {w : World} {g : Nat} {T : TypeId} {v : Value} (h : Box w g T v) (u : Value) : Box (w.setCell ⟨g, 0, none⟩ u) g T u := by
  unfold Box at *
  simp only [World.setCell, Array.getElem?_modify, if_true, h]
  rfl
theorem Box.setOther {w : World} {g : Nat} {T : TypeId} {v : Value} (h : Box w g T v) {p : Addr} (hp : g ≠ p.block) (u : Value) : Box (w.setCell p u) g T v := by
  unfold Box at *
  rw [Below.heap_setCell _ _ _ _ hp]; exact h

theorem shl_up (L : Nat) (h : L ≤ 64) : IntKind.u64.wrap (18446744073709551615 * 2 ^ min L 64) = ((up L : Nat) : Int) := by
  rw [show min L 64 = L from by omega, IntKind.wrap_u64]
  unfold up
  have hp := Nat.two_pow_pos L
  have e : ((2 ^ L : Nat) : Int) = (2 : Int) ^ L := by simp
  by_cases h6 : L < 64
  · rw [if_pos h6, ← e]
    have hl : 2 ^ L < 2 ^ 64 := Nat.pow_lt_pow_right (a := 2) (by omega) h6
    rw [show (2 : Nat) ^ 64 = 18446744073709551616 from rfl] at hl
    generalize 2 ^ L = p at *
    omega
  · rw [if_neg h6]
    obtain rfl : L = 64 := by omega
    rfl
theorem shl_64 : IntKind.u64.wrap 340282366920938463444927863358058659840 = ((up 64 : Nat) : Int) := by rw [IntKind.wrap_u64]; rfl
theorem shl_0 : IntKind.u64.wrap 18446744073709551615 = ((up 0 : Nat) : Int) := by rw [IntKind.wrap_u64]; rfl
theorem andNot_up (L H : Nat) : bits .andNot .u64 ((up L : Nat) : Int) ((up H : Nat) : Int) = ((msk L H : Nat) : Int) := by
  rw [bits_andNot_u64_nat _ _ (up_lt _) (up_lt _), up_msk]
theorem shl_up2 (L : Nat) (h : L ≤ 64) : IntKind.u64.wrap (18446744073709551615 * 2 ^ L) = ((up L : Nat) : Int) := by
  have := shl_up L h
  rwa [show min L 64 = L from by omega] at this
end Go.Proofs.YtcpignkjlnjjmaaDoor
namespace Go.Proofs.YtcpignkjlnjjmaaDoor
open Go.RowKit
set_option linter.unusedVariables false
set_option linter.unusedSimpArgs false

end Go.Proofs.YtcpignkjlnjjmaaDoor
namespace Go.Proofs.YtcpignkjlnjjmaaDoor
open Go.RowKit
set_option linter.unusedVariables false
set_option linter.unusedSimpArgs false

end Go.Proofs.YtcpignkjlnjjmaaDoor
