import Derived.Test.YtjbbkeoolodeaaaGreatDoorG05
import Derived.Deep.QuietTactic
import Derived.BigQuiet
import Derived.Lib.SliceRun
import Derived.Deep.AppendLies
import Derived.OwnWalk
import Derived.Test.YtjbbkeoolodeaaaGreatDoorG04
import Derived.Deep.RegionHeld3
namespace Go.Proofs.YtjbbkeoolodeaaaGreatDoor
open Go.RowKit
set_option linter.unusedVariables false
set_option linter.unusedSimpArgs false

theorem info_u64 : (Tryz.prog.info? 158).map (fun i => (i.zero, i.size, i.bytes)) = some (some (.int .u64 0), 1, 8) := by kernel_rfl
theorem pk_none_all (i : Nat) : pk (fun _ => false) i = 0 := (pk_ext fun j => by simp).symm
theorem mapAt_new (n : Nat) (w : World) (h : n ≤ 262144) (hT : Tab w) : MapAt ((w.alloc (.cells (madeCells #[.int .u64 0] (nw n)) 158)).alloc (.cells #[.int .i64 n, .slice (some ⟨w.heap.size, 0, none⟩) (nw n) (nw n)] 161))
    w.heap.size ((w.alloc (.cells (madeCells #[.int .u64 0] (nw n)) 158)).alloc (.cells #[.int .i64 n, .slice (some ⟨w.heap.size, 0, none⟩) (nw n) (nw n)] 161)).heap.size (w.heap.size + 1) n (fun _ => false) := by
  have g : Out 0 0 w ((w.alloc (.cells (madeCells #[.int .u64 0] (nw n)) 158)).alloc (.cells #[.int .i64 n, .slice (some ⟨w.heap.size, 0, none⟩) (nw n) (nw n)] 161)) := ((Out.refl _ _ _).alloc _).alloc _
  refine ⟨_, _, heap_alloc2_new _ _ _, by omega, by simp, Nat.le_refl _, hT.lt, h, Nat.le_refl _, fun _ _ => rfl, hT.kept g (.inr rfl), Nat.le_refl _, by simp; omega, by omega, ?_⟩
  obtain ⟨c, hb, hn, hc⟩ := (World.rowIs_made w (.int .u64 0) (nw n) 158).alloc (.cells #[.int .i64 n, .slice (some ⟨w.heap.size, 0, none⟩) (nw n) (nw n)] 161)
  exact ⟨c, hb, by omega, fun i hi => by rw [hc i hi]; show some (Value.int IntKind.u64 0) = some (Value.int IntKind.u64 ↑(pk (fun _ => false) i)); rw [pk_none_all]; rfl⟩
theorem MapAt.words {w : World} {lo hi b n : Nat} {S : Nat → Bool} (h : MapAt w lo hi b n S) :
    ∃ bw cap, w.heap[b]? = some (.cells #[.int .i64 n, .slice (some ⟨bw, 0, none⟩) (nw n) cap] 161 (0, 0)) ∧ nw n ≤ cap ∧ lo ≤ bw ∧ bw < hi ∧ bw ≠ b ∧ Row w bw 158 (nw n) (fun i => .int .u64 (pk S i)) := by
  obtain ⟨bw, cap, hb, h1, h2, h3, h4, h5, h6, h7, h8, l1, l2, l3, hr⟩ := h
  exact ⟨bw, cap, hb, h6, l1, l2, l3, hr⟩
/-- a word is stored -/
theorem MapAt.store {w : World} {lo hi b n bw cap : Nat} {S S' : Nat → Bool} (h : MapAt w lo hi b n S) (hb : w.heap[b]? = some (.cells #[.int .i64 n, .slice (some ⟨bw, 0, none⟩) (nw n) cap] 161 (0, 0)))
    (hr : Row w bw 158 (nw n) (fun i => .int .u64 (pk S i))) (l1 : lo ≤ bw) (l2 : bw < hi) (l3 : bw ≠ b) (k : Nat) (v : Int) (hv : v = pk S' k) (ho : ∀ i, i < nw n → i ≠ k → pk S i = pk S' i) (hS : ∀ j, n ≤ j → S' j = false) :
    MapAt (w.setCell ⟨bw, k, none⟩ (.int .u64 v)) lo hi b n S' := by
  obtain ⟨bw', cap', hb', h1, h2, h3, h4, h5, h6, h7, h8, h9⟩ := h
  have e := hb.symm.trans hb'
  simp at e
  obtain ⟨e1, e2⟩ := e
  subst e1 e2
  have g : Out lo hi w (w.setCell ⟨bw, k, none⟩ (.int .u64 v)) := (Out.refl _ _ _).setCell (.inl ⟨l1, l2⟩) _
  refine ⟨_, _, ?_, h1, h2, Nat.le_trans h3 g.size, h4, h5, h6, hS, h8.kept g (.inl h4), l1, l2, l3, ?_⟩
  · rw [Below.heap_setCell _ _ _ _ (Ne.symm l3)]; exact hb
  · refine (hr.set k _).congr fun i hi => ?_
    by_cases e : i = k
    · subst e; simp only [if_true]; rw [hv]
    · simp only [if_neg e]; rw [ho i hi e]
theorem nw_lt {i n : Nat} (h : i < n) : i / 64 < nw n := by unfold nw; omega
set_option maxHeartbeats 1000000 in
theorem set_yes {w : World} {lo hi b n : Nat} {S : Nat → Bool} (h : MapAt w lo hi b n S) (i : Nat) (hi' : i < n) :
    Calls Tryz.prog 97 #[.pointer (some ⟨b, 0, none⟩), .int .i64 i] w fun e w' => e = .returned (.int .i64 0) ∧ MapAt w' lo hi b n (upd S i true) ∧ Out lo hi w w' := by
  have hb5 := h.bounds
  obtain ⟨bw, cap, hb, hcap, l1, l2, l3, hr⟩ := h.words
  have c1 : w.cell? ⟨b, 1, none⟩ = some (.slice (some ⟨bw, 0, none⟩) (nw n) cap) := by simp [World.cell?, hb]
  have c2 := hr.cell (nw_lt hi')
  have c3 := hr.frozen (i / 64)
  have HH := hid_mk (has_any h i)
  have e0 : inB n i = true := by simp [inB]; omega
  rw [e0] at HH
  have HB := hid_mk (fun w => bit_any i w (by omega))
  have HF := hid_mk (h.store (S' := upd S i true) hb hr l1 l2 l3 (i / 64) (bits .or .u64 (pk S (i / 64)) (bitN i)) (by rw [bits_or_u64_nat _ _ (pk_lt _ _) (bitN_lt _)]; unfold bitN; rw [pk_set]) (fun j _ hj => (pk_upd_other S i j true hj).symm) (fun j hj => by unfold upd; rw [if_neg (by omega)]; exact hb5.2.2.2.2.2 j hj))
  have i1 : (0 : Int) ≤ (i : Int) := by omega
  have i2 : (i : Int) < 262144 := by omega
  obtain ⟨k, hk⟩ : ∃ k, i / 64 = k := ⟨_, rfl⟩
  have i3 : (k : Int) < (nw n : Int) := by have := nw_lt hi'; omega
  have i4 : (0 : Int) ≤ (k : Int) := by omega
  have hk' : (i : Int) / 64 = (k : Int) := by omega
  have hk2 : (i : Int).tdiv 64 = (k : Int) := by rw [Int.tdiv_eq_ediv_of_nonneg i1]; exact hk'
  have hk3 : IntKind.i64.wrap (k : Int) = (k : Int) := by simp [IntKind.wrap, IntKind.signed, IntKind.bits]; omega
  rw [hk] at c2 c3 HF
  clear hk
  have HO := hid_mk l1
  have HP := hid_mk l2
  clear h hb hr l3 e0 hb5 hcap l1 l2
  go_enter Tryz.func97, Tryz.ntmps97
  go_wp2_with (first | (go_at_call 134; refine calls_same HH.out ?_) | (go_at_call 135; refine calls_same (HB.out _) ?_))
  go_region_with (go_at_call 135; refine calls_same (HB.out _) ?_)
  all_goals (try go_wp2)
  all_goals go_ret
  all_goals exact ⟨rfl, HF.out.drew, ((Out.refl _ _ _).setCell (.inl ⟨HO.out, HP.out⟩) _).drew⟩
def setE (n : Nat) (i : Int) : Int := if inB n i = true then 0 else 10
def setS (S : Nat → Bool) (n : Nat) (i : Int) (v : Bool) : Nat → Bool := if inB n i = true then upd S i.toNat v else S
theorem set_no {w : World} {lo hi b n : Nat} {S : Nat → Bool} (h : MapAt w lo hi b n S) (i : Int) (hi' : inB n i = false) :
    Calls Tryz.prog 97 #[.pointer (some ⟨b, 0, none⟩), .int .i64 i] w fun e w' => e = .returned (.int .i64 10) ∧ w' = w := by
  have HH := hid_mk (has_any h i)
  rw [hi'] at HH
  clear hi'
  go_enter Tryz.func97, Tryz.ntmps97
  go_wp2_with (go_at_call 134; refine calls_same HH.out ?_)
  go_ret
  exact ⟨rfl, rfl⟩
theorem inB_nat {n : Nat} {i : Int} (h : inB n i = true) : ∃ k : Nat, i = k ∧ k < n ∧ i.toNat = k := by
  simp [inB] at h
  exact ⟨i.toNat, by omega, by omega, rfl⟩
theorem set_any {w : World} {lo hi b n : Nat} {S : Nat → Bool} (h : MapAt w lo hi b n S) (i : Int) :
    Calls Tryz.prog 97 #[.pointer (some ⟨b, 0, none⟩), .int .i64 i] w fun e w' => e = .returned (.int .i64 (setE n i)) ∧ MapAt w' lo hi b n (setS S n i true) ∧ Out lo hi w w' := by
  by_cases hi' : inB n i = true
  · unfold setE setS
    rw [if_pos hi', if_pos hi']
    obtain ⟨k, rfl, hk, e⟩ := inB_nat hi'
    rw [e]
    exact set_yes h k hk
  · unfold setE setS
    rw [if_neg hi', if_neg hi']
    exact (set_no h i (by simpa using hi')).mono fun e w' ⟨h1, h2⟩ => ⟨h1, by rw [h2]; exact h, by rw [h2]; exact Out.refl _ _ _⟩
theorem out_drewN (w : World) (m : Nat) : Out 0 0 w (w.drewN m) := ⟨rfl, rfl, rfl, Nat.le_refl _, fun _ _ _ => rfl⟩
/-- is it in? -/
def getB (S : Nat → Bool) (n : Nat) (i : Int) : Bool := inB n i && S i.toNat
set_option maxHeartbeats 1000000 in
theorem get_yes {w : World} {lo hi b n : Nat} {S : Nat → Bool} (h : MapAt w lo hi b n S) (i : Nat) (hi' : i < n) :
    Calls Tryz.prog 147 #[.pointer (some ⟨b, 0, none⟩), .int .i64 i] w fun e w' => e = .returned (.bool (S i)) ∧ Out 0 0 w w' := by
  have hb5 := h.bounds
  obtain ⟨bw, cap, hb, hcap, l1, l2, l3, hr⟩ := h.words
  have c1 : w.cell? ⟨b, 1, none⟩ = some (.slice (some ⟨bw, 0, none⟩) (nw n) cap) := by simp [World.cell?, hb]
  have c2 := hr.cell (nw_lt hi')
  have HH := hid_mk (fun w (h : MapAt w lo hi b n S) => has_any h i)
  have e0 : inB n i = true := by simp [inB]; omega
  rw [e0] at HH
  have HM := hid_mk h
  have HB := hid_mk (fun w => bit_any i w (by omega))
  have HV : Hid ((bits .and .u64 (pk S (i / 64)) (bitN i) != 0) = S i) := by
    show (bits .and .u64 (pk S (i / 64)) (bitN i) != 0) = S i
    rw [bits_and_u64_nat _ _ (pk_lt _ _) (bitN_lt _)]
    have hp := bitN_pos i
    unfold bitN at *
    rw [pk_get]
    generalize 2 ^ (i % 64) = p at *
    cases hs : S i
    · simp
    · simp; omega
  have i1 : (0 : Int) ≤ (i : Int) := by omega
  have i2 : (i : Int) < 262144 := by omega
  obtain ⟨k, hk⟩ : ∃ k, i / 64 = k := ⟨_, rfl⟩
  have i3 : (k : Int) < (nw n : Int) := by have := nw_lt hi'; omega
  have i4 : (0 : Int) ≤ (k : Int) := by omega
  have hk' : (i : Int) / 64 = (k : Int) := by omega
  have hk2 : (i : Int).tdiv 64 = (k : Int) := by rw [Int.tdiv_eq_ediv_of_nonneg i1]; exact hk'
  have hk3 : IntKind.i64.wrap (k : Int) = (k : Int) := by simp [IntKind.wrap, IntKind.signed, IntKind.bits]; omega
  rw [hk] at c2 HV
  clear hk
  clear h hb hr l3 e0 hb5 hcap l1 l2
  go_enter Tryz.func147, Tryz.ntmps147
  go_wp2_with fail
  go_region_held3 (fun w' => w'.cell? ⟨b, 1, none⟩ = some (.slice (some ⟨bw, 0, none⟩) (nw n) cap) ∧ w'.cell? ⟨bw, k, none⟩ = some (.int .u64 (pk S k))) (go_keep)
    (first | (go_at_call 134; refine calls_same (HH.out _ (by exact HM.out.drew)) ?_) | (go_at_call 135; refine calls_same (HB.out _) ?_))
  all_goals (try go_wp2)
  all_goals go_ret
  all_goals exact ⟨ret_bool HV.out, (Out.refl _ _ _).drew⟩
theorem get_no {w : World} {lo hi b n : Nat} {S : Nat → Bool} (h : MapAt w lo hi b n S) (i : Int) (hi' : inB n i = false) :
    Calls Tryz.prog 147 #[.pointer (some ⟨b, 0, none⟩), .int .i64 i] w fun e w' => e = .returned (.bool false) ∧ Out 0 0 w w' := by
  have HH := hid_mk (fun w (h : MapAt w lo hi b n S) => has_any h i)
  rw [hi'] at HH
  have HM := hid_mk h
  clear h hi'
  go_enter Tryz.func147, Tryz.ntmps147
  go_wp2_with fail
  go_quiet ((go_at_call 134; exact Calls.quiet_of_same (HH.out _ (HM.out.quiet (out_drewN _ _)))))
  all_goals (try go_wp2)
  all_goals go_ret
  all_goals exact ⟨rfl, out_drewN _ _⟩
theorem get_any {w : World} {lo hi b n : Nat} {S : Nat → Bool} (h : MapAt w lo hi b n S) (i : Int) :
    Calls Tryz.prog 147 #[.pointer (some ⟨b, 0, none⟩), .int .i64 i] w fun e w' => e = .returned (.bool (getB S n i)) ∧ Out 0 0 w w' := by
  unfold getB
  by_cases hi' : inB n i = true
  · rw [hi']
    obtain ⟨k, rfl, hk, e⟩ := inB_nat hi'
    rw [e]
    exact get_yes h k hk
  · rw [Bool.eq_false_iff.mpr hi']
    exact get_no h i (by simpa using hi')
set_option maxHeartbeats 1000000 in
theorem clear_yes {w : World} {lo hi b n : Nat} {S : Nat → Bool} (h : MapAt w lo hi b n S) (i : Nat) (hi' : i < n) :
    Calls Tryz.prog 132 #[.pointer (some ⟨b, 0, none⟩), .int .i64 i] w fun e w' => e = .returned (.int .i64 0) ∧ MapAt w' lo hi b n (upd S i false) ∧ Out lo hi w w' := by
  have hb5 := h.bounds
  obtain ⟨bw, cap, hb, hcap, l1, l2, l3, hr⟩ := h.words
  have c1 : w.cell? ⟨b, 1, none⟩ = some (.slice (some ⟨bw, 0, none⟩) (nw n) cap) := by simp [World.cell?, hb]
  have c2 := hr.cell (nw_lt hi')
  have c3 := hr.frozen (i / 64)
  have HH := hid_mk (has_any h i)
  have e0 : inB n i = true := by simp [inB]; omega
  rw [e0] at HH
  have HB := hid_mk (fun w => bit_any i w (by omega))
  have HF := hid_mk (h.store (S' := upd S i false) hb hr l1 l2 l3 (i / 64) (bits .andNot .u64 (pk S (i / 64)) (bitN i)) (by rw [bits_andNot_u64_nat _ _ (pk_lt _ _) (bitN_lt _)]; unfold bitN; rw [pk_clear]) (fun j _ hj => (pk_upd_other S i j false hj).symm) (fun j hj => by unfold upd; rw [if_neg (by omega)]; exact hb5.2.2.2.2.2 j hj))
  have i1 : (0 : Int) ≤ (i : Int) := by omega
  have i2 : (i : Int) < 262144 := by omega
  obtain ⟨k, hk⟩ : ∃ k, i / 64 = k := ⟨_, rfl⟩
  have i3 : (k : Int) < (nw n : Int) := by have := nw_lt hi'; omega
  have i4 : (0 : Int) ≤ (k : Int) := by omega
  have hk' : (i : Int) / 64 = (k : Int) := by omega
  have hk2 : (i : Int).tdiv 64 = (k : Int) := by rw [Int.tdiv_eq_ediv_of_nonneg i1]; exact hk'
  have hk3 : IntKind.i64.wrap (k : Int) = (k : Int) := by simp [IntKind.wrap, IntKind.signed, IntKind.bits]; omega
  rw [hk] at c2 c3 HF
  clear hk
  have HO := hid_mk l1
  have HP := hid_mk l2
  clear h hb hr l3 e0 hb5 hcap l1 l2
  go_enter Tryz.func132, Tryz.ntmps132
  go_wp2_with (go_at_call 134; refine calls_same HH.out ?_)
  go_region_with (go_at_call 135; refine calls_same (HB.out _) ?_)
  all_goals (try go_wp2)
  all_goals go_ret
  all_goals exact ⟨rfl, HF.out.drew, ((Out.refl _ _ _).setCell (.inl ⟨HO.out, HP.out⟩) _).drew⟩
theorem clear_no {w : World} {lo hi b n : Nat} {S : Nat → Bool} (h : MapAt w lo hi b n S) (i : Int) (hi' : inB n i = false) :
    Calls Tryz.prog 132 #[.pointer (some ⟨b, 0, none⟩), .int .i64 i] w fun e w' => e = .returned (.int .i64 10) ∧ w' = w := by
  have HH := hid_mk (has_any h i)
  rw [hi'] at HH
  clear hi'
  go_enter Tryz.func132, Tryz.ntmps132
  go_wp2_with (go_at_call 134; refine calls_same HH.out ?_)
  go_ret
  exact ⟨rfl, rfl⟩
theorem clear_any {w : World} {lo hi b n : Nat} {S : Nat → Bool} (h : MapAt w lo hi b n S) (i : Int) :
    Calls Tryz.prog 132 #[.pointer (some ⟨b, 0, none⟩), .int .i64 i] w fun e w' => e = .returned (.int .i64 (setE n i)) ∧ MapAt w' lo hi b n (setS S n i false) ∧ Out lo hi w w' := by
  by_cases hi' : inB n i = true
  · unfold setE setS
    rw [if_pos hi', if_pos hi']
    obtain ⟨k, rfl, hk, e⟩ := inB_nat hi'
    rw [e]
    exact clear_yes h k hk
  · unfold setE setS
    rw [if_neg hi', if_neg hi']
    exact (clear_no h i (by simpa using hi')).mono fun e w' ⟨h1, h2⟩ => ⟨h1, by rw [h2]; exact h, by rw [h2]; exact Out.refl _ _ _⟩
end Go.Proofs.YtjbbkeoolodeaaaGreatDoor
namespace Go.Proofs.YtjbbkeoolodeaaaGreatDoor
open Go.RowKit
set_option linter.unusedVariables false
set_option linter.unusedSimpArgs false

theorem seek_out {w : World} {lo hi b n : Nat} {S : Nat → Bool} (h : MapAt w lo hi b n S) (a : Int) (x : Int) (ha : (n : Int) ≤ a) :
    Calls Tryz.prog 127 #[.pointer (some ⟨b, 0, none⟩), .int .i64 a, .int .u64 x] w fun e w' => e = .returned (.int .i64 n) ∧ w' = w := by
  have H := hid_mk (len_any h)
  clear h
  go_enter Tryz.func127, Tryz.ntmps127
  go_wp2_with (go_at_call 128; refine calls_same H.out ?_)
  go_ret
  exact ⟨rfl, rfl⟩
/-- what is looked for: those that are in, or (fl) those that are out -/
def flp (S : Nat → Bool) (fl : Bool) : Nat → Bool := fun j => S j != fl
def flv (fl : Bool) : Nat := if fl then 18446744073709551615 else 0
theorem flv_lt (fl : Bool) : flv fl < 18446744073709551616 := by cases fl <;> decide
theorem pk_flp (S : Nat → Bool) (fl : Bool) (s : Nat) : bits .xor .u64 (pk S s) (flv fl) = pk (flp S fl) s := by
  rw [bits_xor_u64_nat _ _ (pk_lt _ _) (flv_lt _)]
  cases fl
  · show ((pk S s ^^^ 0 : Nat) : Int) = _
    rw [pk_flip0]
    rw [pk_congr (S := flp S false) (T := S) fun j _ => by simp [flp]]
  · show ((pk S s ^^^ 18446744073709551615 : Nat) : Int) = _
    rw [pk_flip1]
    rw [pk_congr (S := flp S true) (T := fun j => !S j) fun j _ => by simp [flp]]
theorem head_eq (T : Nat → Bool) (a : Nat) : bits .andNot .u64 (pk T (a / 64)) (IntKind.u64.wrap ((bitN a : Int) - 1)) = pk (from_ T a) (a / 64) := by
  have h1 := bitN_lt a
  have h2 := bitN_pos a
  have e : IntKind.u64.wrap ((bitN a : Int) - 1) = ((bitN a - 1 : Nat) : Int) := by rw [IntKind.wrap_u64]; omega
  rw [e, bits_andNot_u64_nat _ _ (pk_lt _ _) (by omega)]
  unfold bitN
  rw [pk_head]
set_option maxRecDepth 100000 in
set_option maxHeartbeats 2000000 in
theorem seek_in {w : World} {lo hi b n : Nat} {S : Nat → Bool} (h : MapAt w lo hi b n S) (a x : Nat) (fl : Bool) (hx : x = flv fl) (ha : a < n) :
    Calls Tryz.prog 127 #[.pointer (some ⟨b, 0, none⟩), .int .i64 a, .int .u64 x] w fun e w' => e = .returned (.int .i64 (nx (flp S fl) n a)) ∧ Out 0 0 w w' := by
  have hb5 := h.bounds
  have c0 := h.len
  obtain ⟨bw, cap, hb, hcap, l1, l2, l3, hr⟩ := h.words
  have c1 : w.cell? ⟨b, 1, none⟩ = some (.slice (some ⟨bw, 0, none⟩) (nw n) cap) := by simp [World.cell?, hb]
  have c2 := hr.cell (nw_lt ha)
  have HR := hid_mk hr
  have HH := hid_mk (len_any h)
  have HT := hid_mk h.tab
  have HB := hid_mk (fun w => bit_any a w (by omega))
  have HX := hid_mk (pk_flp S fl)
  rw [← hx] at HX
  clear hx
  have HE := hid_mk (head_eq (flp S fl) a)
  have HN : Hid (nw n * 64 < n + 64 ∧ n ≤ nw n * 64 ∧ nw n ≤ 4096) := by show _ ∧ _ ∧ _; unfold nw; omega
  have HA := hid_mk (nw_lt ha)
  have i1 : (0 : Int) ≤ (a : Int) := by omega
  have i5 : (a : Int) < (n : Int) := by omega
  obtain ⟨k, hk⟩ : ∃ k, a / 64 = k := ⟨_, rfl⟩
  have i3 : (k : Int) < (nw n : Int) := by have := nw_lt ha; omega
  have i4 : (0 : Int) ≤ (k : Int) := by omega
  have i7 : (k : Int) < 4096 := by omega
  have hk' : (a : Int) / 64 = (k : Int) := by omega
  have HK := hid_mk hk
  rw [hk] at c2 HE HA
  clear hk h hb hr l3 hb5 hcap l1 l2
  go_enter Tryz.func127, Tryz.ntmps127
  go_wp2_with (go_at_call 128; refine calls_same HH.out ?_)
  go_region_held3 (fun w' => w'.cell? ⟨b, 1, none⟩ = some (.slice (some ⟨bw, 0, none⟩) (nw n) cap) ∧ w'.cell? ⟨bw, k, none⟩ = some (.int .u64 (pk S k))) (go_keep)
    (first | (go_at_call 135; refine calls_same (HB.out _) ?_))
  rw [HX.out, HE.out]
  clear hk' c2
  go_wp2_with fail
  go_loop [7, 8] (fun t r => ∃ s : Nat, k ≤ s ∧ s < nw n ∧ t = .int .i64 s ∧ r = .int .u64 (pk (from_ (flp S fl) a) s) ∧ ∀ j, a ≤ j → j < 64 * s → flp S fl j = false) (fun t _ => nw n - (intOf t).toNat)
  case atStart => exact ⟨k, Nat.le_refl _, HA.out, rfl, rfl, fun j h1 h2 => by have := HK.out; omega⟩
  case round =>
    obtain ⟨s, hs1, hs2, rfl, rfl, hz⟩ := hrel
    have HZ := hid_mk hz
    have j1 : (s : Int) < (nw n : Int) := by omega
    have j2 : (0 : Int) ≤ (s : Int) := by omega
    have j3 : (s : Int) < 4096 := by have := HN.out; omega
    obtain ⟨r, hr⟩ : ∃ r, pk (from_ (flp S fl) a) s = r := ⟨_, rfl⟩
    have hrl : r < 18446744073709551616 := by rw [← hr]; exact pk_lt _ _
    rw [hr]
    have HQ := hid_mk hr
    have HL := hid_mk hrl
    have HG := hid_mk ha
    have HS := hid_mk hs1
    have HS2 := hid_mk hs2
    clear hz hr hrl ha hs1 hs2
    by_cases h0 : r = 0
    · subst h0
      by_cases h1 : s + 1 = nw n
      · have h2 : (((s : Int) + 1) == (nw n : Int)) = true := by rw [beq_iff_eq]; omega
        have HR1 := hid_mk h1
        clear h1 i3 j1
        go_wp2
        go_ret
        refine ⟨ret_int ?_, (Out.refl _ _ _).drew⟩
        rw [seek_none (seek_step HZ.out HQ.out) (by have := HN.out; have := HR1.out; omega)]
      · have h2 : (((s : Int) + 1) == (nw n : Int)) = false := by rw [beq_eq_false_iff_ne]; omega
        have h3 : (s : Int) + 1 < (nw n : Int) := by omega
        have c3 : w.cell? ⟨bw, s + 1, none⟩ = some (.int .u64 (pk S (s + 1))) := HR.out.cell (by omega)
        have HR1 := hid_mk h1
        clear h1
        go_wp2
        rw [HX.out, ← pk_tail (flp S fl) a (s + 1) (by have := HS.out; have := HK.out; omega)]
        go_round
        case rel => exact ⟨s + 1, by have := HS.out; omega, by have := HS2.out; have := HR1.out; omega, by go_num, rfl, seek_step HZ.out HQ.out⟩
        case measure => simp [intOf]; omega
    · have h2 : ((r : Int) == 0) = false := by rw [beq_eq_false_iff_ne]; omega
      have HC := hid_mk (fun w (hT : Tab w) => tz_any r HL.out h0 hT)
      have HV := hid_mk (seek_found (n := n) HG.out (by rw [HK.out]; exact HS.out) HZ.out (by rw [HQ.out]; exact h0))
      rw [HQ.out] at HV
      have hc6 : (Lib.ctz 64 r : Int) < 64 := by have := (ctz_spec r h0 HL.out).1; omega
      generalize Lib.ctz 64 r = c at *
      have hw1 : IntKind.i64.wrap ((s : Int) * 64) = (s : Int) * 64 := by simp [IntKind.wrap, IntKind.signed, IntKind.bits]; omega
      have hw2 : IntKind.i64.wrap ((s : Int) * 64 + (c : Int)) = (s : Int) * 64 + (c : Int) := by simp [IntKind.wrap, IntKind.signed, IntKind.bits]; omega
      by_cases hm : (n : Int) < (s : Int) * 64 + (c : Int)
      · go_wp2_with fail
        go_region_held3 (fun w' => w'.cell? ⟨b, 0, none⟩ = some (.int .i64 n)) (go_keep)
          (first | (go_at_call 156; refine calls_same (HC.out _ (by exact HT.out)) ?_))
        all_goals (try go_wp2)
        all_goals go_ret
        all_goals exact ⟨ret_int (by have := HV.out; omega), (Out.refl _ _ _).drew.drew⟩
      · go_wp2_with fail
        go_region_held3 (fun w' => w'.cell? ⟨b, 0, none⟩ = some (.int .i64 n)) (go_keep)
          (first | (go_at_call 156; refine calls_same (HC.out _ (by exact HT.out)) ?_))
        all_goals (try go_wp2)
        all_goals go_ret
        all_goals exact ⟨ret_int (by have := HV.out; omega), (Out.refl _ _ _).drew.drew⟩
theorem flp_in (S : Nat → Bool) : flp S false = S := by funext j; simp [flp]
theorem seek_any {w : World} {lo hi b n : Nat} {S : Nat → Bool} (h : MapAt w lo hi b n S) (a : Int) (x : Nat) (fl : Bool) (hx : x = flv fl) (ha : 0 ≤ a) :
    Calls Tryz.prog 127 #[.pointer (some ⟨b, 0, none⟩), .int .i64 a, .int .u64 x] w fun e w' => e = .returned (.int .i64 (nx (flp S fl) n a.toNat)) ∧ Out 0 0 w w' := by
  by_cases hn : a < n
  · obtain ⟨k, rfl⟩ := Int.eq_ofNat_of_zero_le ha
    rw [Int.toNat_natCast]
    exact seek_in h k x fl hx (by omega)
  · rw [nx_end _ _ _ (by omega)]
    exact (seek_out h a x (by omega)).mono fun e w' ⟨h1, h2⟩ => ⟨h1, by rw [h2]; exact Out.refl _ _ _⟩

set_option maxHeartbeats 1000000 in
theorem next_any {w : World} {lo hi b n : Nat} {S : Nat → Bool} (h : MapAt w lo hi b n S) (a : Int) :
    Calls Tryz.prog 83 #[.pointer (some ⟨b, 0, none⟩), .int .i64 a] w fun e w' => e = .returned (.int .i64 (nxr S n a.toNat)) ∧ Out 0 0 w w' := by
  have hS := seek_any h (max a 0) 0 false rfl (by omega)
  rw [flp_in, show (max a 0).toNat = a.toNat from by omega] at hS
  have HL := hid_mk (fun w (h : MapAt w lo hi b n S) => len_any h)
  have HM := hid_mk h
  have hle := nx_le S n a.toNat
  unfold nxr
  generalize nx S n a.toNat = r at *
  by_cases h0 : 0 ≤ a
  · rw [show max a 0 = a from by omega] at hS
    have HS := hid_mk hS
    clear hS h
    by_cases hr : r < n
    · rw [if_pos hr]
      have e : ((r : Int) == (n : Int)) = false := by rw [beq_eq_false_iff_ne]; omega
      go_enter Tryz.func83, Tryz.ntmps83
      go_wp2_with fail
      refine HS.out.mono ?_
      rintro e' w1 ⟨rfl, hg⟩
      have HG := hid_mk hg
      clear hg
      go_wp2_with (go_at_call 128; refine calls_same (HL.out _ (HM.out.quiet HG.out)) ?_)
      go_ret
      exact ⟨rfl, HG.out⟩
    · rw [if_neg hr]
      obtain rfl : r = n := by omega
      have e : ((r : Int) == (r : Int)) = true := by simp
      go_enter Tryz.func83, Tryz.ntmps83
      go_wp2_with fail
      refine HS.out.mono ?_
      rintro e' w1 ⟨rfl, hg⟩
      have HG := hid_mk hg
      clear hg
      go_wp2_with (go_at_call 128; refine calls_same (HL.out _ (HM.out.quiet HG.out)) ?_)
      go_ret
      exact ⟨rfl, HG.out⟩
  · rw [show max a 0 = 0 from by omega] at hS
    have HS := hid_mk hS
    clear hS h
    by_cases hr : r < n
    · rw [if_pos hr]
      have e : ((r : Int) == (n : Int)) = false := by rw [beq_eq_false_iff_ne]; omega
      go_enter Tryz.func83, Tryz.ntmps83
      go_wp2_with fail
      refine HS.out.mono ?_
      rintro e' w1 ⟨rfl, hg⟩
      have HG := hid_mk hg
      clear hg
      go_wp2_with (go_at_call 128; refine calls_same (HL.out _ (HM.out.quiet HG.out)) ?_)
      go_ret
      exact ⟨rfl, HG.out⟩
    · rw [if_neg hr]
      obtain rfl : r = n := by omega
      have e : ((r : Int) == (r : Int)) = true := by simp
      go_enter Tryz.func83, Tryz.ntmps83
      go_wp2_with fail
      refine HS.out.mono ?_
      rintro e' w1 ⟨rfl, hg⟩
      have HG := hid_mk hg
      clear hg
      go_wp2_with (go_at_call 128; refine calls_same (HL.out _ (HM.out.quiet HG.out)) ?_)
      go_ret
      exact ⟨rfl, HG.out⟩
end Go.Proofs.YtjbbkeoolodeaaaGreatDoor
namespace Go.Proofs.YtjbbkeoolodeaaaGreatDoor
open Go.RowKit
set_option linter.unusedVariables false
set_option linter.unusedSimpArgs false

/-- block g is one cell that holds v -/
def Box (w : World) (g : Nat) (T : TypeId) (v : Value) : Prop := w.heap[g]? = some (.cells #[v] T (0, 0))
theorem Box.cell {w : World} {g : Nat} {T : TypeId} {v : Value} (h : Box w g T v) : w.cell? ⟨g, 0, none⟩ = some v := by
  unfold Box at h; simp [World.cell?, h]
theorem Box.frozen {w : World} {g : Nat} {T : TypeId} {v : Value} (h : Box w g T v) : w.frozen? ⟨g, 0, none⟩ = false := by
  unfold Box at h; simp [World.frozen?, h]
theorem Box.lt {w : World} {g : Nat} {T : TypeId} {v : Value} (h : Box w g T v) : g < w.heap.size := heap_lt h
theorem Box.kept {w w' : World} {g lo hi : Nat} {T : TypeId} {v : Value} (h : Box w g T v) (o : Out lo hi w w') (h2 : g < lo ∨ hi ≤ g) : Box w' g T v := o.heap h h2
theorem Box.alloc {w : World} {g : Nat} {T : TypeId} {v : Value} (h : Box w g T v) (o : Obj) : Box (w.alloc o) g T v := by
  unfold Box; rw [heap_alloc_old _ _ h.lt]; exact h
theorem Box.set {w : World} {g : Nat} {T : TypeId} {v : Value} (h : Box w g T v) (u : Value) : Box (w.setCell ⟨g, 0, none⟩ u) g T u := by
  unfold Box at *
  simp only [World.setCell, Array.getElem?_modify, if_true, h]
  rfl
end Go.Proofs.YtjbbkeoolodeaaaGreatDoor
namespace Go.Proofs.YtjbbkeoolodeaaaGreatDoor
open Go.RowKit
set_option linter.unusedVariables false
set_option linter.unusedSimpArgs false

theorem Row.fillAll {b k : Nat} {T : TypeId} (v : Value) (m : Nat) : ∀ (o : Nat) (w : World) (f : Nat → Value), Row w b T k f → Row (w.setCells b o (List.replicate m v)) b T k (fun i => if o ≤ i ∧ i < o + m then v else f i) := by
  induction m with
  | zero => intro o w f h; exact h.congr fun i hi => by rw [if_neg (by omega)]
  | succ m ih =>
    intro o w f h
    show Row ((w.setCell ⟨b, o, none⟩ v).setCells b (o + 1) (List.replicate m v)) b T k _
    refine (ih (o + 1) _ _ (h.set o v)).congr fun i hi => ?_
    by_cases h1 : i = o
    · subst h1; simp
    · by_cases h2 : o + 1 ≤ i ∧ i < o + 1 + m
      · rw [if_pos h2, if_pos (by omega)]
      · have h3 : ¬ (o ≤ i ∧ i < o + (m + 1)) := by omega
        simp only [if_neg h2, if_neg h3, if_neg h1]
theorem Out.setAll {b lo hi : Nat} (hb : lo ≤ b ∧ b < hi) (v : Value) (m : Nat) : ∀ (o : Nat) (a w : World), Out lo hi a w → Out lo hi a (w.setCells b o (List.replicate m v)) := by
  induction m with
  | zero => intro o a w h; exact h
  | succ m ih => intro o a w h; exact ih (o + 1) a _ (h.setCell (.inl hb) v)
/-- an All of the map b: the block that holds its pointer -/
def AllAt (w : World) (lo hi g b : Nat) : Prop := lo ≤ g ∧ g < hi ∧ hi ≤ w.heap.size ∧ Box w g 80 (.pointer (some ⟨b, 0, none⟩))
theorem AllAt.kept {w w' : World} {lo hi g b lo' hi' : Nat} (h : AllAt w lo hi g b) (o : Out lo' hi' w w') (hd : hi ≤ lo' ∨ hi' ≤ lo) : AllAt w' lo hi g b :=
  ⟨h.1, h.2.1, Nat.le_trans h.2.2.1 o.size, h.2.2.2.kept o (by have := h.1; have := h.2.1; omega)⟩
theorem ball_any (b : Nat) (w : World) :
    Calls Tryz.prog 118 #[.pointer (some ⟨b, 0, none⟩)] w fun e w' => e = .returned (.func (.func 146) #[] #[.pointer (some ⟨w.heap.size, 0, none⟩)]) ∧ w' = w.alloc (.cells #[.pointer (some ⟨b, 0, none⟩)] 80) := by
  go_enter Tryz.func118, Tryz.ntmps118
  go_wp2
  go_ret
  exact ⟨rfl, rfl⟩
end Go.Proofs.YtjbbkeoolodeaaaGreatDoor
namespace Go.Proofs.YtjbbkeoolodeaaaGreatDoor
open Go.RowKit
attribute [local go_sem] Oper.semAt_some
set_option linter.unusedVariables false
set_option linter.unusedSimpArgs false

theorem roundIn_wide {m : Nat} {P : Program} {l : Nat} {f : FuncId} {tmps : Array Value} {assign body : Code} {w : World} {R : Ending → World → Prop} (h : RoundIn Fence.wide 0 P l f tmps assign body w R) : RoundIn Fence.wide m P l f tmps assign body w R :=
  ⟨h.1, fun c cs _ => h.2 c cs (room_wide _)⟩
set_option maxRecDepth 100000 in
set_option maxHeartbeats 2000000 in
/-- the rounds of a loop over the numbers of a map: I p: those below p have come -/
theorem bAll_yield {lo hi b n g l : Nat} (I : Nat → World → Prop) (J Jx : World → Prop)
    (hm : ∀ p w, I p w → p ≤ n ∧ ∃ S, MapAt w lo hi b n S ∧ Box w g 80 (.pointer (some ⟨b, 0, none⟩)))
    (hq : ∀ p w w', I p w → Out 0 0 w w' → I p w')
    (hy : ∀ p w S (k : Nat), I p w → MapAt w lo hi b n S → nxr S n p = k → YieldAt Fence.wide 0 Tryz.prog l #[.int .i64 (k : Int)] w fun e w' => (e = .returned (.bool true) ∧ I (k + 1) w') ∨ (e = .returned (.bool false) ∧ Jx w'))
    (he : ∀ p w S, I p w → MapAt w lo hi b n S → nxr S n p = -1 → J w) {w : World} (h0 : I 0 w) :
    Calls Tryz.prog 146 #[.func (.yield l) #[] #[], .pointer (some ⟨g, 0, none⟩)] w fun e w' => (∃ v, e = .returned v) ∧ (J w' ∨ Jx w') := by
  obtain ⟨hp0, S0, hS0, hb0⟩ := hm 0 w h0
  have c0 := hb0.cell
  have HX := hid_mk (next_any hS0 0)
  rw [show (0 : Int).toNat = 0 from rfl] at HX
  have HM := hid_mk hm
  have HQ := hid_mk hq
  have HY := hid_mk hy
  have HE := hid_mk he
  have HI := hid_mk h0
  have HN := hid_mk hS0.bounds
  have HS := hid_mk hS0
  clear hm hq hy he h0 hS0 hb0 hp0
  refine (callsIn_wide (n := 0)).1 ?_
  refine callsIn_of_wp Tryz.func146 rfl trivial ?_ rfl
  simp only [Tryz.ntmps146, List.size_toArray, List.length_cons, List.length_nil, Nat.reduceAdd, Nat.reduceSub, Array.replicate_succ, Array.replicate_zero, List.push_toArray, List.append_toArray, List.nil_append, List.cons_append]
  gi_wp2_with (refine ⟨trivial, rfl, ?_⟩; gi_at_call 83; refine (callsIn_wide.2 HX.out).mono ?_; rintro e w1 ⟨rfl, ho⟩)
  have HI1 := hid_mk (HQ.out 0 w w1 HI.out ho)
  obtain ⟨z, hz⟩ : ∃ z, nxr S0 n 0 = z := ⟨_, rfl⟩
  have HZ : Hid (∃ S, MapAt w1 lo hi b n S ∧ nxr S n 0 = z) := ⟨S0, HS.out.quiet ho, hz⟩
  rw [hz]
  clear ho c0 hz HX
  gi_loopw [3] (fun v wr => ∃ (p : Nat) (S : Nat → Bool), v = .int .i64 (nxr S n p) ∧ MapAt wr lo hi b n S ∧ I p wr) (fun v _ => if intOf v < 0 then 0 else ((n : Int) - intOf v).toNat)
  case atStart =>
    obtain ⟨S, h1, rfl⟩ := HZ.out
    exact ⟨0, S, rfl, h1, HI1.out⟩
  case round =>
    obtain ⟨p, S, rfl, hS, hI⟩ := hrel
    rcases nxr_cases S n p with ⟨e1, e2⟩ | ⟨k, e1, k1, k2, k3, k4⟩
    · have HJ := hid_mk (HE.out p wr S hI hS e1)
      rw [e1]
      clear hS hI e1 e2
      gi_wp2
      exact bodyPost_end (results_none Tryz.results146 _ _ _) rfl ⟨⟨_, rfl⟩, .inl HJ.out⟩
    · obtain ⟨fn, tmps, assign, body, hy, hR⟩ := HY.out p wr S k hI hS e1
      have HR := hid_mk (roundIn_wide (m := 0) hR)
      have b0 : (0 : Int) ≤ (k : Int) := by omega
      have b1 : (k : Int) ≤ 262144 := by have := HN.out; omega
      rw [e1]
      clear hS hI e1 hR
      gi_wp2
      refine ⟨rfl, HR.out.mono ?_⟩
      clear HR hy
      rintro e w2 (⟨rfl, hI2⟩ | ⟨rfl, hx⟩)
      · obtain ⟨p2, S2, hS2, hb2⟩ := HM.out _ _ hI2
        have c2 := hb2.cell
        have HX2 := hid_mk (next_any hS2 ((k : Int) + 1))
        rw [show ((k : Int) + 1).toNat = k + 1 from by omega] at HX2
        have HI2 := hid_mk hI2
        have HS2 := hid_mk hS2
        clear hI2 hS2 hb2 p2
        gi_wp2_with (refine ⟨trivial, rfl, ?_⟩; gi_at_call 83; refine (callsIn_wide.2 HX2.out).mono ?_; rintro e w3 ⟨rfl, ho⟩)
        go_roundw
        case rel => exact ⟨k + 1, S2, rfl, HS2.out.quiet ho, HQ.out _ _ _ HI2.out ho⟩
        case measure =>
          have e : ∀ v : Int, intOf (.int .i64 v) = v := fun _ => rfl
          simp only [e]
          rw [if_neg (show ¬ ((k : Int) < 0) from by omega)]
          rcases nxr_cases S2 n (k + 1) with ⟨e1, _⟩ | ⟨k', e1, q1, q2, _, _⟩
          · rw [e1, if_pos (by omega)]; omega
          · rw [e1, if_neg (by omega)]; have := q2 k1; omega
      · have HX := hid_mk hx
        clear hx
        gi_wp2
        exact bodyPost_ret (results_none Tryz.results146 _ _ _) rfl ⟨⟨_, rfl⟩, .inr HX.out⟩
end Go.Proofs.YtjbbkeoolodeaaaGreatDoor
namespace Go.Proofs.YtjbbkeoolodeaaaGreatDoor
open Go.RowKit
set_option linter.unusedVariables false
set_option linter.unusedSimpArgs false

/-- what is written beyond the first world's end counts for nothing -/
theorem out_far {lo hi x y : Nat} {a b c : World} (h : Out lo hi a b) (g : Out x y b c) (hx : a.heap.size ≤ x ∨ y = 0) : Out lo hi a c := by
  rcases hx with hx | hx
  · exact h.past g hx
  · subst hx
    exact h.trans ⟨g.1, g.2.1, g.2.2.1, g.size, fun k h1 _ => g.block h1 (by omega)⟩
def noOut (Q : Exit → Act → World → Prop) : Exit → Act → World → Prop
  | .outgrown, _, _ => False
  | e, a, w => Q e a w
def noDefer (ops : Array Oper) : Bool := ops.toList.all fun o => match o.op with | .defer _ => false | _ => true
theorem noDefer_at {ops : Array Oper} (h : noDefer ops = true) {i : Nat} {o : Oper} (ho : ops[i]? = some o) : ∀ c, o.op ≠ .defer c := by
  intro c e
  unfold noDefer at h
  rw [List.all_eq_true] at h
  have := h o (List.mem_of_getElem? (by simpa using ho))
  rw [e] at this
  cases this
theorem rows_wide {n : Nat} {P : Program} {row : String} {args : Array Value} {w : World} {R : Value → World → Prop} (h : Rows P row args w R) : RowsIn Fence.wide n P row args w R :=
  fun c cs _ => by
    obtain ⟨v, w', hr, hs⟩ := h c cs
    exact ⟨v, w', hr, stepsIn_wide.2 hs⟩
section
variable {P : Program} {ops : Array Oper} {Q : Exit → Act → World → Prop} {md : Region.Mode} {l : Nat}
theorem wpOpIn_round {i : Nat} {K K' : Act → World → Prop} {a : Act} {w : World} (hd : noDefer ops = true) (hk : ∀ a w, K a w → K' a w) (h : wpOp P ops (noOut Q) i K a w) : wpOpIn (Fence.wide.inRound l) 0 P ops Q i K' a w := by
  unfold wpOp at h
  unfold wpOpIn
  cases ho : ops[i]? with
  | none => rw [ho] at h; exact hk _ _ h
  | some o =>
    rw [ho] at h
    simp only at h ⊢
    by_cases hw : Region.wanted o (yielded ops a.tmps) = true
    · rw [if_pos hw] at h ⊢
      rcases h with h | ⟨_, hl⟩
      case inr =>
        obtain ⟨_, _, hf⟩ := hl
        exact hf.elim
      refine ⟨fun _ _ => trivial, ?_⟩
      rw [Oper.semAt_eq _ _ _ (noDefer_at hd ho)]
      unfold Oper.wp at h
      generalize (execOp a.eval o).run P w = r at *
      cases r with
      | ok x w' =>
        cases x <;> simp only [Oper.upon, Oper.uponIn] at h ⊢
        case value u => exact hk _ _ h
        case skip => exact hk _ _ h
        case defer d => exact hk _ _ h
        case enter f args =>
          refine ⟨fun hh => by simp [Fence.wide] at hh, callsIn_wide.2 (h.mono ?_)⟩
          intro e w'' he
          cases e with
          | returned u => exact hk _ _ he
          | panicked c => exact he
          | outgrown =>
            obtain ⟨_, _, hf⟩ := he
            exact hf.elim
        case row row args =>
          refine ⟨fun hh => by simp [Fence.wide] at hh, rows_wide (h.mono ?_)⟩
          intro u w'' he
          exact hk _ _ he
      | halt x w' =>
        cases x <;> simp only [Oper.upon, Oper.uponIn] at h ⊢
        case panic u => exact h
    · rw [if_neg hw] at h ⊢
      exact ⟨fun _ _ => trivial, hk _ _ h⟩
theorem wpAnyIn_round (hd : noDefer ops = true) : ∀ (fuel : Nat) (listed : Array Bool) (a : Act) (w : World), wpAny P md ops (noOut Q) fuel listed a w → wpAnyIn (Fence.wide.inRound l) 0 P md ops Q fuel listed a w
  | 0, _, _, _, h => h
  | fuel + 1, _, _, _, h => ⟨h.1, fun i hi => wpOpIn_round hd (fun a' w' h' => wpAnyIn_round hd fuel _ a' w' h') (h.2 i hi)⟩
/-- a region that draws its order, in a round: walked as anywhere -/
theorem region_round {id : Nat} {S : World → Prop} {a : Act} {w : World} (hm : P.follows .mixedOrders = true) (hd : noDefer ops = true) (hS : S w.drew)
    (h : S w.drew → wpAnyH P .any ops (noOut Q) S ops.size (Array.replicate ops.size false) a w.drew) : (Code.region id ops true).wpIn (Fence.wide.inRound l) 0 P Q a w :=
  wpIn_region_any hm (wpAnyIn_round hd _ _ _ _ (wpAny_of_held _ _ _ _ (h hS)))
end
/-- an end that is no other than the normal one -/
def onlyN (K : Act → World → Prop) : Exit → Act → World → Prop
  | .normal, a, w => K a w
  | _, _, _ => False
theorem onlyN_sub {Q : Exit → Act → World → Prop} : ∀ (e : Exit) (a : Act) (w : World), onlyN (Q .normal) e a w → Q e a w
  | .normal, _, _, h => h
  | .ret, _, _, h => h.elim
  | .exit _, _, _, h => h.elim
  | .goto _, _, _, h => h.elim
  | .panic _, _, _, h => h.elim
  | .outgrown, _, _, h => h.elim
theorem wpIn_only {P : Program} {c : Code} {Q : Exit → Act → World → Prop} {a : Act} {w : World} (h : c.wp P (onlyN (Q .normal)) a w) : c.wpIn Fence.wide 0 P Q a w :=
  wpIn_mono (wpIn_wide.2 h) onlyN_sub
/-- a region that draws its order, in a round: walked as anywhere -/
theorem region_roundN {P : Program} {ops : Array Oper} {Q : Exit → Act → World → Prop} {l id : Nat} {S : World → Prop} {a : Act} {w : World} (hm : P.follows .mixedOrders = true) (hd : noDefer ops = true) (hS : S w.drew)
    (h : S w.drew → wpAnyH P .any ops (noOut (onlyN (Q .normal))) S ops.size (Array.replicate ops.size false) a w.drew) : (Code.region id ops true).wpIn (Fence.wide.inRound l) 0 P Q a w :=
  wpIn_mono (region_round hm hd hS h) onlyN_sub
end Go.Proofs.YtjbbkeoolodeaaaGreatDoor
