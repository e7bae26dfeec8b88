import Derived.Test.YtcpignkjlnjjmaaGreatDoorNa07
import Derived.Shelf.Spec.TrailingZeros
import Derived.Laws.Bits128
import Derived.Deep.QuietTactic
import Derived.BigQuiet
namespace Go.Proofs.YtcpignkjlnjjmaaGreatDoor
open Go.RowKit
set_option linter.unusedVariables false
set_option linter.unusedSimpArgs false

theorem len_any {w : World} {lo hi b n : Nat} {S : Nat → Bool} (h : MapAt w lo hi b n S) :
    Calls Tryz.prog 70 #[.pointer (some ⟨b, 0, none⟩)] w fun e w' => e = .returned (.int .i64 n) ∧ w' = w := by
  have c0 := h.len
  go_enter Tryz.func70, Tryz.ntmps70
  go_wp2
  go_ret
  exact ⟨rfl, rfl⟩
theorem has_any {w : World} {lo hi b n : Nat} {S : Nat → Bool} (h : MapAt w lo hi b n S) (i : Int) :
    Calls Tryz.prog 103 #[.pointer (some ⟨b, 0, none⟩), .int .i64 i] w fun e w' => e = .returned (.bool (inB n i)) ∧ w' = w := by
  have H := hid_mk (len_any h)
  by_cases h0 : 0 ≤ i
  · by_cases h1 : i < n
    · have e : inB n i = true := by simp [inB, h0, h1]
      rw [e]
      go_enter Tryz.func103, Tryz.ntmps103
      go_wp2_with (go_at_call 70; refine calls_same H.out ?_)
      all_goals go_ret
      all_goals exact ⟨rfl, rfl⟩
    · have e : inB n i = false := by simp [inB, h1]
      rw [e]
      go_enter Tryz.func103, Tryz.ntmps103
      go_wp2_with (go_at_call 70; refine calls_same H.out ?_)
      all_goals go_ret
      all_goals exact ⟨ret_bool (by simp; omega), rfl⟩
  · have e : inB n i = false := by simp [inB, h0]
    rw [e]
    go_enter Tryz.func103, Tryz.ntmps103
    go_wp2_with (go_at_call 70; refine calls_same H.out ?_)
    all_goals go_ret
    all_goals exact ⟨rfl, rfl⟩
/-- the bit of i in its word -/
def bitN (i : Nat) : Nat := 2 ^ (i % 64)
theorem bitN_lt (i : Nat) : bitN i < 18446744073709551616 := Nat.pow_lt_pow_right (a := 2) (by omega) (show i % 64 < 64 by omega)
theorem bitN_pos (i : Nat) : 0 < bitN i := Nat.two_pow_pos _
set_option maxHeartbeats 400000 in
theorem bit_any (i : Nat) (w : World) (hi : i < 1000000) :
    Calls Tryz.prog 86 #[.int .i64 i] w fun e w' => e = .returned (.int .u64 (bitN i)) ∧ w' = w := by
  have h0 : (0 : Int) ≤ (i : Int) := by omega
  have h1 : (i : Int) < 1000000 := by omega
  go_enter Tryz.func86, Tryz.ntmps86
  go_wp2
  go_ret
  refine ⟨ret_int ?_, rfl⟩
  rw [IntKind.wrap_u64]
  have h2 := bitN_lt i
  have h3 : ((bitN i : Nat) : Int) = 2 ^ (i % 64) := by unfold bitN; simp
  show (2 : Int) ^ (i % 64) % 18446744073709551616 = _
  rw [← h3]
  omega
set_option maxHeartbeats 1000000 in
theorem tz_core (x k idx : Nat) (w : World) (hx0 : ((x : Int) == 0) = false)
    (key : IntKind.u64.wrap (bits BinOp.and IntKind.u64 (x : Int) (IntKind.u64.wrap (-(x : Int))) * 285870213051353865) / 288230376151711744 = (idx : Int))
    (hi : idx < 64) (hk : k < 64) (hcell : w.cell? ⟨1, idx, none⟩ = some (.int .u8 k)) :
    Calls Tryz.prog 87 #[.int .u64 x] w fun e w' => e = .returned (.int .i64 k) ∧ w' = w := by
  go_enter Tryz.func87, Tryz.ntmps87
  go_wp2_with (simp only [key])
  go_ret
  exact ⟨rfl, rfl⟩
theorem tz_any (x : Nat) (hx : x < 18446744073709551616) (hx0 : x ≠ 0) {w : World} (hT : Tab w) :
    Calls Tryz.prog 87 #[.int .u64 x] w fun e w' => e = .returned (.int .i64 (Lib.ctz 64 x)) ∧ w' = w := by
  obtain ⟨hlow, hk⟩ := Lib.lowest_bit 64 x hx0 hx
  obtain ⟨hi, htab⟩ := Lib.deBruijn64_at _ hk
  have hcell := hT.2.2 _ hi
  rw [htab] at hcell
  exact tz_core x _ _ w (by simp; omega) (tz64_key x _ hx hx0 hlow) hi hk hcell
theorem and_c (a c : Nat) (ha : a < 18446744073709551616) (hc : c < 18446744073709551616) (x y : Int) (hx : x = (a : Int)) (hy : y = (c : Int)) : bits .and .u64 x y = ((a &&& c : Nat) : Int) := by
  rw [hx, hy]; exact bits_and_u64_nat a c ha hc
theorem ocA_eq (x : Nat) (hx : x < 18446744073709551616) : IntKind.u64.wrap (bits BinOp.and IntKind.u64 ((x : Int) / 2) 6148914691236517205 + bits BinOp.and IntKind.u64 (x : Int) 6148914691236517205) = ((ocA x : Nat) : Int) ∧ ocA x ≤ 12297829382473034410 := by
  have h1 := and_c (x / 2) 6148914691236517205 (by omega) (by omega) ((x : Int) / 2) 6148914691236517205 (by omega) rfl
  have h2 := and_c x 6148914691236517205 (by omega) (by omega) (x : Int) 6148914691236517205 rfl rfl
  have l1 : x / 2 &&& 6148914691236517205 ≤ 6148914691236517205 := Nat.and_le_right
  have l2 : x &&& 6148914691236517205 ≤ 6148914691236517205 := Nat.and_le_right
  rw [h1, h2, IntKind.wrap_u64]
  unfold ocA
  generalize x / 2 &&& 6148914691236517205 = p at *
  generalize x &&& 6148914691236517205 = q at *
  omega
theorem ocB_eq (x : Nat) (hx : x < 18446744073709551616) : IntKind.u64.wrap (bits BinOp.and IntKind.u64 ((x : Int) / 4) 3689348814741910323 + bits BinOp.and IntKind.u64 (x : Int) 3689348814741910323) = ((ocB x : Nat) : Int) ∧ ocB x ≤ 7378697629483820646 := by
  have h1 := and_c (x / 4) 3689348814741910323 (by omega) (by omega) ((x : Int) / 4) 3689348814741910323 (by omega) rfl
  have h2 := and_c x 3689348814741910323 (by omega) (by omega) (x : Int) 3689348814741910323 rfl rfl
  have l1 : x / 4 &&& 3689348814741910323 ≤ 3689348814741910323 := Nat.and_le_right
  have l2 : x &&& 3689348814741910323 ≤ 3689348814741910323 := Nat.and_le_right
  rw [h1, h2, IntKind.wrap_u64]
  unfold ocB
  generalize x / 4 &&& 3689348814741910323 = p at *
  generalize x &&& 3689348814741910323 = q at *
  omega
theorem ocC_eq (x : Nat) (hx : x ≤ 7378697629483820646) : bits BinOp.and IntKind.u64 (IntKind.u64.wrap ((x : Int) / 16 + (x : Int))) 1085102592571150095 = ((ocC x : Nat) : Int) := by
  refine and_c (x / 16 + x) 1085102592571150095 (by omega) (by omega) _ _ ?_ rfl
  rw [IntKind.wrap_u64]
  omega
theorem sum_a (y : Nat) (h : y + y / 256 < 18446744073709551616) : IntKind.u64.wrap ((y : Int) + (y : Int) / 256) = ((y + y / 256 : Nat) : Int) := by
  rw [IntKind.wrap_u64]; omega
theorem sum_b (y : Nat) (h : y + y / 65536 < 18446744073709551616) : IntKind.u64.wrap ((y : Int) + (y : Int) / 65536) = ((y + y / 65536 : Nat) : Int) := by
  rw [IntKind.wrap_u64]; omega
theorem sum_c (y : Nat) (h : y + y / 4294967296 < 18446744073709551616) : IntKind.u64.wrap ((y : Int) + (y : Int) / 4294967296) = ((y + y / 4294967296 : Nat) : Int) := by
  rw [IntKind.wrap_u64]; omega
theorem low127 (v : Nat) : bits BinOp.and IntKind.i64 (wrap64 (v : Int)) 127 = ((v % 128 : Nat) : Int) := by
  rw [i64_and127]
  unfold wrap64
  omega
end Go.Proofs.YtcpignkjlnjjmaaGreatDoor
namespace Go.Proofs.YtcpignkjlnjjmaaGreatDoor
open Go.RowKit
set_option linter.unusedVariables false
set_option linter.unusedSimpArgs false

theorem info_u64 : (Tryz.prog.info? 78).map (fun i => (i.zero, i.size, i.bytes)) = some (some (.int .u64 0), 1, 8) := by kernel_rfl
theorem pk_none_all (i : Nat) : pk (fun _ => false) i = 0 := (pk_ext fun j => by simp).symm
theorem bnew_no (n : Int) (w : World) (h : n < 0 ∨ 262144 < n) :
    Calls Tryz.prog 71 #[.int .i64 n] w fun e w' => e = .returned (.tuple #[.pointer none, .int .i64 1]) ∧ w' = w := by
  rcases h with h | h
  · go_enter Tryz.func71, Tryz.ntmps71
    go_wp2
    go_ret2
    exact ⟨rfl, rfl⟩
  · have h0 : 0 ≤ n := by omega
    go_enter Tryz.func71, Tryz.ntmps71
    go_wp2
    go_ret2
    exact ⟨rfl, rfl⟩
theorem mapAt_new (n : Nat) (w : World) (h : n ≤ 262144) (hT : Tab w) : MapAt ((w.alloc (.cells (madeCells #[.int .u64 0] (nw n)) 78)).alloc (.cells #[.int .i64 n, .slice (some ⟨w.heap.size, 0, none⟩) (nw n) (nw n)] 143))
    w.heap.size ((w.alloc (.cells (madeCells #[.int .u64 0] (nw n)) 78)).alloc (.cells #[.int .i64 n, .slice (some ⟨w.heap.size, 0, none⟩) (nw n) (nw n)] 143)).heap.size (w.heap.size + 1) n (fun _ => false) := by
  have g : Out 0 0 w ((w.alloc (.cells (madeCells #[.int .u64 0] (nw n)) 78)).alloc (.cells #[.int .i64 n, .slice (some ⟨w.heap.size, 0, none⟩) (nw n) (nw n)] 143)) := ((Out.refl _ _ _).alloc _).alloc _
  refine ⟨_, _, heap_alloc2_new _ _ _, by omega, by simp, Nat.le_refl _, hT.lt, h, Nat.le_refl _, fun _ _ => rfl, hT.kept g (.inr rfl), Nat.le_refl _, by simp; omega, by omega, ?_⟩
  obtain ⟨c, hb, hn, hc⟩ := (World.rowIs_made w (.int .u64 0) (nw n) 78).alloc (.cells #[.int .i64 n, .slice (some ⟨w.heap.size, 0, none⟩) (nw n) (nw n)] 143)
  exact ⟨c, hb, by omega, fun i hi => by rw [hc i hi]; show some (Value.int IntKind.u64 0) = some (Value.int IntKind.u64 ↑(pk (fun _ => false) i)); rw [pk_none_all]; rfl⟩
set_option maxHeartbeats 1000000 in
theorem bnew_any (n : Nat) (w : World) (h : n ≤ 262144) (hT : Tab w) :
    Calls Tryz.prog 71 #[.int .i64 n] w fun e w' => ∃ b, e = .returned (.tuple #[.pointer (some ⟨b, 0, none⟩), .int .i64 0]) ∧ MapAt w' w.heap.size w'.heap.size b n (fun _ => false) ∧ Out 0 0 w w' := by
  have h0 : (0 : Int) ≤ (n : Int) := by omega
  have h1 : (n : Int) ≤ 262144 := by omega
  have hn : nw n ≤ 4096 := by unfold nw; omega
  have hmk := run_make_row' (P := Tryz.prog) 141 78 (.int .u64 0) 8 Tryz.underlying141 info_u64 rfl .i64 .i64 (nw n) (by omega) (by omega)
  have he : ((n : Int) + 64 - 1) / 64 = ((nw n : Nat) : Int) := by unfold nw; omega
  have HT := hid_mk hT
  have HN := hid_mk hn
  clear hT hn
  go_enter Tryz.func71, Tryz.ntmps71
  go_wp2
  go_ret2
  exact ⟨_, rfl, mapAt_new n w h HT.out, ((Out.refl _ _ _).alloc _).alloc _⟩
theorem MapAt.words {w : World} {lo hi b n : Nat} {S : Nat → Bool} (h : MapAt w lo hi b n S) :
    ∃ bw cap, w.heap[b]? = some (.cells #[.int .i64 n, .slice (some ⟨bw, 0, none⟩) (nw n) cap] 143 (0, 0)) ∧ nw n ≤ cap ∧ lo ≤ bw ∧ bw < hi ∧ bw ≠ b ∧ Row w bw 78 (nw n) (fun i => .int .u64 (pk S i)) := by
  obtain ⟨bw, cap, hb, h1, h2, h3, h4, h5, h6, h7, h8, l1, l2, l3, hr⟩ := h
  exact ⟨bw, cap, hb, h6, l1, l2, l3, hr⟩
/-- a word is stored -/
theorem MapAt.store {w : World} {lo hi b n bw cap : Nat} {S S' : Nat → Bool} (h : MapAt w lo hi b n S) (hb : w.heap[b]? = some (.cells #[.int .i64 n, .slice (some ⟨bw, 0, none⟩) (nw n) cap] 143 (0, 0)))
    (hr : Row w bw 78 (nw n) (fun i => .int .u64 (pk S i))) (l1 : lo ≤ bw) (l2 : bw < hi) (l3 : bw ≠ b) (k : Nat) (v : Int) (hv : v = pk S' k) (ho : ∀ i, i < nw n → i ≠ k → pk S i = pk S' i) (hS : ∀ j, n ≤ j → S' j = false) :
    MapAt (w.setCell ⟨bw, k, none⟩ (.int .u64 v)) lo hi b n S' := by
  obtain ⟨bw', cap', hb', h1, h2, h3, h4, h5, h6, h7, h8, h9⟩ := h
  have e := hb.symm.trans hb'
  simp at e
  obtain ⟨e1, e2⟩ := e
  subst e1 e2
  have g : Out lo hi w (w.setCell ⟨bw, k, none⟩ (.int .u64 v)) := (Out.refl _ _ _).setCell (.inl ⟨l1, l2⟩) _
  refine ⟨_, _, ?_, h1, h2, Nat.le_trans h3 g.size, h4, h5, h6, hS, h8.kept g (.inl h4), l1, l2, l3, ?_⟩
  · rw [Below.heap_setCell _ _ _ _ (Ne.symm l3)]; exact hb
  · refine (hr.set k _).congr fun i hi => ?_
    by_cases e : i = k
    · subst e; simp only [if_true]; rw [hv]
    · simp only [if_neg e]; rw [ho i hi e]
theorem nw_lt {i n : Nat} (h : i < n) : i / 64 < nw n := by unfold nw; omega
set_option maxHeartbeats 1000000 in
theorem set_yes {w : World} {lo hi b n : Nat} {S : Nat → Bool} (h : MapAt w lo hi b n S) (i : Nat) (hi' : i < n) :
    Calls Tryz.prog 92 #[.pointer (some ⟨b, 0, none⟩), .int .i64 i] w fun e w' => e = .returned (.int .i64 0) ∧ MapAt w' lo hi b n (upd S i true) ∧ Out lo hi w w' := by
  have hb5 := h.bounds
  obtain ⟨bw, cap, hb, hcap, l1, l2, l3, hr⟩ := h.words
  have c1 : w.cell? ⟨b, 1, none⟩ = some (.slice (some ⟨bw, 0, none⟩) (nw n) cap) := by simp [World.cell?, hb]
  have c2 := hr.cell (nw_lt hi')
  have c3 := hr.frozen (i / 64)
  have HH := hid_mk (has_any h i)
  have e0 : inB n i = true := by simp [inB]; omega
  rw [e0] at HH
  have HB := hid_mk (fun w => bit_any i w (by omega))
  have HF := hid_mk (h.store (S' := upd S i true) hb hr l1 l2 l3 (i / 64) (bits .or .u64 (pk S (i / 64)) (bitN i)) (by rw [bits_or_u64_nat _ _ (pk_lt _ _) (bitN_lt _)]; unfold bitN; rw [pk_set]) (fun j _ hj => (pk_upd_other S i j true hj).symm) (fun j hj => by unfold upd; rw [if_neg (by omega)]; exact hb5.2.2.2.2.2 j hj))
  have i1 : (0 : Int) ≤ (i : Int) := by omega
  have i2 : (i : Int) < 262144 := by omega
  obtain ⟨k, hk⟩ : ∃ k, i / 64 = k := ⟨_, rfl⟩
  have i3 : (k : Int) < (nw n : Int) := by have := nw_lt hi'; omega
  have i4 : (0 : Int) ≤ (k : Int) := by omega
  have hk' : (i : Int) / 64 = (k : Int) := by omega
  have hk2 : (i : Int).tdiv 64 = (k : Int) := by rw [Int.tdiv_eq_ediv_of_nonneg i1]; exact hk'
  have hk3 : IntKind.i64.wrap (k : Int) = (k : Int) := by simp [IntKind.wrap, IntKind.signed, IntKind.bits]; omega
  rw [hk] at c2 c3 HF
  clear hk
  have HO := hid_mk l1
  have HP := hid_mk l2
  clear h hb hr l3 e0 hb5 hcap l1 l2
  go_enter Tryz.func92, Tryz.ntmps92
  go_wp2_with (first | (go_at_call 103; refine calls_same HH.out ?_) | (go_at_call 86; refine calls_same (HB.out _) ?_))
  go_region_with (go_at_call 86; refine calls_same (HB.out _) ?_)
  all_goals (try go_wp2)
  all_goals go_ret
  all_goals exact ⟨rfl, HF.out.drew, ((Out.refl _ _ _).setCell (.inl ⟨HO.out, HP.out⟩) _).drew⟩
def setE (n : Nat) (i : Int) : Int := if inB n i = true then 0 else 10
def setS (S : Nat → Bool) (n : Nat) (i : Int) (v : Bool) : Nat → Bool := if inB n i = true then upd S i.toNat v else S
theorem set_no {w : World} {lo hi b n : Nat} {S : Nat → Bool} (h : MapAt w lo hi b n S) (i : Int) (hi' : inB n i = false) :
    Calls Tryz.prog 92 #[.pointer (some ⟨b, 0, none⟩), .int .i64 i] w fun e w' => e = .returned (.int .i64 10) ∧ w' = w := by
  have HH := hid_mk (has_any h i)
  rw [hi'] at HH
  clear hi'
  go_enter Tryz.func92, Tryz.ntmps92
  go_wp2_with (go_at_call 103; refine calls_same HH.out ?_)
  go_ret
  exact ⟨rfl, rfl⟩
theorem inB_nat {n : Nat} {i : Int} (h : inB n i = true) : ∃ k : Nat, i = k ∧ k < n ∧ i.toNat = k := by
  simp [inB] at h
  exact ⟨i.toNat, by omega, by omega, rfl⟩
theorem set_any {w : World} {lo hi b n : Nat} {S : Nat → Bool} (h : MapAt w lo hi b n S) (i : Int) :
    Calls Tryz.prog 92 #[.pointer (some ⟨b, 0, none⟩), .int .i64 i] w fun e w' => e = .returned (.int .i64 (setE n i)) ∧ MapAt w' lo hi b n (setS S n i true) ∧ Out lo hi w w' := by
  by_cases hi' : inB n i = true
  · unfold setE setS
    rw [if_pos hi', if_pos hi']
    obtain ⟨k, rfl, hk, e⟩ := inB_nat hi'
    rw [e]
    exact set_yes h k hk
  · unfold setE setS
    rw [if_neg hi', if_neg hi']
    exact (set_no h i (by simpa using hi')).mono fun e w' ⟨h1, h2⟩ => ⟨h1, by rw [h2]; exact h, by rw [h2]; exact Out.refl _ _ _⟩
theorem out_drewN (w : World) (m : Nat) : Out 0 0 w (w.drewN m) := ⟨rfl, rfl, rfl, Nat.le_refl _, fun _ _ _ => rfl⟩
/-- is it in? -/
def getB (S : Nat → Bool) (n : Nat) (i : Int) : Bool := inB n i && S i.toNat
set_option maxHeartbeats 1000000 in
theorem get_yes {w : World} {lo hi b n : Nat} {S : Nat → Bool} (h : MapAt w lo hi b n S) (i : Nat) (hi' : i < n) :
    Calls Tryz.prog 115 #[.pointer (some ⟨b, 0, none⟩), .int .i64 i] w fun e w' => e = .returned (.bool (S i)) ∧ Out 0 0 w w' := by
  have hb5 := h.bounds
  obtain ⟨bw, cap, hb, hcap, l1, l2, l3, hr⟩ := h.words
  have c1 : w.cell? ⟨b, 1, none⟩ = some (.slice (some ⟨bw, 0, none⟩) (nw n) cap) := by simp [World.cell?, hb]
  have c2 := hr.cell (nw_lt hi')
  have HH := hid_mk (fun w (h : MapAt w lo hi b n S) => has_any h i)
  have e0 : inB n i = true := by simp [inB]; omega
  rw [e0] at HH
  have HM := hid_mk h
  have HB := hid_mk (fun w => bit_any i w (by omega))
  have HV : Hid ((bits .and .u64 (pk S (i / 64)) (bitN i) != 0) = S i) := by
    show (bits .and .u64 (pk S (i / 64)) (bitN i) != 0) = S i
    rw [bits_and_u64_nat _ _ (pk_lt _ _) (bitN_lt _)]
    have hp := bitN_pos i
    unfold bitN at *
    rw [pk_get]
    generalize 2 ^ (i % 64) = p at *
    cases hs : S i
    · simp
    · simp; omega
  have i1 : (0 : Int) ≤ (i : Int) := by omega
  have i2 : (i : Int) < 262144 := by omega
  obtain ⟨k, hk⟩ : ∃ k, i / 64 = k := ⟨_, rfl⟩
  have i3 : (k : Int) < (nw n : Int) := by have := nw_lt hi'; omega
  have i4 : (0 : Int) ≤ (k : Int) := by omega
  have hk' : (i : Int) / 64 = (k : Int) := by omega
  have hk2 : (i : Int).tdiv 64 = (k : Int) := by rw [Int.tdiv_eq_ediv_of_nonneg i1]; exact hk'
  have hk3 : IntKind.i64.wrap (k : Int) = (k : Int) := by simp [IntKind.wrap, IntKind.signed, IntKind.bits]; omega
  rw [hk] at c2 HV
  clear hk
  clear h hb hr l3 e0 hb5 hcap l1 l2
  go_enter Tryz.func115, Tryz.ntmps115
  go_wp2_with fail
  go_region_held3 (fun w' => w'.cell? ⟨b, 1, none⟩ = some (.slice (some ⟨bw, 0, none⟩) (nw n) cap) ∧ w'.cell? ⟨bw, k, none⟩ = some (.int .u64 (pk S k))) (go_keep)
    (first | (go_at_call 103; refine calls_same (HH.out _ (by exact HM.out.drew)) ?_) | (go_at_call 86; refine calls_same (HB.out _) ?_))
  all_goals (try go_wp2)
  all_goals go_ret
  all_goals exact ⟨ret_bool HV.out, (Out.refl _ _ _).drew⟩
theorem get_no {w : World} {lo hi b n : Nat} {S : Nat → Bool} (h : MapAt w lo hi b n S) (i : Int) (hi' : inB n i = false) :
    Calls Tryz.prog 115 #[.pointer (some ⟨b, 0, none⟩), .int .i64 i] w fun e w' => e = .returned (.bool false) ∧ Out 0 0 w w' := by
  have HH := hid_mk (fun w (h : MapAt w lo hi b n S) => has_any h i)
  rw [hi'] at HH
  have HM := hid_mk h
  clear h hi'
  go_enter Tryz.func115, Tryz.ntmps115
  go_wp2_with fail
  go_quiet ((go_at_call 103; exact Calls.quiet_of_same (HH.out _ (HM.out.quiet (out_drewN _ _)))))
  all_goals (try go_wp2)
  all_goals go_ret
  all_goals exact ⟨rfl, out_drewN _ _⟩
theorem get_any {w : World} {lo hi b n : Nat} {S : Nat → Bool} (h : MapAt w lo hi b n S) (i : Int) :
    Calls Tryz.prog 115 #[.pointer (some ⟨b, 0, none⟩), .int .i64 i] w fun e w' => e = .returned (.bool (getB S n i)) ∧ Out 0 0 w w' := by
  unfold getB
  by_cases hi' : inB n i = true
  · rw [hi']
    obtain ⟨k, rfl, hk, e⟩ := inB_nat hi'
    rw [e]
    exact get_yes h k hk
  · rw [Bool.eq_false_iff.mpr hi']
    exact get_no h i (by simpa using hi')
set_option maxHeartbeats 1000000 in
theorem clear_yes {w : World} {lo hi b n : Nat} {S : Nat → Bool} (h : MapAt w lo hi b n S) (i : Nat) (hi' : i < n) :
    Calls Tryz.prog 101 #[.pointer (some ⟨b, 0, none⟩), .int .i64 i] w fun e w' => e = .returned (.int .i64 0) ∧ MapAt w' lo hi b n (upd S i false) ∧ Out lo hi w w' := by
  have hb5 := h.bounds
  obtain ⟨bw, cap, hb, hcap, l1, l2, l3, hr⟩ := h.words
  have c1 : w.cell? ⟨b, 1, none⟩ = some (.slice (some ⟨bw, 0, none⟩) (nw n) cap) := by simp [World.cell?, hb]
  have c2 := hr.cell (nw_lt hi')
  have c3 := hr.frozen (i / 64)
  have HH := hid_mk (has_any h i)
  have e0 : inB n i = true := by simp [inB]; omega
  rw [e0] at HH
  have HB := hid_mk (fun w => bit_any i w (by omega))
  have HF := hid_mk (h.store (S' := upd S i false) hb hr l1 l2 l3 (i / 64) (bits .andNot .u64 (pk S (i / 64)) (bitN i)) (by rw [bits_andNot_u64_nat _ _ (pk_lt _ _) (bitN_lt _)]; unfold bitN; rw [pk_clear]) (fun j _ hj => (pk_upd_other S i j false hj).symm) (fun j hj => by unfold upd; rw [if_neg (by omega)]; exact hb5.2.2.2.2.2 j hj))
  have i1 : (0 : Int) ≤ (i : Int) := by omega
  have i2 : (i : Int) < 262144 := by omega
  obtain ⟨k, hk⟩ : ∃ k, i / 64 = k := ⟨_, rfl⟩
  have i3 : (k : Int) < (nw n : Int) := by have := nw_lt hi'; omega
  have i4 : (0 : Int) ≤ (k : Int) := by omega
  have hk' : (i : Int) / 64 = (k : Int) := by omega
  have hk2 : (i : Int).tdiv 64 = (k : Int) := by rw [Int.tdiv_eq_ediv_of_nonneg i1]; exact hk'
  have hk3 : IntKind.i64.wrap (k : Int) = (k : Int) := by simp [IntKind.wrap, IntKind.signed, IntKind.bits]; omega
  rw [hk] at c2 c3 HF
  clear hk
  have HO := hid_mk l1
  have HP := hid_mk l2
  clear h hb hr l3 e0 hb5 hcap l1 l2
  go_enter Tryz.func101, Tryz.ntmps101
  go_wp2_with (go_at_call 103; refine calls_same HH.out ?_)
  go_region_with (go_at_call 86; refine calls_same (HB.out _) ?_)
  all_goals (try go_wp2)
  all_goals go_ret
  all_goals exact ⟨rfl, HF.out.drew, ((Out.refl _ _ _).setCell (.inl ⟨HO.out, HP.out⟩) _).drew⟩
theorem clear_no {w : World} {lo hi b n : Nat} {S : Nat → Bool} (h : MapAt w lo hi b n S) (i : Int) (hi' : inB n i = false) :
    Calls Tryz.prog 101 #[.pointer (some ⟨b, 0, none⟩), .int .i64 i] w fun e w' => e = .returned (.int .i64 10) ∧ w' = w := by
  have HH := hid_mk (has_any h i)
  rw [hi'] at HH
  clear hi'
  go_enter Tryz.func101, Tryz.ntmps101
  go_wp2_with (go_at_call 103; refine calls_same HH.out ?_)
  go_ret
  exact ⟨rfl, rfl⟩
theorem clear_any {w : World} {lo hi b n : Nat} {S : Nat → Bool} (h : MapAt w lo hi b n S) (i : Int) :
    Calls Tryz.prog 101 #[.pointer (some ⟨b, 0, none⟩), .int .i64 i] w fun e w' => e = .returned (.int .i64 (setE n i)) ∧ MapAt w' lo hi b n (setS S n i false) ∧ Out lo hi w w' := by
  by_cases hi' : inB n i = true
  · unfold setE setS
    rw [if_pos hi', if_pos hi']
    obtain ⟨k, rfl, hk, e⟩ := inB_nat hi'
    rw [e]
    exact clear_yes h k hk
  · unfold setE setS
    rw [if_neg hi', if_neg hi']
    exact (clear_no h i (by simpa using hi')).mono fun e w' ⟨h1, h2⟩ => ⟨h1, by rw [h2]; exact h, by rw [h2]; exact Out.refl _ _ _⟩
end Go.Proofs.YtcpignkjlnjjmaaGreatDoor
