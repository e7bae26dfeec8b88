import Derived.Test.YtcpignkjlnjjmaaGreatDoorNa08
import Derived.Lib.SliceRun
import Derived.Deep.AppendLies
import Derived.OwnWalk
import Derived.Test.YtcpignkjlnjjmaaGreatDoorNa03
namespace Go.Proofs.YtcpignkjlnjjmaaGreatDoor
open Go.RowKit
set_option linter.unusedVariables false
set_option linter.unusedSimpArgs false

theorem seek_out {w : World} {lo hi b n : Nat} {S : Nat → Bool} (h : MapAt w lo hi b n S) (a : Int) (x : Int) (ha : (n : Int) ≤ a) :
    Calls Tryz.prog 69 #[.pointer (some ⟨b, 0, none⟩), .int .i64 a, .int .u64 x] w fun e w' => e = .returned (.int .i64 n) ∧ w' = w := by
  have H := hid_mk (len_any h)
  clear h
  go_enter Tryz.func69, Tryz.ntmps69
  go_wp2_with (go_at_call 70; refine calls_same H.out ?_)
  go_ret
  exact ⟨rfl, rfl⟩
/-- what is looked for: those that are in, or (fl) those that are out -/
def flp (S : Nat → Bool) (fl : Bool) : Nat → Bool := fun j => S j != fl
def flv (fl : Bool) : Nat := if fl then 18446744073709551615 else 0
theorem flv_lt (fl : Bool) : flv fl < 18446744073709551616 := by cases fl <;> decide
theorem pk_flp (S : Nat → Bool) (fl : Bool) (s : Nat) : bits .xor .u64 (pk S s) (flv fl) = pk (flp S fl) s := by
  rw [bits_xor_u64_nat _ _ (pk_lt _ _) (flv_lt _)]
  cases fl
  · show ((pk S s ^^^ 0 : Nat) : Int) = _
    rw [pk_flip0]
    rw [pk_congr (S := flp S false) (T := S) fun j _ => by simp [flp]]
  · show ((pk S s ^^^ 18446744073709551615 : Nat) : Int) = _
    rw [pk_flip1]
    rw [pk_congr (S := flp S true) (T := fun j => !S j) fun j _ => by simp [flp]]
theorem head_eq (T : Nat → Bool) (a : Nat) : bits .andNot .u64 (pk T (a / 64)) (IntKind.u64.wrap ((bitN a : Int) - 1)) = pk (from_ T a) (a / 64) := by
  have h1 := bitN_lt a
  have h2 := bitN_pos a
  have e : IntKind.u64.wrap ((bitN a : Int) - 1) = ((bitN a - 1 : Nat) : Int) := by rw [IntKind.wrap_u64]; omega
  rw [e, bits_andNot_u64_nat _ _ (pk_lt _ _) (by omega)]
  unfold bitN
  rw [pk_head]
set_option maxRecDepth 100000 in
set_option maxHeartbeats 2000000 in
theorem seek_in {w : World} {lo hi b n : Nat} {S : Nat → Bool} (h : MapAt w lo hi b n S) (a x : Nat) (fl : Bool) (hx : x = flv fl) (ha : a < n) :
    Calls Tryz.prog 69 #[.pointer (some ⟨b, 0, none⟩), .int .i64 a, .int .u64 x] w fun e w' => e = .returned (.int .i64 (nx (flp S fl) n a)) ∧ Out 0 0 w w' := by
  have hb5 := h.bounds
  have c0 := h.len
  obtain ⟨bw, cap, hb, hcap, l1, l2, l3, hr⟩ := h.words
  have c1 : w.cell? ⟨b, 1, none⟩ = some (.slice (some ⟨bw, 0, none⟩) (nw n) cap) := by simp [World.cell?, hb]
  have c2 := hr.cell (nw_lt ha)
  have HR := hid_mk hr
  have HH := hid_mk (len_any h)
  have HT := hid_mk h.tab
  have HB := hid_mk (fun w => bit_any a w (by omega))
  have HX := hid_mk (pk_flp S fl)
  rw [← hx] at HX
  clear hx
  have HE := hid_mk (head_eq (flp S fl) a)
  have HN : Hid (nw n * 64 < n + 64 ∧ n ≤ nw n * 64 ∧ nw n ≤ 4096) := by show _ ∧ _ ∧ _; unfold nw; omega
  have HA := hid_mk (nw_lt ha)
  have i1 : (0 : Int) ≤ (a : Int) := by omega
  have i5 : (a : Int) < (n : Int) := by omega
  obtain ⟨k, hk⟩ : ∃ k, a / 64 = k := ⟨_, rfl⟩
  have i3 : (k : Int) < (nw n : Int) := by have := nw_lt ha; omega
  have i4 : (0 : Int) ≤ (k : Int) := by omega
  have i7 : (k : Int) < 4096 := by omega
  have hk' : (a : Int) / 64 = (k : Int) := by omega
  have HK := hid_mk hk
  rw [hk] at c2 HE HA
  clear hk h hb hr l3 hb5 hcap l1 l2
  go_enter Tryz.func69, Tryz.ntmps69
  go_wp2_with (go_at_call 70; refine calls_same HH.out ?_)
  go_region_held3 (fun w' => w'.cell? ⟨b, 1, none⟩ = some (.slice (some ⟨bw, 0, none⟩) (nw n) cap) ∧ w'.cell? ⟨bw, k, none⟩ = some (.int .u64 (pk S k))) (go_keep)
    (first | (go_at_call 86; refine calls_same (HB.out _) ?_))
  rw [HX.out, HE.out]
  clear hk' c2
  go_wp2_with fail
  go_loop [7, 8] (fun t r => ∃ s : Nat, k ≤ s ∧ s < nw n ∧ t = .int .i64 s ∧ r = .int .u64 (pk (from_ (flp S fl) a) s) ∧ ∀ j, a ≤ j → j < 64 * s → flp S fl j = false) (fun t _ => nw n - (intOf t).toNat)
  case atStart => exact ⟨k, Nat.le_refl _, HA.out, rfl, rfl, fun j h1 h2 => by have := HK.out; omega⟩
  case round =>
    obtain ⟨s, hs1, hs2, rfl, rfl, hz⟩ := hrel
    have HZ := hid_mk hz
    have j1 : (s : Int) < (nw n : Int) := by omega
    have j2 : (0 : Int) ≤ (s : Int) := by omega
    have j3 : (s : Int) < 4096 := by have := HN.out; omega
    obtain ⟨r, hr⟩ : ∃ r, pk (from_ (flp S fl) a) s = r := ⟨_, rfl⟩
    have hrl : r < 18446744073709551616 := by rw [← hr]; exact pk_lt _ _
    rw [hr]
    have HQ := hid_mk hr
    have HL := hid_mk hrl
    have HG := hid_mk ha
    have HS := hid_mk hs1
    have HS2 := hid_mk hs2
    clear hz hr hrl ha hs1 hs2
    by_cases h0 : r = 0
    · subst h0
      by_cases h1 : s + 1 = nw n
      · have h2 : (((s : Int) + 1) == (nw n : Int)) = true := by rw [beq_iff_eq]; omega
        have HR1 := hid_mk h1
        clear h1 i3 j1
        go_wp2
        go_ret
        refine ⟨ret_int ?_, (Out.refl _ _ _).drew⟩
        rw [seek_none (seek_step HZ.out HQ.out) (by have := HN.out; have := HR1.out; omega)]
      · have h2 : (((s : Int) + 1) == (nw n : Int)) = false := by rw [beq_eq_false_iff_ne]; omega
        have h3 : (s : Int) + 1 < (nw n : Int) := by omega
        have c3 : w.cell? ⟨bw, s + 1, none⟩ = some (.int .u64 (pk S (s + 1))) := HR.out.cell (by omega)
        have HR1 := hid_mk h1
        clear h1
        go_wp2
        rw [HX.out, ← pk_tail (flp S fl) a (s + 1) (by have := HS.out; have := HK.out; omega)]
        go_round
        case rel => exact ⟨s + 1, by have := HS.out; omega, by have := HS2.out; have := HR1.out; omega, by go_num, rfl, seek_step HZ.out HQ.out⟩
        case measure => simp [intOf]; omega
    · have h2 : ((r : Int) == 0) = false := by rw [beq_eq_false_iff_ne]; omega
      have HC := hid_mk (fun w (hT : Tab w) => tz_any r HL.out h0 hT)
      have HV := hid_mk (seek_found (n := n) HG.out (by rw [HK.out]; exact HS.out) HZ.out (by rw [HQ.out]; exact h0))
      rw [HQ.out] at HV
      have hc6 : (Lib.ctz 64 r : Int) < 64 := by have := (ctz_spec r h0 HL.out).1; omega
      generalize Lib.ctz 64 r = c at *
      have hw1 : IntKind.i64.wrap ((s : Int) * 64) = (s : Int) * 64 := by simp [IntKind.wrap, IntKind.signed, IntKind.bits]; omega
      have hw2 : IntKind.i64.wrap ((s : Int) * 64 + (c : Int)) = (s : Int) * 64 + (c : Int) := by simp [IntKind.wrap, IntKind.signed, IntKind.bits]; omega
      by_cases hm : (n : Int) < (s : Int) * 64 + (c : Int)
      · go_wp2_with fail
        go_region_held3 (fun w' => w'.cell? ⟨b, 0, none⟩ = some (.int .i64 n)) (go_keep)
          (first | (go_at_call 87; refine calls_same (HC.out _ (by exact HT.out)) ?_))
        all_goals (try go_wp2)
        all_goals go_ret
        all_goals exact ⟨ret_int (by have := HV.out; omega), (Out.refl _ _ _).drew.drew⟩
      · go_wp2_with fail
        go_region_held3 (fun w' => w'.cell? ⟨b, 0, none⟩ = some (.int .i64 n)) (go_keep)
          (first | (go_at_call 87; refine calls_same (HC.out _ (by exact HT.out)) ?_))
        all_goals (try go_wp2)
        all_goals go_ret
        all_goals exact ⟨ret_int (by have := HV.out; omega), (Out.refl _ _ _).drew.drew⟩
theorem flp_in (S : Nat → Bool) : flp S false = S := by funext j; simp [flp]
theorem seek_any {w : World} {lo hi b n : Nat} {S : Nat → Bool} (h : MapAt w lo hi b n S) (a : Int) (x : Nat) (fl : Bool) (hx : x = flv fl) (ha : 0 ≤ a) :
    Calls Tryz.prog 69 #[.pointer (some ⟨b, 0, none⟩), .int .i64 a, .int .u64 x] w fun e w' => e = .returned (.int .i64 (nx (flp S fl) n a.toNat)) ∧ Out 0 0 w w' := by
  by_cases hn : a < n
  · obtain ⟨k, rfl⟩ := Int.eq_ofNat_of_zero_le ha
    rw [Int.toNat_natCast]
    exact seek_in h k x fl hx (by omega)
  · rw [nx_end _ _ _ (by omega)]
    exact (seek_out h a x (by omega)).mono fun e w' ⟨h1, h2⟩ => ⟨h1, by rw [h2]; exact Out.refl _ _ _⟩

set_option maxHeartbeats 1000000 in
theorem next_any {w : World} {lo hi b n : Nat} {S : Nat → Bool} (h : MapAt w lo hi b n S) (a : Int) :
    Calls Tryz.prog 46 #[.pointer (some ⟨b, 0, none⟩), .int .i64 a] w fun e w' => e = .returned (.int .i64 (nxr S n a.toNat)) ∧ Out 0 0 w w' := by
  have hS := seek_any h (max a 0) 0 false rfl (by omega)
  rw [flp_in, show (max a 0).toNat = a.toNat from by omega] at hS
  have HL := hid_mk (fun w (h : MapAt w lo hi b n S) => len_any h)
  have HM := hid_mk h
  have hle := nx_le S n a.toNat
  unfold nxr
  generalize nx S n a.toNat = r at *
  by_cases h0 : 0 ≤ a
  · rw [show max a 0 = a from by omega] at hS
    have HS := hid_mk hS
    clear hS h
    by_cases hr : r < n
    · rw [if_pos hr]
      have e : ((r : Int) == (n : Int)) = false := by rw [beq_eq_false_iff_ne]; omega
      go_enter Tryz.func46, Tryz.ntmps46
      go_wp2_with fail
      refine HS.out.mono ?_
      rintro e' w1 ⟨rfl, hg⟩
      have HG := hid_mk hg
      clear hg
      go_wp2_with (go_at_call 70; refine calls_same (HL.out _ (HM.out.quiet HG.out)) ?_)
      go_ret
      exact ⟨rfl, HG.out⟩
    · rw [if_neg hr]
      obtain rfl : r = n := by omega
      have e : ((r : Int) == (r : Int)) = true := by simp
      go_enter Tryz.func46, Tryz.ntmps46
      go_wp2_with fail
      refine HS.out.mono ?_
      rintro e' w1 ⟨rfl, hg⟩
      have HG := hid_mk hg
      clear hg
      go_wp2_with (go_at_call 70; refine calls_same (HL.out _ (HM.out.quiet HG.out)) ?_)
      go_ret
      exact ⟨rfl, HG.out⟩
  · rw [show max a 0 = 0 from by omega] at hS
    have HS := hid_mk hS
    clear hS h
    by_cases hr : r < n
    · rw [if_pos hr]
      have e : ((r : Int) == (n : Int)) = false := by rw [beq_eq_false_iff_ne]; omega
      go_enter Tryz.func46, Tryz.ntmps46
      go_wp2_with fail
      refine HS.out.mono ?_
      rintro e' w1 ⟨rfl, hg⟩
      have HG := hid_mk hg
      clear hg
      go_wp2_with (go_at_call 70; refine calls_same (HL.out _ (HM.out.quiet HG.out)) ?_)
      go_ret
      exact ⟨rfl, HG.out⟩
    · rw [if_neg hr]
      obtain rfl : r = n := by omega
      have e : ((r : Int) == (r : Int)) = true := by simp
      go_enter Tryz.func46, Tryz.ntmps46
      go_wp2_with fail
      refine HS.out.mono ?_
      rintro e' w1 ⟨rfl, hg⟩
      have HG := hid_mk hg
      clear hg
      go_wp2_with (go_at_call 70; refine calls_same (HL.out _ (HM.out.quiet HG.out)) ?_)
      go_ret
      exact ⟨rfl, HG.out⟩
end Go.Proofs.YtcpignkjlnjjmaaGreatDoor
namespace Go.Proofs.YtcpignkjlnjjmaaGreatDoor
open Go.RowKit
set_option linter.unusedVariables false
set_option linter.unusedSimpArgs false

/-- block g is one cell that holds v -/
def Box (w : World) (g : Nat) (T : TypeId) (v : Value) : Prop := w.heap[g]? = some (.cells #[v] T (0, 0))
theorem Box.cell {w : World} {g : Nat} {T : TypeId} {v : Value} (h : Box w g T v) : w.cell? ⟨g, 0, none⟩ = some v := by
  unfold Box at h; simp [World.cell?, h]
theorem Box.frozen {w : World} {g : Nat} {T : TypeId} {v : Value} (h : Box w g T v) : w.frozen? ⟨g, 0, none⟩ = false := by
  unfold Box at h; simp [World.frozen?, h]
theorem Box.lt {w : World} {g : Nat} {T : TypeId} {v : Value} (h : Box w g T v) : g < w.heap.size := heap_lt h
theorem Box.kept {w w' : World} {g lo hi : Nat} {T : TypeId} {v : Value} (h : Box w g T v) (o : Out lo hi w w') (h2 : g < lo ∨ hi ≤ g) : Box w' g T v := o.heap h h2
theorem Box.new (w : World) (T : TypeId) (v : Value) : Box (w.alloc (.cells #[v] T)) w.heap.size T v := heap_alloc_new _ _
theorem Box.alloc {w : World} {g : Nat} {T : TypeId} {v : Value} (h : Box w g T v) (o : Obj) : Box (w.alloc o) g T v := by
  unfold Box; rw [heap_alloc_old _ _ h.lt]; exact h
theorem Box.set {w : World} {g : Nat} {T : TypeId} {v : Value} (h : Box w g T v) (u : Value) : Box (w.setCell ⟨g, 0, none⟩ u) g T u := by
  unfold Box at *
  simp only [World.setCell, Array.getElem?_modify, if_true, h]
  rfl
theorem Box.setOther {w : World} {g : Nat} {T : TypeId} {v : Value} (h : Box w g T v) {p : Addr} (hp : g ≠ p.block) (u : Value) : Box (w.setCell p u) g T v := by
  unfold Box at *
  rw [Below.heap_setCell _ _ _ _ hp]; exact h

theorem shl_up (L : Nat) (h : L ≤ 64) : IntKind.u64.wrap (18446744073709551615 * 2 ^ min L 64) = ((up L : Nat) : Int) := by
  rw [show min L 64 = L from by omega, IntKind.wrap_u64]
  unfold up
  have hp := Nat.two_pow_pos L
  have e : ((2 ^ L : Nat) : Int) = (2 : Int) ^ L := by simp
  by_cases h6 : L < 64
  · rw [if_pos h6, ← e]
    have hl : 2 ^ L < 2 ^ 64 := Nat.pow_lt_pow_right (a := 2) (by omega) h6
    rw [show (2 : Nat) ^ 64 = 18446744073709551616 from rfl] at hl
    generalize 2 ^ L = p at *
    omega
  · rw [if_neg h6]
    obtain rfl : L = 64 := by omega
    rfl
theorem shl_64 : IntKind.u64.wrap 340282366920938463444927863358058659840 = ((up 64 : Nat) : Int) := by rw [IntKind.wrap_u64]; rfl
theorem shl_0 : IntKind.u64.wrap 18446744073709551615 = ((up 0 : Nat) : Int) := by rw [IntKind.wrap_u64]; rfl
theorem andNot_up (L H : Nat) : bits .andNot .u64 ((up L : Nat) : Int) ((up H : Nat) : Int) = ((msk L H : Nat) : Int) := by
  rw [bits_andNot_u64_nat _ _ (up_lt _) (up_lt _), up_msk]
theorem shl_up2 (L : Nat) (h : L ≤ 64) : IntKind.u64.wrap (18446744073709551615 * 2 ^ L) = ((up L : Nat) : Int) := by
  have := shl_up L h
  rwa [show min L 64 = L from by omega] at this
end Go.Proofs.YtcpignkjlnjjmaaGreatDoor
namespace Go.Proofs.YtcpignkjlnjjmaaGreatDoor
open Go.RowKit
set_option linter.unusedVariables false
set_option linter.unusedSimpArgs false

end Go.Proofs.YtcpignkjlnjjmaaGreatDoor
namespace Go.Proofs.YtcpignkjlnjjmaaGreatDoor
open Go.RowKit
set_option linter.unusedVariables false
set_option linter.unusedSimpArgs false

end Go.Proofs.YtcpignkjlnjjmaaGreatDoor
namespace Go.Proofs.YtcpignkjlnjjmaaGreatDoor
open Go.RowKit
set_option linter.unusedVariables false
set_option linter.unusedSimpArgs false

theorem Row.fillAll {b k : Nat} {T : TypeId} (v : Value) (m : Nat) : ∀ (o : Nat) (w : World) (f : Nat → Value), Row w b T k f → Row (w.setCells b o (List.replicate m v)) b T k (fun i => if o ≤ i ∧ i < o + m then v else f i) := by
  induction m with
  | zero => intro o w f h; exact h.congr fun i hi => by rw [if_neg (by omega)]
  | succ m ih =>
    intro o w f h
    show Row ((w.setCell ⟨b, o, none⟩ v).setCells b (o + 1) (List.replicate m v)) b T k _
    refine (ih (o + 1) _ _ (h.set o v)).congr fun i hi => ?_
    by_cases h1 : i = o
    · subst h1; simp
    · by_cases h2 : o + 1 ≤ i ∧ i < o + 1 + m
      · rw [if_pos h2, if_pos (by omega)]
      · have h3 : ¬ (o ≤ i ∧ i < o + (m + 1)) := by omega
        simp only [if_neg h2, if_neg h3, if_neg h1]
theorem Out.setAll {b lo hi : Nat} (hb : lo ≤ b ∧ b < hi) (v : Value) (m : Nat) : ∀ (o : Nat) (a w : World), Out lo hi a w → Out lo hi a (w.setCells b o (List.replicate m v)) := by
  induction m with
  | zero => intro o a w h; exact h
  | succ m ih => intro o a w h; exact ih (o + 1) a _ (h.setCell (.inl hb) v)
theorem heap_setAll {b c : Nat} (h : c ≠ b) (v : Value) (m : Nat) : ∀ (o : Nat) (w : World), (w.setCells b o (List.replicate m v)).heap[c]? = w.heap[c]? := by
  induction m with
  | zero => intro o w; rfl
  | succ m ih => intro o w; exact (ih (o + 1) _).trans (Below.heap_setCell _ _ _ _ h)
theorem zero_u64 (w : World) : (zeroValue 78).run Tryz.prog w = .ok (.int .u64 0) w := by kernel_rfl
/-- an All of the map b: the block that holds its pointer -/
def AllAt (w : World) (lo hi g b : Nat) : Prop := lo ≤ g ∧ g < hi ∧ hi ≤ w.heap.size ∧ Box w g 82 (.pointer (some ⟨b, 0, none⟩))
theorem AllAt.kept {w w' : World} {lo hi g b lo' hi' : Nat} (h : AllAt w lo hi g b) (o : Out lo' hi' w w') (hd : hi ≤ lo' ∨ hi' ≤ lo) : AllAt w' lo hi g b :=
  ⟨h.1, h.2.1, Nat.le_trans h.2.2.1 o.size, h.2.2.2.kept o (by have := h.1; have := h.2.1; omega)⟩
theorem ball_any (b : Nat) (w : World) :
    Calls Tryz.prog 85 #[.pointer (some ⟨b, 0, none⟩)] w fun e w' => e = .returned (.func (.func 97) #[] #[.pointer (some ⟨w.heap.size, 0, none⟩)]) ∧ w' = w.alloc (.cells #[.pointer (some ⟨b, 0, none⟩)] 82) := by
  go_enter Tryz.func85, Tryz.ntmps85
  go_wp2
  go_ret
  exact ⟨rfl, rfl⟩
end Go.Proofs.YtcpignkjlnjjmaaGreatDoor
namespace Go.Proofs.YtcpignkjlnjjmaaGreatDoor
open Go.ChangeShapes Go.WideShapes Go.ChangeAt Go.RowKit
set_option linter.unusedVariables false
set_option linter.unusedSimpArgs false

theorem hgood_any (a k n : Int) (w : World) : Calls Tryz.prog 105 #[.int .i64 a, .int .i64 k, .int .i64 n] w fun e w' => e = .returned (.bool (goodB a k n)) ∧ w' = w := by
  go_enter Tryz.func105, Tryz.ntmps105
  go_wp2
  all_goals go_ret
  all_goals refine ⟨ret_bool ?_, rfl⟩
  all_goals (unfold goodB; rw [Bool.eq_iff_iff]; simp; try omega)
theorem sign_any (a k n : Int) (w : World) (h : HGood a k n) : Calls Tryz.prog 106 #[.int .i64 a, .int .i64 k, .int .i64 n] w fun e w' => e = .returned (.int .i64 (signV (xV a k n))) ∧ w' = w := by
  have H := hid_mk (sign_eq h)
  clear h
  generalize signV (xV a k n) = s at *
  go_enter Tryz.func106, Tryz.ntmps106
  go_wp2
  go_ret
  exact ⟨ret_int H.out, rfl⟩
theorem hmake_any (a k n : Int) (w : World) : Calls Tryz.prog 94 #[.int .i64 a, .int .i64 k, .int .i64 n] w fun e w' => e = .returned (.int .i64 (makeV a k n)) ∧ w' = w := by
  have G := hid_mk (hgood_any a k n)
  by_cases h : HGood a k n
  · have H := hid_mk (make_eq h)
    have S := hid_mk (fun w => sign_any a k n w h)
    rw [good_true h] at G
    clear h
    generalize makeV a k n = r at *
    generalize signV (xV a k n) = s at *
    go_enter Tryz.func94, Tryz.ntmps94
    go_wp2_with (first
      | (go_at_call 105; refine calls_same (G.out _) ?_)
      | (go_at_call 106; refine calls_same (S.out _) ?_))
    go_ret
    exact ⟨ret_int H.out, rfl⟩
  · rw [make_bad h]
    rw [good_false h] at G
    clear h
    go_enter Tryz.func94, Tryz.ntmps94
    go_wp2_with (go_at_call 105; refine calls_same (G.out _) ?_)
    go_ret
    exact ⟨rfl, rfl⟩
end Go.Proofs.YtcpignkjlnjjmaaGreatDoor
