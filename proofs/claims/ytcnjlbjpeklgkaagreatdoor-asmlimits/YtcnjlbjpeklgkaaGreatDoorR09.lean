import Derived.Test.YtcnjlbjpeklgkaaGreatDoorR07
import Derived.Test.YtcnjlbjpeklgkaaGreatDoorR03
namespace Go.Proofs.YtcnjlbjpeklgkaaGreatDoor
open Go.RowKit
set_option linter.unusedVariables false
set_option linter.unusedSimpArgs false

section
variable {T E I : TypeId} {z : Value} {sz by_ : Nat}
theorem app_three' (A B C : Array Value) : A ++ (B ++ C) = A ++ B ++ C := by
  apply Array.ext'
  simp
theorem zer_grow (hT : Tryz.prog.underlying T = some (.slice E)) (hI : Tryz.prog.underlying I = some (.int .i64)) (hinf : (Tryz.prog.info? E).map (fun i => (i.zero, i.size, i.bytes)) = some (some z, sz, by_)) (hz : z.cells.size = sz) (hsz : 0 < sz) (hby : by_ ≤ 1000) (w : World) (ty : TypeId) (ta : Option Addr) (n cap m : Nat) (xs : List Value) (hlo : xs.length = n * sz) (hnone : ta = none → n = 0) (holds : ∀ b, ta = some b → ∀ (j : Nat) u, xs[j]? = some u → w.cell? (b.add j) = some u) (hg : cap < n + m) (hn : n ≤ 2000000) (hm0 : 0 < m) (hm : m ≤ 1000) :
    (Builtin.append_ #[T, I] ty #[.slice ta n cap, .int .i64 (m : Int)]).run Tryz.prog w =
      .ok (.slice (some ⟨w.heap.size, 0, none⟩) (n + m) (grownCap w (n + m) cap E))
        (w.drew.alloc (.cells (xs.toArray ++ Builtin.zeroCells z.cells m ++ Builtin.zeroCells z.cells (grownCap w (n + m) cap E - (n + m))) E)) := by
  obtain ⟨i0, hi, hz0, hz1, hz2⟩ := info_p hinf
  have hn' : ¬ (n + m ≤ cap) := by omega
  have h63' : ¬ (9223372036854775807 < ((n : Int) + (m : Int))) := by omega
  have h48' : ¬ (281474976710656 < Builtin.nextslicecap (n + m) cap * by_) := by
    have hb : (n + m) * by_ ≤ 2001000 * 1000 := Nat.mul_le_mul (by omega) hby
    have := growslice_fits (need := n + m) (old := cap) (bytes := by_) hg (by omega)
    omega
  have hlb : ¬ ((281474976710656 : Int) < (m : Int) * (by_ : Int)) := by
    have hb : m * by_ ≤ 1000 * 1000 := Nat.mul_le_mul hm hby
    have : ((m * by_ : Nat) : Int) ≤ 1000000 := by omega
    rw [Int.natCast_mul] at this
    omega
  have hw : IntKind.i64.wrap (m : Int) = m := by
    simp [IntKind.wrap, IntKind.signed, IntKind.bits]; omega
  have h00 : ¬ (m = 0) := by omega
  have hs0 : ¬ (sz = 0) := by omega
  have hneg : ¬ ((m : Int) < 0) := by omega
  have hfo : (Builtin.firstCells sz n (.slice ta n cap)).run Tryz.prog w.drew = .ok xs.toArray w.drew := by
    cases ta with
    | some b => exact run_firstCells_some (P := Tryz.prog) w.drew sz n b n cap xs hlo (by simpa using holds b rfl)
    | none =>
      obtain rfl := hnone rfl
      obtain rfl : xs = [] := List.eq_nil_of_length_eq_zero (by simpa using hlo)
      exact run_firstCells_none _ _ _ _ _
  simp [Builtin.append_, run_underlying hT, run_underlying hI, sizeOf, typeInfo, zeroValue, hi, hz0, hz1, hz2, asInt, asIntOf, hw, hneg, hlb, hn', h63', h48', Question.forced, hfo, newRow, grownCap]
  intro h0
  exfalso
  rcases Nat.mul_eq_zero.1 h0 with q | q <;> omega
theorem zer_room (hT : Tryz.prog.underlying T = some (.slice E)) (hI : Tryz.prog.underlying I = some (.int .i64)) (hinf : (Tryz.prog.info? E).map (fun i => (i.zero, i.size, i.bytes)) = some (some z, sz, by_)) (hz : z.cells.size = sz) (hsz : 0 < sz) (hby : by_ ≤ 1000) {m : Nat} (h1 : ∀ u ∈ (Builtin.zeroCells z.cells m).toList, u.oneCell' = true) (w : World) (ty : TypeId) (g n cap : Nat) (cur : Array Value) (hg : w.heap[g]? = some (.cells cur E (0, 0))) (hroom : n + m ≤ cap) (hfit : (n + m) * sz ≤ cur.size) (hm0 : 0 < m) (hm : m ≤ 1000) :
    (Builtin.append_ #[T, I] ty #[.slice (some ⟨g, 0, none⟩) n cap, .int .i64 (m : Int)]).run Tryz.prog w =
      .ok (.slice (some ⟨g, 0, none⟩) (n + m) cap) (w.setRow g (cur.toList.take (n * sz) ++ (Builtin.zeroCells z.cells m).toList ++ cur.toList.drop (n * sz + (Builtin.zeroCells z.cells m).toList.length)).toArray) := by
  obtain ⟨i0, hi, hz0, hz1, hz2⟩ := info_p hinf
  have hlb : ¬ ((281474976710656 : Int) < (m : Int) * (by_ : Int)) := by
    have hb : m * by_ ≤ 1000 * 1000 := Nat.mul_le_mul hm hby
    have : ((m * by_ : Nat) : Int) ≤ 1000000 := by omega
    rw [Int.natCast_mul] at this
    omega
  have hw : IntKind.i64.wrap (m : Int) = m := by
    simp [IntKind.wrap, IntKind.signed, IntKind.bits]; omega
  have h00 : ¬ (m = 0) := by omega
  have hs0 : ¬ (sz = 0) := by omega
  have hneg : ¬ ((m : Int) < 0) := by omega
  have hst := run_storeCells_at Tryz.prog g (n * sz) E (Builtin.zeroCells z.cells m).toList 0 cur w hg (by
    simp only [Array.length_toList, size_zeroCells, hz, Nat.add_zero]
    have := Nat.add_mul n m sz
    omega) h1
  simp only [Nat.add_zero] at hst
  simp [Builtin.append_, run_underlying hT, run_underlying hI, sizeOf, typeInfo, zeroValue, hi, hz0, hz1, hz2, asInt, asIntOf, hw, hneg, hlb, hroom, Addr.add_lit]
  simp at hst
  rw [hst, if_neg (fun h0 => by rcases Nat.mul_eq_zero.1 h0 with q | q <;> omega)]
  rfl
theorem zer_keep (hT : Tryz.prog.underlying T = some (.slice E)) (hI : Tryz.prog.underlying I = some (.int .i64)) (hinf : (Tryz.prog.info? E).map (fun i => (i.zero, i.size, i.bytes)) = some (some z, sz, by_)) (hz : z.cells.size = sz) (hsz : 0 < sz) (hby : by_ ≤ 1000) {m : Nat} (h1 : ∀ u ∈ (Builtin.zeroCells z.cells m).toList, u.oneCell' = true) {w : World} {base K cap : Nat} {ta : Option Addr} {xs : List Value} (hown : w.ownsRow base E sz (.slice ta K cap) K xs) (hbase : base ≤ w.heap.size) (hK : K ≤ 2000000) (hm : 0 < m) (hm2 : m ≤ 1000) (ty : TypeId) :
    ∃ g cap' w', (Builtin.append_ #[T, I] ty #[.slice ta K cap, .int .i64 (m : Int)]).run Tryz.prog w = .ok (.slice (some ⟨g, 0, none⟩) (K + m) cap') w' ∧ w'.ownsRow base E sz (.slice (some ⟨g, 0, none⟩) (K + m) cap') (K + m) (xs ++ (Builtin.zeroCells z.cells m).toList) ∧ w'.ownsRow base E sz (.slice ta K cap) K xs ∧ Fx (fun k => (Value.slice ta K cap).ownBlock = some k) w w' ∧
      ((Value.slice ta K cap).ownBlock = some g ∨ w.heap.size ≤ g) := by
  have hzl : (Builtin.zeroCells z.cells m).toList.length = m * sz := by simp only [Array.length_toList, size_zeroCells, hz]
  have hlen : (xs ++ (Builtin.zeroCells z.cells m).toList).length = (K + m) * sz := by rw [List.length_append, hown.1, hzl, Nat.add_mul]
  have grown : ∀ (hnone : ta = none → K = 0) (holds : ∀ b, ta = some b → ∀ (j : Nat) u, xs[j]? = some u → w.cell? (b.add j) = some u) (hg : cap < K + m), ∃ g cap' w', (Builtin.append_ #[T, I] ty #[.slice ta K cap, .int .i64 (m : Int)]).run Tryz.prog w = .ok (.slice (some ⟨g, 0, none⟩) (K + m) cap') w' ∧ w'.ownsRow base E sz (.slice (some ⟨g, 0, none⟩) (K + m) cap') (K + m) (xs ++ (Builtin.zeroCells z.cells m).toList) ∧ w'.ownsRow base E sz (.slice ta K cap) K xs ∧ Fx (fun k => (Value.slice ta K cap).ownBlock = some k) w w' ∧ ((Value.slice ta K cap).ownBlock = some g ∨ w.heap.size ≤ g) := by
    intro hnone holds hg
    have hr := zer_grow hT hI hinf hz hsz hby w ty ta K cap m xs hown.1 hnone holds hg hK hm hm2
    have hgr : w.grownBy (w.drew.alloc (.cells (xs.toArray ++ Builtin.zeroCells z.cells m ++ Builtin.zeroCells z.cells (grownCap w (K + m) cap E - (K + m))) E)) none := ⟨rfl, rfl, rfl, by simp, fun k hk _ => heap_alloc_old w.drew _ hk⟩
    refine ⟨_, _, _, hr, ⟨hlen, .inr ⟨w.heap.size, _, _, rfl, hbase, heap_alloc_new w.drew _, grownCap_ge w (K + m) cap E, grownCap_le_maxLen w (K + m) cap E (by unfold maxLen; omega), ?_, ?_⟩⟩, own_fx (S := fun _ => False) hown (fx_grown hgr) (fun _ _ q => q), fx_grown hgr, .inr (Nat.le_refl _)⟩
    · have := grownCap_ge w (K + m) cap E
      simp only [Array.size_append, List.size_toArray, size_zeroCells, hz, hown.1, ← Nat.add_mul]
      rw [show K + m + (grownCap w (K + m) cap E - (K + m)) = grownCap w (K + m) cap E by omega]
    · simp only [Array.toList_append]
      rw [← hlen]
      exact List.take_left
  rcases hown.2 with ⟨h0, h00⟩ | ⟨g, cap2, cur, h0, hg1, hg2, hg3, hg4, hg5, hg6⟩
  · cases h0
    exact grown (fun _ => h00) (fun b hb => by cases hb) (by omega)
  · cases h0
    by_cases hr : K + m ≤ cap
    · have hrun := zer_room hT hI hinf hz hsz hby h1 w ty g K cap cur hg2 hr (by rw [hg5]; exact Nat.mul_le_mul_right _ hr) hm hm2
      have hkm : (K + m) * sz ≤ cap * sz := Nat.mul_le_mul_right _ hr
      rw [Nat.add_mul] at hkm
      have h5 : w.grownBy (w.setRow g (cur.toList.take (K * sz) ++ (Builtin.zeroCells z.cells m).toList ++ cur.toList.drop (K * sz + (Builtin.zeroCells z.cells m).toList.length)).toArray) (some g) := ⟨rfl, rfl, rfl, by simp, fun k _ hk => setRow_other w g k _ (fun e => hk (by simp [e]))⟩
      have h6 : (w.setRow g (cur.toList.take (K * sz) ++ (Builtin.zeroCells z.cells m).toList ++ cur.toList.drop (K * sz + (Builtin.zeroCells z.cells m).toList.length)).toArray).ownsRow base E sz (.slice (some ⟨g, 0, none⟩) (K + m) cap) (K + m) (xs ++ (Builtin.zeroCells z.cells m).toList) := by
        refine ⟨hlen, .inr ⟨g, cap, _, rfl, hg1, setRow_heap w g cur _ E _ hg2, hr, hg4, ?_, ?_⟩⟩
        · simp only [List.size_toArray, List.length_append, List.length_take, List.length_drop, Array.length_toList, size_zeroCells, hz]
          omega
        · rw [hg6, ← hlen]
          exact List.take_left
      exact ⟨g, cap, _, hrun, h6, own_part h6 hown.1, ⟨h5.os, h5.tape, h5.output, h5.size, fun k h1 h2 => h5.block k h1 (fun e => h2 e.symm)⟩, .inl rfl⟩
    · exact grown (fun e => by cases e) (fun b hb => by cases hb; exact hown.cells (g := g) rfl) (by omega)
end
end Go.Proofs.YtcnjlbjpeklgkaaGreatDoor
namespace Go.Proofs.YtcnjlbjpeklgkaaGreatDoor
open Go.RowKit
set_option linter.unusedVariables false
set_option linter.unusedSimpArgs false

theorem one_byte (w : World) {b : Int} (h0 : 0 ≤ b) (h1 : b ≤ 255) : BytesAt (w.alloc (.cells #[.int .u8 b] 5)) (some ⟨w.heap.size, 0, none⟩) [b] :=
  ⟨Byt.cons h0 h1 Byt.nil, .inr ⟨w.heap.size, 0, rfl, fun j c hj => by
    match j, hj with
    | 0, hj => cases hj; exact (Bl.new w #[.int .u8 b] 5).cell (i := 0) rfl
    | j + 1, hj => simp at hj⟩⟩
/-- one byte is put down -/
theorem put_one {w : World} {p H : Nat} {o : Option Nat} {F : List Int} {b c : Int} (h : WR w p o F) (h0 : 0 ≤ b) (h1 : b ≤ 255) (hbc : c = b) (hH : w.heap.size = H) :
    Calls Tryz.prog 81 #[.pointer (some ⟨p, 0, none⟩), .slice (some ⟨H, 0, none⟩) 1 1] (w.alloc (.cells #[.int .u8 c] 5)) fun e w' => e = .returned (.tuple #[]) ∧ ∃ o', WR w' p o' (F ++ [b]) ∧ St p o w o' w' := by
  subst hbc hH
  exact (put_any (n := 1) (h.alloc _) (one_byte w h0 h1) rfl (by omega)).mono fun e w' ⟨he, o', h2, h3⟩ => ⟨he, o', h2, ((St.refl p o w).alloc _).trans h3⟩
theorem num_q {m n : Nat} (h : (n : Int) ≤ 9223372036854775807) (hm : m ≤ n) : wrap64 ((m : Int) / 128) = (m : Int) / 128 := by unfold wrap64; omega
theorem num_v {m n : Nat} (h : (n : Int) ≤ 9223372036854775807) (hm : m ≤ n) : Value.int .i64 (wrap64 ((m : Int) / 128)) = .int .i64 ((m / 128 : Nat) : Int) := by rw [num_q h hm]; simp
theorem num_m {m n : Nat} (h : (n : Int) ≤ 9223372036854775807) (hm : m ≤ n) (h1 : 128 ≤ m) : (wrap64 ((m : Int) / 128)).toNat < m := by rw [num_q h hm]; omega
theorem num_le {m n : Nat} (hm : m ≤ n) : m / 128 ≤ n := by omega
set_option maxRecDepth 100000 in
theorem number_yes {w : World} {p : Nat} {o : Option Nat} {F : List Int} (h : WR w p o F) (n : Nat) (hn : (n : Int) ≤ 9223372036854775807) (lo hi : Int) (h1 : decide (lo ≤ (n : Int)) = true) (h2 : decide ((n : Int) ≤ hi) = true) :
    Calls Tryz.prog 82 #[.pointer (some ⟨p, 0, none⟩), .int .i64 n, .int .i64 lo, .int .i64 hi] w fun e w' => e = .returned (.tuple #[]) ∧ ∃ o', WR w' p o' (F ++ numB n) ∧ St p o w o' w' := by
  have HW := hid_mk h
  have HNB := hid_mk hn
  clear h hn
  go_enter Tryz.func82, Tryz.ntmps82
  go_wp2_with (go_at_call 115; refine calls_same (may_yes _) ?_)
  clear h1 h2
  go_loopw [1] (fun x wr => ∃ m : Nat, x = .int .i64 m ∧ m ≤ n ∧ ∃ o' F', F' ++ numB m = F ++ numB n ∧ WR wr p o' F' ∧ St p o w o' wr) (fun x _ => (intOf x).toNat)
  case atStart => exact ⟨n, rfl, Nat.le_refl _, o, F, rfl, HW.out, St.refl _ _ _⟩
  case round =>
    obtain ⟨m, rfl, hmn, o', F', hF, hW, hS⟩ := hrel
    have HM := hid_mk hmn
    clear hmn
    have HF := hid_mk hF
    have HW1 := hid_mk hW
    have HS := hid_mk hS
    clear hF hW hS
    by_cases hgo : 128 ≤ m
    · have g1 : (128 : Int) ≤ (m : Int) := by omega
      have hd : decide ((128 : Int) ≤ (m : Int)) = true := by simp; omega
      go_wp2_with (go_at_call 81; refine (put_one (b := ((128 + m % 128 : Nat) : Int)) HW1.out (by omega) (by omega) (by omega) rfl).mono ?_; rintro e w2 ⟨rfl, o2, hW2, hS2⟩; have HW2 := hid_mk hW2; have HS2 := hid_mk hS2; clear hW2 hS2)
      go_roundw
      case rel => exact ⟨m / 128, num_v HNB.out HM.out, num_le HM.out, o2, _, by rw [← HF.out, numB_ge hgo, List.append_assoc]; rfl, HW2.out, HS.out.trans HS2.out⟩
      case measure => rw [num_q HNB.out HM.out]; simp [intOf]; omega
    · have g1 : (m : Int) < 128 := by omega
      have hd : decide ((128 : Int) ≤ (m : Int)) = false := by simp; omega
      go_wp2_with (go_at_call 81; refine (put_one (b := (m : Int)) HW1.out (by omega) (by omega) (by omega) rfl).mono ?_; rintro e w2 ⟨rfl, o2, hW2, hS2⟩; have HW2 := hid_mk hW2; have HS2 := hid_mk hS2; clear hW2 hS2)
      refine bodyPost_end (results_none Tryz.results82 _ _ _) rfl ⟨rfl, o2, ?_, HS.out.trans HS2.out⟩
      rw [← HF.out, numB_lt (by omega)]
      exact HW2.out
/-- a number out of its range -/
theorem number_no {w : World} {p : Nat} (n lo hi : Int) (h1 : (decide (lo ≤ n) && decide (n ≤ hi)) = false) :
    Calls Tryz.prog 82 #[.pointer (some ⟨p, 0, none⟩), .int .i64 n, .int .i64 lo, .int .i64 hi] w fun e w' => e = .panicked [stopP 62 0] ∧ w' = w := by
  rcases ha : decide (lo ≤ n) with _ | _
  · go_enter Tryz.func82, Tryz.ntmps82
    go_wp2_with (go_at_call 115; refine calls_stop (may_no _) ?_)
    exact ⟨rfl, rfl, rfl⟩
  · have hb : decide (n ≤ hi) = false := by simpa [ha] using h1
    clear h1
    go_enter Tryz.func82, Tryz.ntmps82
    go_wp2_with (go_at_call 115; refine calls_stop (may_no _) ?_)
    exact ⟨rfl, rfl, rfl⟩
/-- a fixnum -/
theorem signed_yes {w : World} {p : Nat} {o : Option Nat} {F : List Int} (h : WR w p o F) (a : Int) (h1 : decide (-1152921504606846976 ≤ a) = true) (h2 : decide (a ≤ 1152921504606846975) = true) :
    Calls Tryz.prog 134 #[.pointer (some ⟨p, 0, none⟩), .int .i64 a] w fun e w' => e = .returned (.tuple #[]) ∧ ∃ o', WR w' p o' (F ++ numB (zig a)) ∧ St p o w o' w' := by
  have HN := hid_mk (number_yes h (zig a) (by simp only [decide_eq_true_eq] at h1 h2 ⊢; unfold zig; split <;> omega) 0 2305843009213693951 (by simp) (by simp only [decide_eq_true_eq] at h1 h2 ⊢; unfold zig; split <;> omega))
  by_cases h0 : 0 ≤ a
  · have hd : decide (0 ≤ a) = true := by simpa using h0
    have hz : ((zig a : Nat) : Int) = 2 * a := by unfold zig; rw [if_pos h0]; omega
    have hw : wrap64 (2 * a) = 2 * a := by simp only [decide_eq_true_eq] at h1 h2; unfold wrap64; omega
    rw [hz] at HN
    clear hz
    clear h
    go_enter Tryz.func134, Tryz.ntmps134
    go_wp2_with (first
      | (go_at_call 115; refine calls_same (may_yes _) ?_)
      | (go_at_call 82; refine HN.out.mono ?_; rintro e w2 ⟨rfl, o2, hW2, hS2⟩))
    exact bodyPost_end (results_none Tryz.results134 _ _ _) rfl ⟨rfl, o2, hW2, hS2⟩
  · have hd : decide (0 ≤ a) = false := by simpa using h0
    have hz : ((zig a : Nat) : Int) = -2 * a - 1 := by unfold zig; rw [if_neg h0]; omega
    have hw : wrap64 (-2 * a) = -2 * a := by simp only [decide_eq_true_eq] at h1 h2; unfold wrap64; omega
    have hw2 : wrap64 (-2 * a - 1) = -2 * a - 1 := by simp only [decide_eq_true_eq] at h1 h2; unfold wrap64; omega
    rw [hz] at HN
    clear hz
    clear h
    go_enter Tryz.func134, Tryz.ntmps134
    go_wp2_with (first
      | (go_at_call 115; refine calls_same (may_yes _) ?_)
      | (go_at_call 82; refine HN.out.mono ?_; rintro e w2 ⟨rfl, o2, hW2, hS2⟩))
    exact bodyPost_end (results_none Tryz.results134 _ _ _) rfl ⟨rfl, o2, hW2, hS2⟩
theorem signed_no {w : World} {p : Nat} (a : Int) (h1 : (decide (-1152921504606846976 ≤ a) && decide (a ≤ 1152921504606846975)) = false) :
    Calls Tryz.prog 134 #[.pointer (some ⟨p, 0, none⟩), .int .i64 a] w fun e w' => e = .panicked [stopP 62 0] ∧ w' = w := by
  rcases ha : decide (-1152921504606846976 ≤ a) with _ | _
  · go_enter Tryz.func134, Tryz.ntmps134
    go_wp2_with (go_at_call 115; refine calls_stop (may_no _) ?_)
    exact ⟨rfl, rfl, rfl⟩
  · have hb : decide (a ≤ 1152921504606846975) = false := by simpa [ha] using h1
    clear h1
    go_enter Tryz.func134, Tryz.ntmps134
    go_wp2_with (go_at_call 115; refine calls_stop (may_no _) ?_)
    exact ⟨rfl, rfl, rfl⟩
end Go.Proofs.YtcnjlbjpeklgkaaGreatDoor
namespace Go.Proofs.YtcnjlbjpeklgkaaGreatDoor
open Go.RowKit
set_option linter.unusedVariables false
set_option linter.unusedSimpArgs false

theorem byte_lo (x : Int) : 0 ≤ x % 256 := Int.emod_nonneg _ (by decide)
theorem byte_hi (x : Int) : x % 256 ≤ 255 := by have := Int.emod_lt_of_pos x (show (0 : Int) < 256 by decide); omega
theorem le8_up {a : Int} {i : Nat} (h : i < 8) : (le8 a).take (i + 1) = (le8 a).take i ++ [a / 2 ^ (8 * i) % 256] := by
  have hl : (le8 a).length = 8 := by unfold le8; simp
  rw [List.take_succ_eq_append_getElem (by omega)]
  congr 2
  unfold le8
  simp only [List.getElem_map, List.getElem_range]
  rw [show (2 : Int) ^ (8 * i) = 256 ^ i by rw [Int.pow_mul]; rfl]
set_option maxRecDepth 100000 in
theorem bits_any {w : World} {p : Nat} {o : Option Nat} {F : List Int} (h : WR w p o F) (a : Int) :
    Calls Tryz.prog 135 #[.pointer (some ⟨p, 0, none⟩), .int .i64 a] w fun e w' => e = .returned (.tuple #[]) ∧ ∃ o', WR w' p o' (F ++ le8 a) ∧ St p o w o' w' := by
  have HW := hid_mk h
  clear h
  go_enter Tryz.func135, Tryz.ntmps135
  go_wp2
  go_loopw [5] (fun x wr => ∃ i : Nat, x = .int .i64 i ∧ i ≤ 8 ∧ ∃ o', WR wr p o' (F ++ (le8 a).take i) ∧ St p o w o' wr) (fun x _ => 8 - (intOf x).toNat)
  case atStart => exact ⟨0, rfl, by decide, o, by simpa using HW.out, St.refl _ _ _⟩
  case round =>
    obtain ⟨i, rfl, hi, o', hW, hS⟩ := hrel
    have HW1 := hid_mk hW
    have HS := hid_mk hS
    clear hW hS
    by_cases hgo : i < 8
    · have g1 : (i : Int) < 8 := by omega
      go_wp2_with (go_at_call 81; refine (put_one (b := a / 2 ^ (8 * i) % 256) HW1.out (byte_lo _) (byte_hi _) rfl rfl).mono ?_; rintro e w2 ⟨rfl, o2, hW2, hS2⟩; have HW2 := hid_mk hW2; have HS2 := hid_mk hS2; clear hW2 hS2)
      go_roundw
      case rel => exact ⟨i + 1, by go_num, by omega, o2, by rw [le8_up hgo, ← List.append_assoc]; exact HW2.out, HS.out.trans HS2.out⟩
      case measure => simp [intOf]; omega
    · have : i = 8 := by omega
      subst this
      go_wp2
      refine bodyPost_end (results_none Tryz.results135 _ _ _) rfl ⟨rfl, o', ?_, HS.out⟩
      have := HW1.out
      rwa [List.take_of_length_le (by rw [le8_eq]; simp)] at this
theorem operandOf_any (op : Int) (w : World) : Calls Tryz.prog 133 #[.int .i64 op] w fun e w' => e = .returned (.int .i64 (opS op)) ∧ w' = w := by
  by_cases h : 1 ≤ op ∧ op ≤ 18
  · have : op = 1 ∨ op = 2 ∨ op = 3 ∨ op = 4 ∨ op = 5 ∨ op = 6 ∨ op = 7 ∨ op = 8 ∨ op = 9 ∨ op = 10 ∨ op = 11 ∨ op = 12 ∨ op = 13 ∨ op = 14 ∨ op = 15 ∨ op = 16 ∨ op = 17 ∨ op = 18 := by omega
    clear h
    rcases this with rfl | rfl | rfl | rfl | rfl | rfl | rfl | rfl | rfl | rfl | rfl | rfl | rfl | rfl | rfl | rfl | rfl | rfl
    all_goals
      go_enter Tryz.func133, Tryz.ntmps133
      go_wp2
      go_ret
      exact ⟨rfl, rfl⟩
  · have e1 : (op == 1) = false := by simp; omega
    have e2 : (op == 2) = false := by simp; omega
    have e3 : (op == 3) = false := by simp; omega
    have e4 : (op == 4) = false := by simp; omega
    have e5 : (op == 5) = false := by simp; omega
    have e6 : (op == 6) = false := by simp; omega
    have e7 : (op == 7) = false := by simp; omega
    have e8 : (op == 8) = false := by simp; omega
    have e9 : (op == 9) = false := by simp; omega
    have e10 : (op == 10) = false := by simp; omega
    have e14 : (op == 14) = false := by simp; omega
    have e15 : (op == 15) = false := by simp; omega
    have e16 : (op == 16) = false := by simp; omega
    have e17 : (op == 17) = false := by simp; omega
    have e18 : (op == 18) = false := by simp; omega
    have key : ∀ b1 b2 b3 b4, decide (11 ≤ op) = b1 → decide (op ≤ 22) = b2 → decide (30 ≤ op) = b3 → decide (op ≤ 75) = b4 → opS op = (if (b1 && b2) || (b3 && b4) then 1 else 0) := by
      intro b1 b2 b3 b4 h1 h2 h3 h4
      rw [← h1, ← h2, ← h3, ← h4]
      simp only [Bool.or_eq_true, Bool.and_eq_true, decide_eq_true_eq]
      unfold opS
      rw [if_neg (by omega), if_neg (by omega), if_neg (by omega)]
      by_cases q : 11 ≤ op ∧ op ≤ 13 ∨ 19 ≤ op ∧ op ≤ 22 ∨ 30 ≤ op ∧ op ≤ 75
      · rw [if_pos q, if_pos (by omega)]
      · rw [if_neg q, if_neg (by omega)]
    clear h
    rcases h1 : decide (11 ≤ op) with _ | _ <;> rcases h2 : decide (op ≤ 22) with _ | _ <;> rcases h3 : decide (30 ≤ op) with _ | _ <;> rcases h4 : decide (op ≤ 75) with _ | _
    all_goals
      rw [key _ _ _ _ h1 h2 h3 h4]
      clear key
      go_enter Tryz.func133, Tryz.ntmps133
      go_wp2
      go_ret
      exact ⟨rfl, rfl⟩
end Go.Proofs.YtcnjlbjpeklgkaaGreatDoor
