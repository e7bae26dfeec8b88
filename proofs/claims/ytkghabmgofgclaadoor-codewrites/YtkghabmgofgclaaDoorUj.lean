/- package code: instructions are written -/
import Derived.Test.YtkghabmgofgclaaDoorUi
namespace Go.Proofs.YtkghabmgofgclaaDoor
open Go.RowKit
set_option linter.unusedVariables false
set_option linter.unusedSimpArgs false

theorem operandOf_at {op : Int} {k : Nat} (hk : opS op = k) (w : World) : Calls Tryd.prog 95 #[.int .i64 op] w fun e w' => e = .returned (.int .i64 (k : Int)) ∧ w' = w := by
  rw [← hk]; exact operandOf_any op w
theorem opS_in {op : Int} (h : opS op ≠ 0) : 1 ≤ op ∧ op ≤ 75 := by
  unfold opS at h
  by_cases h1 : op = 1
  · omega
  · rw [if_neg h1] at h
    by_cases h5 : op = 5
    · omega
    · rw [if_neg h5] at h
      by_cases h2 : 2 ≤ op ∧ op ≤ 10 ∨ 14 ≤ op ∧ op ≤ 18
      · omega
      · rw [if_neg h2] at h
        by_cases h3 : 11 ≤ op ∧ op ≤ 13 ∨ 19 ≤ op ∧ op ≤ 22 ∨ 30 ≤ op ∧ op ≤ 75
        · omega
        · rw [if_neg h3] at h; exact absurd rfl h
theorem may_any (b : Bool) {w : World} {Q : Ending → World → Prop} (hy : b = true → Q (.returned (.tuple #[])) w) (hn : b = false → Q (.panicked [stopP 62 0]) w) : Calls Tryd.prog 80 #[.bool b] w Q := by
  cases b
  · exact calls_stop (may_no _) (hn rfl)
  · exact calls_same (may_yes _) (hy rfl)
/-- the box of an instruction, a step later -/
theorem St.box {p : Nat} {o o' : Option Nat} {w w' : World} {cs : Array Value} {T : TypeId} {F : List Int} (h : St p o (w.alloc (.cells cs T)) o' w') (hW : WR w p o F) : Bl w' w.heap.size cs T :=
  h.bl (Bl.new w cs T) (by have := hW.lt; omega) (hW.off (Nat.le_refl _))
theorem u8_op {op : Int} (h : 1 ≤ op ∧ op ≤ 75) : op % 256 = op := by omega
set_option maxRecDepth 100000 in
set_option maxHeartbeats 1000000 in
theorem ins_none {w : World} {p : Nat} {o : Option Nat} {F : List Int} (h : WR w p o F) (op a : Int) (hs : opS op = 0) :
    Calls Tryd.prog 81 #[.pointer (some ⟨p, 0, none⟩), .agg #[.int .i64 op, .int .i64 a]] w fun e w' => e = .panicked [stopP 62 0] ∧ ∃ o', St p o w o' w' := by
  have b1 := (Bl.new w #[.int .i64 op, .int .i64 a] 61)
  have c0 := b1.cell (i := 0) rfl
  have c1 := b1.cell (i := 1) rfl
  clear b1 h
  go_enter Tryd.func81, Tryd.ntmps81
  go_wp2_with (first
    | (go_at_call 95; refine calls_same (operandOf_at hs _) ?_)
    | (go_at_call 80; refine calls_stop (may_no _) ?_))
  exact ⟨rfl, rfl, o, (St.refl _ _ _).alloc _⟩
set_option maxRecDepth 100000 in
set_option maxHeartbeats 1000000 in
theorem ins_one {w : World} {p : Nat} {o : Option Nat} {F : List Int} (h : WR w p o F) (op a : Int) (hs : opS op = 1) :
    Calls Tryd.prog 81 #[.pointer (some ⟨p, 0, none⟩), .agg #[.int .i64 op, .int .i64 a]] w fun e w' => ∃ o', St p o w o' w' ∧ (e = .returned (.tuple #[]) ∧ a = 0 ∧ WR w' p o' (F ++ [op]) ∨ e = .panicked [stopP 62 0] ∧ a ≠ 0) := by
  have b1 := (Bl.new w #[.int .i64 op, .int .i64 a] 61)
  have c0 := b1.cell (i := 0) rfl
  have c1 := b1.cell (i := 1) rfl
  obtain ⟨q1, q2⟩ := opS_in (op := op) (by omega)
  have HW := hid_mk h
  clear b1 h
  by_cases ha : a = 0
  · have ha' : (a == 0) = true := by simpa using ha
    have HA := hid_mk ha
    clear ha
    go_enter Tryd.func81, Tryd.ntmps81
    go_wp2_with (first
      | (go_at_call 95; refine calls_same (operandOf_at hs _) ?_)
      | (go_at_call 80; refine may_any _ ?_ ?_ <;> intro hh <;> first | (exact absurd hh (by decide)) | clear hh)
      | (go_at_call 61; refine (put_one (b := op) (HW.out.alloc _) (by omega) (by omega) (by omega) (size_alloc _ _)).mono ?_; rintro e w2 ⟨rfl, o2, hW2, hS2⟩; have b2 := hS2.box HW.out; have d1 := b2.cell (i := 1) rfl; have HW2 := hid_mk hW2; have HS2 := hid_mk hS2; clear hW2 hS2 b2))
    exact bodyPost_end (results_none Tryd.results81 _ _ _) rfl ⟨o2, ((St.refl p o w).alloc _).trans HS2.out, .inl ⟨rfl, HA.out, HW2.out⟩⟩
  · have ha' : (a == 0) = false := by simpa using ha
    have HA := hid_mk ha
    clear ha
    go_enter Tryd.func81, Tryd.ntmps81
    go_wp2_with (first
      | (go_at_call 95; refine calls_same (operandOf_at hs _) ?_)
      | (go_at_call 80; refine may_any _ ?_ ?_ <;> intro hh <;> first | (exact absurd hh (by decide)) | clear hh)
      | (go_at_call 61; refine (put_one (b := op) (HW.out.alloc _) (by omega) (by omega) (by omega) (size_alloc _ _)).mono ?_; rintro e w2 ⟨rfl, o2, hW2, hS2⟩; have b2 := hS2.box HW.out; have d1 := b2.cell (i := 1) rfl; have HW2 := hid_mk hW2; have HS2 := hid_mk hS2; clear hW2 hS2 b2))
    exact ⟨rfl, o2, ((St.refl p o w).alloc _).trans HS2.out, .inr ⟨rfl, HA.out⟩⟩
set_option maxRecDepth 100000 in
set_option maxHeartbeats 1000000 in
theorem ins_two {w : World} {p : Nat} {o : Option Nat} {F : List Int} (h : WR w p o F) (op a : Int) (hs : opS op = 2) :
    Calls Tryd.prog 81 #[.pointer (some ⟨p, 0, none⟩), .agg #[.int .i64 op, .int .i64 a]] w fun e w' => ∃ o', St p o w o' w' ∧ (e = .returned (.tuple #[]) ∧ (0 ≤ a ∧ a ≤ 2097151) ∧ WR w' p o' (F ++ [op] ++ numB a.toNat) ∨ e = .panicked [stopP 62 0] ∧ ¬ (0 ≤ a ∧ a ≤ 2097151)) := by
  have b1 := (Bl.new w #[.int .i64 op, .int .i64 a] 61)
  have c0 := b1.cell (i := 0) rfl
  have c1 := b1.cell (i := 1) rfl
  obtain ⟨q1, q2⟩ := opS_in (op := op) (by omega)
  have HW := hid_mk h
  clear b1 h
  by_cases ha : 0 ≤ a ∧ a ≤ 2097151
  · have HA := hid_mk ha
    have HN : Hid (∀ w2 o2 F2, WR w2 p o2 F2 → Calls Tryd.prog 62 #[.pointer (some ⟨p, 0, none⟩), .int .i64 a, .int .i64 0, .int .i64 2097151] w2 fun e w' => e = .returned (.tuple #[]) ∧ ∃ o', WR w' p o' (F2 ++ numB a.toNat) ∧ St p o2 w2 o' w') := by
      intro w2 o2 F2 h2
      obtain ⟨n, rfl⟩ := Int.eq_ofNat_of_zero_le ha.1
      exact number_yes h2 n (by omega) 0 2097151 (by simp) (by simpa using ha.2)
    clear ha
    go_enter Tryd.func81, Tryd.ntmps81
    go_wp2_with (first
      | (go_at_call 95; refine calls_same (operandOf_at hs _) ?_)
      | (go_at_call 80; refine may_any _ ?_ ?_ <;> intro hh <;> first | (exact absurd hh (by decide)) | clear hh)
      | (go_at_call 61; refine (put_one (b := op) (HW.out.alloc _) (by omega) (by omega) (by omega) (size_alloc _ _)).mono ?_; rintro e w2 ⟨rfl, o2, hW2, hS2⟩; have b2 := hS2.box HW.out; have d1 := b2.cell (i := 1) rfl; have HW2 := hid_mk hW2; have HS2 := hid_mk hS2; clear hW2 hS2 b2)
      | (go_at_call 62; refine (HN.out _ _ _ HW2.out).mono ?_; rintro e w3 ⟨rfl, o3, hW3, hS3⟩))
    exact bodyPost_end (results_none Tryd.results81 _ _ _) rfl ⟨o3, (((St.refl p o w).alloc _).trans HS2.out).trans hS3, .inl ⟨rfl, HA.out, hW3⟩⟩
  · have HA := hid_mk ha
    have HN : Hid (∀ w2, Calls Tryd.prog 62 #[.pointer (some ⟨p, 0, none⟩), .int .i64 a, .int .i64 0, .int .i64 2097151] w2 fun e w' => e = .panicked [stopP 62 0] ∧ w' = w2) := by
      intro w2
      exact number_no a 0 2097151 (by simp; omega)
    clear ha
    go_enter Tryd.func81, Tryd.ntmps81
    go_wp2_with (first
      | (go_at_call 95; refine calls_same (operandOf_at hs _) ?_)
      | (go_at_call 80; refine may_any _ ?_ ?_ <;> intro hh <;> first | (exact absurd hh (by decide)) | clear hh)
      | (go_at_call 61; refine (put_one (b := op) (HW.out.alloc _) (by omega) (by omega) (by omega) (size_alloc _ _)).mono ?_; rintro e w2 ⟨rfl, o2, hW2, hS2⟩; have b2 := hS2.box HW.out; have d1 := b2.cell (i := 1) rfl; have HW2 := hid_mk hW2; have HS2 := hid_mk hS2; clear hW2 hS2 b2)
      | (go_at_call 62; refine calls_stop (HN.out _) ?_))
    exact ⟨rfl, o2, ((St.refl p o w).alloc _).trans HS2.out, .inr ⟨rfl, HA.out⟩⟩
set_option maxRecDepth 100000 in
set_option maxHeartbeats 1000000 in
theorem ins_three {w : World} {p : Nat} {o : Option Nat} {F : List Int} (h : WR w p o F) (op a : Int) (hs : opS op = 3) :
    Calls Tryd.prog 81 #[.pointer (some ⟨p, 0, none⟩), .agg #[.int .i64 op, .int .i64 a]] w fun e w' => ∃ o', St p o w o' w' ∧ (e = .returned (.tuple #[]) ∧ (-1152921504606846976 ≤ a ∧ a ≤ 1152921504606846975) ∧ WR w' p o' (F ++ [op] ++ numB (zig a)) ∨ e = .panicked [stopP 62 0] ∧ ¬ (-1152921504606846976 ≤ a ∧ a ≤ 1152921504606846975)) := by
  have b1 := (Bl.new w #[.int .i64 op, .int .i64 a] 61)
  have c0 := b1.cell (i := 0) rfl
  have c1 := b1.cell (i := 1) rfl
  obtain ⟨q1, q2⟩ := opS_in (op := op) (by omega)
  have HW := hid_mk h
  clear b1 h
  by_cases ha : -1152921504606846976 ≤ a ∧ a ≤ 1152921504606846975
  · have HA := hid_mk ha
    have HN : Hid (∀ w2 o2 F2, WR w2 p o2 F2 → Calls Tryd.prog 96 #[.pointer (some ⟨p, 0, none⟩), .int .i64 a] w2 fun e w' => e = .returned (.tuple #[]) ∧ ∃ o', WR w' p o' (F2 ++ numB (zig a)) ∧ St p o2 w2 o' w') := by
      intro w2 o2 F2 h2
      exact signed_yes h2 a (by simpa using ha.1) (by simpa using ha.2)
    clear ha
    go_enter Tryd.func81, Tryd.ntmps81
    go_wp2_with (first
      | (go_at_call 95; refine calls_same (operandOf_at hs _) ?_)
      | (go_at_call 80; refine may_any _ ?_ ?_ <;> intro hh <;> first | (exact absurd hh (by decide)) | clear hh)
      | (go_at_call 61; refine (put_one (b := op) (HW.out.alloc _) (by omega) (by omega) (by omega) (size_alloc _ _)).mono ?_; rintro e w2 ⟨rfl, o2, hW2, hS2⟩; have b2 := hS2.box HW.out; have d1 := b2.cell (i := 1) rfl; have HW2 := hid_mk hW2; have HS2 := hid_mk hS2; clear hW2 hS2 b2)
      | (go_at_call 96; refine (HN.out _ _ _ HW2.out).mono ?_; rintro e w3 ⟨rfl, o3, hW3, hS3⟩))
    exact bodyPost_end (results_none Tryd.results81 _ _ _) rfl ⟨o3, (((St.refl p o w).alloc _).trans HS2.out).trans hS3, .inl ⟨rfl, HA.out, hW3⟩⟩
  · have HA := hid_mk ha
    have HN : Hid (∀ w2, Calls Tryd.prog 96 #[.pointer (some ⟨p, 0, none⟩), .int .i64 a] w2 fun e w' => e = .panicked [stopP 62 0] ∧ w' = w2) := by
      intro w2
      exact signed_no a (by simp; omega)
    clear ha
    go_enter Tryd.func81, Tryd.ntmps81
    go_wp2_with (first
      | (go_at_call 95; refine calls_same (operandOf_at hs _) ?_)
      | (go_at_call 80; refine may_any _ ?_ ?_ <;> intro hh <;> first | (exact absurd hh (by decide)) | clear hh)
      | (go_at_call 61; refine (put_one (b := op) (HW.out.alloc _) (by omega) (by omega) (by omega) (size_alloc _ _)).mono ?_; rintro e w2 ⟨rfl, o2, hW2, hS2⟩; have b2 := hS2.box HW.out; have d1 := b2.cell (i := 1) rfl; have HW2 := hid_mk hW2; have HS2 := hid_mk hS2; clear hW2 hS2 b2)
      | (go_at_call 96; refine calls_stop (HN.out _) ?_))
    exact ⟨rfl, o2, ((St.refl p o w).alloc _).trans HS2.out, .inr ⟨rfl, HA.out⟩⟩
set_option maxRecDepth 100000 in
set_option maxHeartbeats 1000000 in
theorem ins_four {w : World} {p : Nat} {o : Option Nat} {F : List Int} (h : WR w p o F) (op a : Int) (hs : opS op = 4) :
    Calls Tryd.prog 81 #[.pointer (some ⟨p, 0, none⟩), .agg #[.int .i64 op, .int .i64 a]] w fun e w' => ∃ o', St p o w o' w' ∧ e = .returned (.tuple #[]) ∧ WR w' p o' (F ++ [op] ++ le8 a) := by
  have b1 := (Bl.new w #[.int .i64 op, .int .i64 a] 61)
  have c0 := b1.cell (i := 0) rfl
  have c1 := b1.cell (i := 1) rfl
  obtain ⟨q1, q2⟩ := opS_in (op := op) (by omega)
  have HW := hid_mk h
  clear b1 h
  go_enter Tryd.func81, Tryd.ntmps81
  go_wp2_with (first
      | (go_at_call 95; refine calls_same (operandOf_at hs _) ?_)
      | (go_at_call 80; refine may_any _ ?_ ?_ <;> intro hh <;> first | (exact absurd hh (by decide)) | clear hh)
      | (go_at_call 61; refine (put_one (b := op) (HW.out.alloc _) (by omega) (by omega) (by omega) (size_alloc _ _)).mono ?_; rintro e w2 ⟨rfl, o2, hW2, hS2⟩; have b2 := hS2.box HW.out; have d1 := b2.cell (i := 1) rfl; have HW2 := hid_mk hW2; have HS2 := hid_mk hS2; clear hW2 hS2 b2)
      | (go_at_call 97; refine (bits_any HW2.out _).mono ?_; rintro e w3 ⟨rfl, o3, hW3, hS3⟩))
  exact bodyPost_end (results_none Tryd.results81 _ _ _) rfl ⟨o3, (((St.refl p o w).alloc _).trans HS2.out).trans hS3, rfl, hW3⟩
/-- an instruction is written, or the program can't be -/
theorem ins_any {w : World} {p : Nat} {o : Option Nat} {F : List Int} (h : WR w p o F) (op a : Int) (ha : -9223372036854775808 ≤ a ∧ a ≤ 9223372036854775807) :
    Calls Tryd.prog 81 #[.pointer (some ⟨p, 0, none⟩), .agg #[.int .i64 op, .int .i64 a]] w fun e w' => ∃ o', St p o w o' w' ∧ (e = .returned (.tuple #[]) ∧ okI (op, a) ∧ WR w' p o' (F ++ encI (op, a)) ∨ e = .panicked [stopP 62 0] ∧ ¬ okI (op, a)) := by
  have hle := opS_le op
  have hcase : opS op = 0 ∨ opS op = 1 ∨ opS op = 2 ∨ opS op = 3 ∨ opS op = 4 := by omega
  unfold encI opB okI
  dsimp only
  rcases hcase with hs | hs | hs | hs | hs
  · exact (ins_none h op a hs).mono fun e w' ⟨he, o', hS⟩ => ⟨o', hS, .inr ⟨he, fun q => q.1 hs⟩⟩
  · refine (ins_one h op a hs).mono fun e w' ⟨o', hS, hc⟩ => ⟨o', hS, ?_⟩
    rcases hc with ⟨he, h0, hW⟩ | ⟨he, h0⟩
    · refine .inl ⟨he, ⟨by omega, fun _ => h0, fun q => by omega, fun q => by omega, fun q => by omega⟩, ?_⟩
      rw [if_neg (by omega), if_neg (by omega), if_neg (by omega)]; exact hW
    · exact .inr ⟨he, fun q => h0 (q.2.1 hs)⟩
  · refine (ins_two h op a hs).mono fun e w' ⟨o', hS, hc⟩ => ⟨o', hS, ?_⟩
    rcases hc with ⟨he, h0, hW⟩ | ⟨he, h0⟩
    · refine .inl ⟨he, ⟨by omega, fun q => by omega, fun _ => h0, fun q => by omega, fun q => by omega⟩, ?_⟩
      rw [if_pos hs]; rw [List.append_assoc] at hW; exact hW
    · exact .inr ⟨he, fun q => h0 (q.2.2.1 hs)⟩
  · refine (ins_three h op a hs).mono fun e w' ⟨o', hS, hc⟩ => ⟨o', hS, ?_⟩
    rcases hc with ⟨he, h0, hW⟩ | ⟨he, h0⟩
    · refine .inl ⟨he, ⟨by omega, fun q => by omega, fun q => by omega, fun _ => h0, fun q => by omega⟩, ?_⟩
      rw [if_neg (by omega), if_pos hs]; rw [List.append_assoc] at hW; exact hW
    · exact .inr ⟨he, fun q => h0 (q.2.2.2.1 hs)⟩
  · refine (ins_four h op a hs).mono fun e w' ⟨o', hS, he, hW⟩ => ⟨o', hS, .inl ⟨he, ⟨by omega, fun q => by omega, fun q => by omega, fun q => by omega, fun _ => ha⟩, ?_⟩⟩
    rw [if_neg (by omega), if_neg (by omega), if_pos hs]; rw [List.append_assoc] at hW; exact hW
end Go.Proofs.YtkghabmgofgclaaDoor
