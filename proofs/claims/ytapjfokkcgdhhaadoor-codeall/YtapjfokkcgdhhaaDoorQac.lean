import Derived.Test.YtapjfokkcgdhhaaDoorQab
import Derived.Lib.SmallJoins
namespace Go.Proofs.YtapjfokkcgdhhaaDoor
open Go.RowKit
set_option linter.unusedVariables false
set_option linter.unusedSimpArgs false

theorem operandOf_at {op : Int} {k : Nat} (hk : opS op = k) (w : World) : Calls Tryd.prog 60 #[.int .i64 op] w fun e w' => e = .returned (.int .i64 (k : Int)) ∧ w' = w := by
  rw [← hk]; exact operandOf_any op w
theorem opS_in {op : Int} (h : opS op ≠ 0) : 1 ≤ op ∧ op ≤ 75 := by
  unfold opS at h
  by_cases h1 : op = 1
  · omega
  · rw [if_neg h1] at h
    by_cases h5 : op = 5
    · omega
    · rw [if_neg h5] at h
      by_cases h2 : 2 ≤ op ∧ op ≤ 10 ∨ 14 ≤ op ∧ op ≤ 18
      · omega
      · rw [if_neg h2] at h
        by_cases h3 : 11 ≤ op ∧ op ≤ 13 ∨ 19 ≤ op ∧ op ≤ 22 ∨ 30 ≤ op ∧ op ≤ 75
        · omega
        · rw [if_neg h3] at h; exact absurd rfl h
theorem may_any (b : Bool) {w : World} {Q : Ending → World → Prop} (hy : b = true → Q (.returned (.tuple #[])) w) (hn : b = false → Q (.panicked [stopP 62 0]) w) : Calls Tryd.prog 50 #[.bool b] w Q := by
  cases b
  · exact calls_stop (may_no _) (hn rfl)
  · exact calls_same (may_yes _) (hy rfl)
/-- the box of an instruction, a step later -/
theorem St.box {p : Nat} {o o' : Option Nat} {w w' : World} {cs : Array Value} {T : TypeId} {F : List Int} (h : St p o (w.alloc (.cells cs T)) o' w') (hW : WR w p o F) : Bl w' w.heap.size cs T :=
  h.bl (Bl.new w cs T) (by have := hW.lt; omega) (hW.off (Nat.le_refl _))
theorem u8_op {op : Int} (h : 1 ≤ op ∧ op ≤ 75) : op % 256 = op := by omega
set_option maxRecDepth 100000 in
set_option maxHeartbeats 1000000 in
theorem ins_none {w : World} {p : Nat} {o : Option Nat} {F : List Int} (h : WR w p o F) (op a : Int) (hs : opS op = 0) :
    Calls Tryd.prog 51 #[.pointer (some ⟨p, 0, none⟩), .agg #[.int .i64 op, .int .i64 a]] w fun e w' => e = .panicked [stopP 62 0] ∧ ∃ o', St p o w o' w' := by
  have b1 := (Bl.new w #[.int .i64 op, .int .i64 a] 61)
  have c0 := b1.cell (i := 0) rfl
  have c1 := b1.cell (i := 1) rfl
  clear b1 h
  go_enter Tryd.func51, Tryd.ntmps51
  go_wp2_with (first
    | (go_at_call 60; refine calls_same (operandOf_at hs _) ?_)
    | (go_at_call 50; refine calls_stop (may_no _) ?_))
  exact ⟨rfl, rfl, o, (St.refl _ _ _).alloc _⟩
set_option maxRecDepth 100000 in
set_option maxHeartbeats 1000000 in
theorem ins_one {w : World} {p : Nat} {o : Option Nat} {F : List Int} (h : WR w p o F) (op a : Int) (hs : opS op = 1) :
    Calls Tryd.prog 51 #[.pointer (some ⟨p, 0, none⟩), .agg #[.int .i64 op, .int .i64 a]] w fun e w' => ∃ o', St p o w o' w' ∧ (e = .returned (.tuple #[]) ∧ a = 0 ∧ WR w' p o' (F ++ [op]) ∨ e = .panicked [stopP 62 0] ∧ a ≠ 0) := by
  have b1 := (Bl.new w #[.int .i64 op, .int .i64 a] 61)
  have c0 := b1.cell (i := 0) rfl
  have c1 := b1.cell (i := 1) rfl
  obtain ⟨q1, q2⟩ := opS_in (op := op) (by omega)
  have HW := hid_mk h
  clear b1 h
  by_cases ha : a = 0
  · have ha' : (a == 0) = true := by simpa using ha
    have HA := hid_mk ha
    clear ha
    go_enter Tryd.func51, Tryd.ntmps51
    go_wp2_with (first
      | (go_at_call 60; refine calls_same (operandOf_at hs _) ?_)
      | (go_at_call 50; refine may_any _ ?_ ?_ <;> intro hh <;> first | (exact absurd hh (by decide)) | clear hh)
      | (go_at_call 39; refine (put_one (b := op) (HW.out.alloc _) (by omega) (by omega) (by omega) (size_alloc _ _)).mono ?_; rintro e w2 ⟨rfl, o2, hW2, hS2⟩; have b2 := hS2.box HW.out; have d1 := b2.cell (i := 1) rfl; have HW2 := hid_mk hW2; have HS2 := hid_mk hS2; clear hW2 hS2 b2))
    exact bodyPost_end (results_none Tryd.results51 _ _ _) rfl ⟨o2, ((St.refl p o w).alloc _).trans HS2.out, .inl ⟨rfl, HA.out, HW2.out⟩⟩
  · have ha' : (a == 0) = false := by simpa using ha
    have HA := hid_mk ha
    clear ha
    go_enter Tryd.func51, Tryd.ntmps51
    go_wp2_with (first
      | (go_at_call 60; refine calls_same (operandOf_at hs _) ?_)
      | (go_at_call 50; refine may_any _ ?_ ?_ <;> intro hh <;> first | (exact absurd hh (by decide)) | clear hh)
      | (go_at_call 39; refine (put_one (b := op) (HW.out.alloc _) (by omega) (by omega) (by omega) (size_alloc _ _)).mono ?_; rintro e w2 ⟨rfl, o2, hW2, hS2⟩; have b2 := hS2.box HW.out; have d1 := b2.cell (i := 1) rfl; have HW2 := hid_mk hW2; have HS2 := hid_mk hS2; clear hW2 hS2 b2))
    exact ⟨rfl, o2, ((St.refl p o w).alloc _).trans HS2.out, .inr ⟨rfl, HA.out⟩⟩
set_option maxRecDepth 100000 in
set_option maxHeartbeats 1000000 in
theorem ins_two {w : World} {p : Nat} {o : Option Nat} {F : List Int} (h : WR w p o F) (op a : Int) (hs : opS op = 2) :
    Calls Tryd.prog 51 #[.pointer (some ⟨p, 0, none⟩), .agg #[.int .i64 op, .int .i64 a]] w fun e w' => ∃ o', St p o w o' w' ∧ (e = .returned (.tuple #[]) ∧ (0 ≤ a ∧ a ≤ 2097151) ∧ WR w' p o' (F ++ [op] ++ numB a.toNat) ∨ e = .panicked [stopP 62 0] ∧ ¬ (0 ≤ a ∧ a ≤ 2097151)) := by
  have b1 := (Bl.new w #[.int .i64 op, .int .i64 a] 61)
  have c0 := b1.cell (i := 0) rfl
  have c1 := b1.cell (i := 1) rfl
  obtain ⟨q1, q2⟩ := opS_in (op := op) (by omega)
  have HW := hid_mk h
  clear b1 h
  by_cases ha : 0 ≤ a ∧ a ≤ 2097151
  · have HA := hid_mk ha
    have HN : Hid (∀ w2 o2 F2, WR w2 p o2 F2 → Calls Tryd.prog 40 #[.pointer (some ⟨p, 0, none⟩), .int .i64 a, .int .i64 0, .int .i64 2097151] w2 fun e w' => e = .returned (.tuple #[]) ∧ ∃ o', WR w' p o' (F2 ++ numB a.toNat) ∧ St p o2 w2 o' w') := by
      intro w2 o2 F2 h2
      obtain ⟨n, rfl⟩ := Int.eq_ofNat_of_zero_le ha.1
      exact number_yes h2 n (by omega) 0 2097151 (by simp) (by simpa using ha.2)
    clear ha
    go_enter Tryd.func51, Tryd.ntmps51
    go_wp2_with (first
      | (go_at_call 60; refine calls_same (operandOf_at hs _) ?_)
      | (go_at_call 50; refine may_any _ ?_ ?_ <;> intro hh <;> first | (exact absurd hh (by decide)) | clear hh)
      | (go_at_call 39; refine (put_one (b := op) (HW.out.alloc _) (by omega) (by omega) (by omega) (size_alloc _ _)).mono ?_; rintro e w2 ⟨rfl, o2, hW2, hS2⟩; have b2 := hS2.box HW.out; have d1 := b2.cell (i := 1) rfl; have HW2 := hid_mk hW2; have HS2 := hid_mk hS2; clear hW2 hS2 b2)
      | (go_at_call 40; refine (HN.out _ _ _ HW2.out).mono ?_; rintro e w3 ⟨rfl, o3, hW3, hS3⟩))
    exact bodyPost_end (results_none Tryd.results51 _ _ _) rfl ⟨o3, (((St.refl p o w).alloc _).trans HS2.out).trans hS3, .inl ⟨rfl, HA.out, hW3⟩⟩
  · have HA := hid_mk ha
    have HN : Hid (∀ w2, Calls Tryd.prog 40 #[.pointer (some ⟨p, 0, none⟩), .int .i64 a, .int .i64 0, .int .i64 2097151] w2 fun e w' => e = .panicked [stopP 62 0] ∧ w' = w2) := by
      intro w2
      exact number_no a 0 2097151 (by simp; omega)
    clear ha
    go_enter Tryd.func51, Tryd.ntmps51
    go_wp2_with (first
      | (go_at_call 60; refine calls_same (operandOf_at hs _) ?_)
      | (go_at_call 50; refine may_any _ ?_ ?_ <;> intro hh <;> first | (exact absurd hh (by decide)) | clear hh)
      | (go_at_call 39; refine (put_one (b := op) (HW.out.alloc _) (by omega) (by omega) (by omega) (size_alloc _ _)).mono ?_; rintro e w2 ⟨rfl, o2, hW2, hS2⟩; have b2 := hS2.box HW.out; have d1 := b2.cell (i := 1) rfl; have HW2 := hid_mk hW2; have HS2 := hid_mk hS2; clear hW2 hS2 b2)
      | (go_at_call 40; refine calls_stop (HN.out _) ?_))
    exact ⟨rfl, o2, ((St.refl p o w).alloc _).trans HS2.out, .inr ⟨rfl, HA.out⟩⟩
set_option maxRecDepth 100000 in
set_option maxHeartbeats 1000000 in
theorem ins_three {w : World} {p : Nat} {o : Option Nat} {F : List Int} (h : WR w p o F) (op a : Int) (hs : opS op = 3) :
    Calls Tryd.prog 51 #[.pointer (some ⟨p, 0, none⟩), .agg #[.int .i64 op, .int .i64 a]] w fun e w' => ∃ o', St p o w o' w' ∧ (e = .returned (.tuple #[]) ∧ (-1152921504606846976 ≤ a ∧ a ≤ 1152921504606846975) ∧ WR w' p o' (F ++ [op] ++ numB (zig a)) ∨ e = .panicked [stopP 62 0] ∧ ¬ (-1152921504606846976 ≤ a ∧ a ≤ 1152921504606846975)) := by
  have b1 := (Bl.new w #[.int .i64 op, .int .i64 a] 61)
  have c0 := b1.cell (i := 0) rfl
  have c1 := b1.cell (i := 1) rfl
  obtain ⟨q1, q2⟩ := opS_in (op := op) (by omega)
  have HW := hid_mk h
  clear b1 h
  by_cases ha : -1152921504606846976 ≤ a ∧ a ≤ 1152921504606846975
  · have HA := hid_mk ha
    have HN : Hid (∀ w2 o2 F2, WR w2 p o2 F2 → Calls Tryd.prog 61 #[.pointer (some ⟨p, 0, none⟩), .int .i64 a] w2 fun e w' => e = .returned (.tuple #[]) ∧ ∃ o', WR w' p o' (F2 ++ numB (zig a)) ∧ St p o2 w2 o' w') := by
      intro w2 o2 F2 h2
      exact signed_yes h2 a (by simpa using ha.1) (by simpa using ha.2)
    clear ha
    go_enter Tryd.func51, Tryd.ntmps51
    go_wp2_with (first
      | (go_at_call 60; refine calls_same (operandOf_at hs _) ?_)
      | (go_at_call 50; refine may_any _ ?_ ?_ <;> intro hh <;> first | (exact absurd hh (by decide)) | clear hh)
      | (go_at_call 39; refine (put_one (b := op) (HW.out.alloc _) (by omega) (by omega) (by omega) (size_alloc _ _)).mono ?_; rintro e w2 ⟨rfl, o2, hW2, hS2⟩; have b2 := hS2.box HW.out; have d1 := b2.cell (i := 1) rfl; have HW2 := hid_mk hW2; have HS2 := hid_mk hS2; clear hW2 hS2 b2)
      | (go_at_call 61; refine (HN.out _ _ _ HW2.out).mono ?_; rintro e w3 ⟨rfl, o3, hW3, hS3⟩))
    exact bodyPost_end (results_none Tryd.results51 _ _ _) rfl ⟨o3, (((St.refl p o w).alloc _).trans HS2.out).trans hS3, .inl ⟨rfl, HA.out, hW3⟩⟩
  · have HA := hid_mk ha
    have HN : Hid (∀ w2, Calls Tryd.prog 61 #[.pointer (some ⟨p, 0, none⟩), .int .i64 a] w2 fun e w' => e = .panicked [stopP 62 0] ∧ w' = w2) := by
      intro w2
      exact signed_no a (by simp; omega)
    clear ha
    go_enter Tryd.func51, Tryd.ntmps51
    go_wp2_with (first
      | (go_at_call 60; refine calls_same (operandOf_at hs _) ?_)
      | (go_at_call 50; refine may_any _ ?_ ?_ <;> intro hh <;> first | (exact absurd hh (by decide)) | clear hh)
      | (go_at_call 39; refine (put_one (b := op) (HW.out.alloc _) (by omega) (by omega) (by omega) (size_alloc _ _)).mono ?_; rintro e w2 ⟨rfl, o2, hW2, hS2⟩; have b2 := hS2.box HW.out; have d1 := b2.cell (i := 1) rfl; have HW2 := hid_mk hW2; have HS2 := hid_mk hS2; clear hW2 hS2 b2)
      | (go_at_call 61; refine calls_stop (HN.out _) ?_))
    exact ⟨rfl, o2, ((St.refl p o w).alloc _).trans HS2.out, .inr ⟨rfl, HA.out⟩⟩
set_option maxRecDepth 100000 in
set_option maxHeartbeats 1000000 in
theorem ins_four {w : World} {p : Nat} {o : Option Nat} {F : List Int} (h : WR w p o F) (op a : Int) (hs : opS op = 4) :
    Calls Tryd.prog 51 #[.pointer (some ⟨p, 0, none⟩), .agg #[.int .i64 op, .int .i64 a]] w fun e w' => ∃ o', St p o w o' w' ∧ e = .returned (.tuple #[]) ∧ WR w' p o' (F ++ [op] ++ le8 a) := by
  have b1 := (Bl.new w #[.int .i64 op, .int .i64 a] 61)
  have c0 := b1.cell (i := 0) rfl
  have c1 := b1.cell (i := 1) rfl
  obtain ⟨q1, q2⟩ := opS_in (op := op) (by omega)
  have HW := hid_mk h
  clear b1 h
  go_enter Tryd.func51, Tryd.ntmps51
  go_wp2_with (first
      | (go_at_call 60; refine calls_same (operandOf_at hs _) ?_)
      | (go_at_call 50; refine may_any _ ?_ ?_ <;> intro hh <;> first | (exact absurd hh (by decide)) | clear hh)
      | (go_at_call 39; refine (put_one (b := op) (HW.out.alloc _) (by omega) (by omega) (by omega) (size_alloc _ _)).mono ?_; rintro e w2 ⟨rfl, o2, hW2, hS2⟩; have b2 := hS2.box HW.out; have d1 := b2.cell (i := 1) rfl; have HW2 := hid_mk hW2; have HS2 := hid_mk hS2; clear hW2 hS2 b2)
      | (go_at_call 62; refine (bits_any HW2.out _).mono ?_; rintro e w3 ⟨rfl, o3, hW3, hS3⟩))
  exact bodyPost_end (results_none Tryd.results51 _ _ _) rfl ⟨o3, (((St.refl p o w).alloc _).trans HS2.out).trans hS3, rfl, hW3⟩
/-- an instruction is written, or the program can't be -/
theorem ins_any {w : World} {p : Nat} {o : Option Nat} {F : List Int} (h : WR w p o F) (op a : Int) (ha : -9223372036854775808 ≤ a ∧ a ≤ 9223372036854775807) :
    Calls Tryd.prog 51 #[.pointer (some ⟨p, 0, none⟩), .agg #[.int .i64 op, .int .i64 a]] w fun e w' => ∃ o', St p o w o' w' ∧ (e = .returned (.tuple #[]) ∧ okI (op, a) ∧ WR w' p o' (F ++ encI (op, a)) ∨ e = .panicked [stopP 62 0] ∧ ¬ okI (op, a)) := by
  have hle := opS_le op
  have hcase : opS op = 0 ∨ opS op = 1 ∨ opS op = 2 ∨ opS op = 3 ∨ opS op = 4 := by omega
  unfold encI opB okI
  dsimp only
  rcases hcase with hs | hs | hs | hs | hs
  · exact (ins_none h op a hs).mono fun e w' ⟨he, o', hS⟩ => ⟨o', hS, .inr ⟨he, fun q => q.1 hs⟩⟩
  · refine (ins_one h op a hs).mono fun e w' ⟨o', hS, hc⟩ => ⟨o', hS, ?_⟩
    rcases hc with ⟨he, h0, hW⟩ | ⟨he, h0⟩
    · refine .inl ⟨he, ⟨by omega, fun _ => h0, fun q => by omega, fun q => by omega, fun q => by omega⟩, ?_⟩
      rw [if_neg (by omega), if_neg (by omega), if_neg (by omega)]; exact hW
    · exact .inr ⟨he, fun q => h0 (q.2.1 hs)⟩
  · refine (ins_two h op a hs).mono fun e w' ⟨o', hS, hc⟩ => ⟨o', hS, ?_⟩
    rcases hc with ⟨he, h0, hW⟩ | ⟨he, h0⟩
    · refine .inl ⟨he, ⟨by omega, fun q => by omega, fun _ => h0, fun q => by omega, fun q => by omega⟩, ?_⟩
      rw [if_pos hs]; rw [List.append_assoc] at hW; exact hW
    · exact .inr ⟨he, fun q => h0 (q.2.2.1 hs)⟩
  · refine (ins_three h op a hs).mono fun e w' ⟨o', hS, hc⟩ => ⟨o', hS, ?_⟩
    rcases hc with ⟨he, h0, hW⟩ | ⟨he, h0⟩
    · refine .inl ⟨he, ⟨by omega, fun q => by omega, fun q => by omega, fun _ => h0, fun q => by omega⟩, ?_⟩
      rw [if_neg (by omega), if_pos hs]; rw [List.append_assoc] at hW; exact hW
    · exact .inr ⟨he, fun q => h0 (q.2.2.2.1 hs)⟩
  · refine (ins_four h op a hs).mono fun e w' ⟨o', hS, he, hW⟩ => ⟨o', hS, .inl ⟨he, ⟨by omega, fun q => by omega, fun q => by omega, fun q => by omega, fun _ => ha⟩, ?_⟩⟩
    rw [if_neg (by omega), if_neg (by omega), if_pos hs]; rw [List.append_assoc] at hW; exact hW
end Go.Proofs.YtapjfokkcgdhhaaDoor
namespace Go.Proofs.YtapjfokkcgdhhaaDoor
open Go.RowKit
set_option linter.unusedVariables false
set_option linter.unusedSimpArgs false

/-- bytes below a block -/
def ByIn (w : World) (B : Nat) (p : Option Addr) (t : List Int) : Prop := Byt t ∧ (t = [] ∨ ∃ g off, p = some ⟨g, off, none⟩ ∧ g < B ∧ ∀ (j : Nat) x, t[j]? = some x → w.cell? ⟨g, off + j, none⟩ = some (.int .u8 x))
/-- texts below a block -/
def TxIn (w : World) (B : Nat) (p : Option Addr) (ts : List (List Int)) : Prop :=
  ts = [] ∨ ∃ g off, p = some ⟨g, off, none⟩ ∧ g < B ∧ ∀ (j : Nat) t, ts[j]? = some t → ∃ pj cj, w.cell? ⟨g, off + j, none⟩ = some (.slice pj t.length cj) ∧ ByIn w B pj t
/-- instructions below a block -/
def InIn (w : World) (B : Nat) (p : Option Addr) (l : List (Int × Int)) : Prop :=
  l = [] ∨ ∃ g off, p = some ⟨g, off, none⟩ ∧ g < B ∧ ∀ (j : Nat) x, l[j]? = some x → w.cell? ⟨g, off + j * 2, none⟩ = some (.int .i64 x.1) ∧ w.cell? ⟨g, off + j * 2 + 1, none⟩ = some (.int .i64 x.2)
/-- functions below a block -/
def FnIn (w : World) (B : Nat) (p : Option Addr) (fs : List (Int × Int × Int × List (Int × Int))) : Prop :=
  fs = [] ∨ ∃ g off, p = some ⟨g, off, none⟩ ∧ g < B ∧ ∀ (j : Nat) f, fs[j]? = some f → ∃ pj cj, w.cell? ⟨g, off + j * 4, none⟩ = some (.int .i64 f.1) ∧ w.cell? ⟨g, off + j * 4 + 1, none⟩ = some (.int .i64 f.2.1) ∧ w.cell? ⟨g, off + j * 4 + 2, none⟩ = some (.int .i64 f.2.2.1) ∧
    w.cell? ⟨g, off + j * 4 + 3, none⟩ = some (.slice pj f.2.2.2.length cj) ∧ InIn w B pj f.2.2.2
/-- all that lies below B is as it was -/
def Lo (B : Nat) (w w' : World) : Prop := Fx (fun k => B ≤ k) w w'
theorem Lo.refl (B : Nat) (w : World) : Lo B w w := Fx.refl _ _
theorem Lo.trans {B : Nat} {a b c : World} (h : Lo B a b) (g : Lo B b c) : Lo B a c := Fx.trans h g
theorem Lo.low {B C : Nat} {a b : World} (h : Lo B a b) (hC : C ≤ B) : Lo C a b := Fx.wide h fun k _ q => Nat.le_trans hC q
theorem Lo.cell {B : Nat} {w w' : World} (h : Lo B w w') {b o : Nat} {v : Value} (hc : w.cell? ⟨b, o, none⟩ = some v) (h2 : b < B) : w'.cell? ⟨b, o, none⟩ = some v := Fx.cell h hc (by omega)
theorem Lo.of_out {B : Nat} {w w' : World} (h : Out 0 0 w w') : Lo B w w' := Fx.of_out h
theorem St.lo {p : Nat} {o o' : Option Nat} {w w' : World} {F : List Int} (h : St p o w o' w') (hW : WR w p o F) : Lo p w w' := h.1.wide fun k _ q => by
  rcases q with q | q
  · omega
  · obtain ⟨ta, K, cap, bs, a1, a2, a3, a4, a5⟩ := hW
    have := (own_ge a4 (a5.trans q)).1
    omega
theorem ByIn.kept {w w' : World} {B C : Nat} {p : Option Addr} {t : List Int} (h : ByIn w B p t) (o : Lo C w w') (hx : B ≤ C) : ByIn w' B p t := by
  refine ⟨h.1, ?_⟩
  rcases h.2 with h | ⟨g, off, h1, h2, h3⟩
  · exact .inl h
  · exact .inr ⟨g, off, h1, h2, fun j x hj => o.cell (h3 j x hj) (by omega)⟩
theorem ByIn.bytes {w : World} {B : Nat} {p : Option Addr} {t : List Int} (h : ByIn w B p t) : BytesAt w p t := by
  refine ⟨h.1, ?_⟩
  rcases h.2 with h | ⟨g, off, h1, h2, h3⟩
  · exact .inl h
  · exact .inr ⟨g, off, h1, h3⟩
theorem TxIn.kept {w w' : World} {B C : Nat} {p : Option Addr} {ts : List (List Int)} (h : TxIn w B p ts) (o : Lo C w w') (hx : B ≤ C) : TxIn w' B p ts := by
  rcases h with h | ⟨g, off, h1, h2, h3⟩
  · exact .inl h
  · refine .inr ⟨g, off, h1, h2, fun j t hj => ?_⟩
    obtain ⟨pj, cj, c1, c2⟩ := h3 j t hj
    exact ⟨pj, cj, o.cell c1 (by omega), c2.kept o hx⟩
theorem InIn.kept {w w' : World} {B C : Nat} {p : Option Addr} {l : List (Int × Int)} (h : InIn w B p l) (o : Lo C w w') (hx : B ≤ C) : InIn w' B p l := by
  rcases h with h | ⟨g, off, h1, h2, h3⟩
  · exact .inl h
  · refine .inr ⟨g, off, h1, h2, fun j t hj => ?_⟩
    obtain ⟨c1, c2⟩ := h3 j t hj
    exact ⟨o.cell c1 (by omega), o.cell c2 (by omega)⟩
theorem FnIn.kept {w w' : World} {B C : Nat} {p : Option Addr} {fs : List (Int × Int × Int × List (Int × Int))} (h : FnIn w B p fs) (o : Lo C w w') (hx : B ≤ C) : FnIn w' B p fs := by
  rcases h with h | ⟨g, off, h1, h2, h3⟩
  · exact .inl h
  · refine .inr ⟨g, off, h1, h2, fun j t hj => ?_⟩
    obtain ⟨pj, cj, c1, c2, c3, c4, c5⟩ := h3 j t hj
    exact ⟨pj, cj, o.cell c1 (by omega), o.cell c2 (by omega), o.cell c3 (by omega), o.cell c4 (by omega), c5.kept o hx⟩
/-- the numbers of a program's instructions are the machine's -/
def MI (l : List (Int × Int)) : Prop := ∀ x ∈ l, (-9223372036854775808 ≤ x.1 ∧ x.1 ≤ 9223372036854775807) ∧ -9223372036854775808 ≤ x.2 ∧ x.2 ≤ 9223372036854775807
theorem number_any {w : World} {p : Nat} {o : Option Nat} {F : List Int} (h : WR w p o F) (n lo hi : Int) (h0 : decide (0 ≤ lo ∧ hi ≤ 9223372036854775807) = true) {Q : Ending → World → Prop}
    (hy : lo ≤ n ∧ n ≤ hi → ∀ w' o', WR w' p o' (F ++ numB n.toNat) → St p o w o' w' → Q (.returned (.tuple #[])) w') (hno : ¬ (lo ≤ n ∧ n ≤ hi) → Q (.panicked [stopP 62 0]) w) :
    Calls Tryd.prog 40 #[.pointer (some ⟨p, 0, none⟩), .int .i64 n, .int .i64 lo, .int .i64 hi] w Q := by
  have h0' : 0 ≤ lo ∧ hi ≤ 9223372036854775807 := by simpa using h0
  by_cases hc : lo ≤ n ∧ n ≤ hi
  · obtain ⟨m, rfl⟩ := Int.eq_ofNat_of_zero_le (Int.le_trans h0'.1 hc.1)
    exact (number_yes h m (Int.le_trans hc.2 h0'.2) lo hi (by simpa using hc.1) (by simpa using hc.2)).mono fun e w' ⟨he, o', hW, hS⟩ => by rw [he]; exact hy hc w' o' hW hS
  · exact calls_stop (number_no n lo hi (by simp; omega)) (hno hc)
theorem fm_up {l : List (Int × Int)} {k : Nat} {x : Int × Int} (h : l[k]? = some x) : (l.take (k + 1)).flatMap encI = (l.take k).flatMap encI ++ encI x := by
  rw [List.take_add_one, h]; simp
theorem ok_up {l : List (Int × Int)} {k : Nat} {x : Int × Int} (h : l[k]? = some x) (hk : ∀ e ∈ l.take k, okI e) (hx : okI x) : ∀ e ∈ l.take (k + 1), okI e := by
  intro e he
  rw [List.take_add_one, h] at he
  rcases List.mem_append.1 he with q | q
  · exact hk e q
  · simp at q; subst q; exact hx
set_option maxRecDepth 100000 in
set_option maxHeartbeats 1000000 in
/-- the instructions of a function, behind its four numbers -/
theorem function_any {w : World} {p B : Nat} {o : Option Nat} {F : List Int} (h : WR w p o F) (hB : B ≤ p) (x y z : Int) (l : List (Int × Int)) (ca : Option Addr) (n cc : Nat) (hn : l.length = n) (hl : InIn w B ca l) (hM : MI l) :
    Calls Tryd.prog 41 #[.pointer (some ⟨p, 0, none⟩), .agg #[.int .i64 x, .int .i64 y, .int .i64 z, .slice ca n cc]] w fun e w' => ∃ o', St p o w o' w' ∧ (e = .returned (.tuple #[]) ∧ okF (x, y, z, l) ∧ WR w' p o' (F ++ encF (x, y, z, l)) ∨ e = .panicked [stopP 62 0] ∧ ¬ okF (x, y, z, l)) := by
  have HB := hid_mk (Bl.new w #[.int .i64 x, .int .i64 y, .int .i64 z, .slice ca n cc] 40)
  have k0 := HB.out.cell (i := 0) rfl
  have k1 := HB.out.cell (i := 1) rfl
  have k2 := HB.out.cell (i := 2) rfl
  have k3 := HB.out.cell (i := 3) rfl
  have HW := hid_mk (h.alloc (.cells #[.int .i64 x, .int .i64 y, .int .i64 z, .slice ca n cc] 40))
  have HS := hid_mk (St.refl p o (w.alloc (.cells #[.int .i64 x, .int .i64 y, .int .i64 z, .slice ca n cc] 40)))
  have HS0 := hid_mk ((St.refl p o w).alloc (.cells #[.int .i64 x, .int .i64 y, .int .i64 z, .slice ca n cc] 40))
  have hgp : Hid (w.heap.size ≠ p) := hid_mk (by have := h.lt; omega)
  have hog : Hid (o ≠ some w.heap.size) := hid_mk (h.off (Nat.le_refl _))
  have HL := hid_mk hl
  have HM := hid_mk hM
  have HN := hid_mk hn
  have HW0 := hid_mk h
  clear h hl hM hn
  by_cases h1 : 0 ≤ x ∧ x ≤ 8
  · by_cases h2 : 0 ≤ y ∧ y ≤ 64
    · by_cases h3 : 0 ≤ z ∧ z ≤ 64
      · by_cases h4 : 0 ≤ (n : Int) ∧ (n : Int) ≤ 4096
        · go_enter Tryd.func41, Tryd.ntmps41
          go_wp2_with (go_at_call 40; refine number_any HW.out _ _ _ (by decide) ?_ ?_ <;> first
            | (intro hno; exact absurd (by assumption) hno)
            | (intro hok; exact absurd hok (by assumption))
            | (intro hok w2 o2 hW2 hS2; have HS := hid_mk (HS.out.trans hS2); have HW := hid_mk hW2; clear hW2 hS2 hok; have bb := HS.out.bl HB.out hgp.out hog.out; have k0 := bb.cell (i := 0) rfl; have k1 := bb.cell (i := 1) rfl; have k2 := bb.cell (i := 2) rfl; have k3 := bb.cell (i := 3) rfl; clear bb)
            | (intro hno; clear hno))
          have hn4 : (n : Int) ≤ 4096 := h4.2
          have HH := hid_mk (And.intro h1 (And.intro h2 (And.intro h3 h4)))
          have HL1 := hid_mk (HL.out.kept ((Lo.of_out ((Out.refl 0 0 w).alloc _)).trans (HS.out.lo (HW0.out.alloc _))) hB)
          clear k0 k1 k2 k3 h1 h2 h3 h4
          have HSA := hid_mk (HS0.out.trans HS.out)
          have HWL := hid_mk HW.out
          go_loopw [26] (fun i wr => ∃ k : Nat, i = .int .i64 k ∧ k ≤ n ∧ (∀ e ∈ l.take k, okI e) ∧ ∃ o', WR wr p o' (F ++ numB x.toNat ++ numB y.toNat ++ numB z.toNat ++ numB (n : Int).toNat ++ (l.take k).flatMap encI) ∧ St p o2 w2 o' wr) (fun i _ => n - (intOf i).toNat)
          case atStart => exact ⟨0, rfl, Nat.zero_le _, by simp, o2, by simpa using HW.out, St.refl _ _ _⟩
          case round =>
            obtain ⟨k, rfl, hkn, hok, o5, hW5, hS5⟩ := hrel
            have HK := hid_mk hok
            have HW5 := hid_mk hW5
            have HS5 := hid_mk hS5
            clear hok hW5 hS5
            by_cases hgo : k < n
            · have g1 : (k : Int) < (n : Int) := by omega
              obtain ⟨⟨u, v⟩, hx⟩ : ∃ e, l[k]? = some e := ⟨_, List.getElem?_eq_getElem (by have := HN.out; omega)⟩
              have HX := hid_mk hx
              rcases HL1.out with h0 | ⟨g, off, rfl, hg, hc⟩
              · rw [h0] at hx; cases hx
              obtain ⟨c0, c1⟩ := hc k _ hx
              have HO5 := hid_mk (HS5.out.lo HWL.out)
              have d0 := HO5.out.cell c0 (Nat.lt_of_lt_of_le hg hB)
              have d1 := HO5.out.cell c1 (Nat.lt_of_lt_of_le hg hB)
              have HMx := hid_mk (HM.out _ (List.mem_of_getElem? hx)).2
              clear hx hc c0 c1
              go_wp2_with fail
              refine (ins_any (HW5.out.alloc _) u v HMx.out).mono ?_
              rintro e w6 ⟨o6, hS6, ⟨rfl, hI, hW6⟩ | ⟨rfl, hI⟩⟩
              · have HI := hid_mk hI
                have HW6 := hid_mk hW6
                have HS6 := hid_mk hS6
                clear hI hW6 hS6
                go_wp2
                go_roundw
                case rel => exact ⟨k + 1, by go_num, by omega, ok_up HX.out HK.out HI.out, o6, by rw [fm_up HX.out, ← List.append_assoc]; exact HW6.out, (HS5.out.alloc _).trans HS6.out⟩
                case measure => simp [intOf]; omega
              · exact ⟨rfl, o6, (HSA.out.trans (HS5.out.alloc _)).trans hS6, .inr ⟨rfl, fun q => hI (q.2.2.2.2 _ (List.mem_of_getElem? HX.out))⟩⟩
            · have hkn' : k = n := by omega
              subst hkn'
              have g1 : ¬ ((k : Int) < (k : Int)) := by omega
              go_wp2
              refine bodyPost_end (results_none Tryd.results41 _ _ _) rfl ⟨o5, HSA.out.trans HS5.out, .inl ⟨rfl, ?_, ?_⟩⟩
              · have hT : l.take k = l := List.take_of_length_le (by have := HN.out; omega)
                have hk := HK.out
                rw [hT] at hk
                exact ⟨HH.out.1, HH.out.2.1, HH.out.2.2.1, by have := HH.out.2.2.2; have := HN.out; dsimp only; omega, hk⟩
              · have hT : l.take k = l := List.take_of_length_le (by have := HN.out; omega)
                have := HW5.out
                rw [hT] at this
                unfold encF
                dsimp only
                rw [HN.out]
                simpa [List.append_assoc] using this
        · go_enter Tryd.func41, Tryd.ntmps41
          go_wp2_with (go_at_call 40; refine number_any HW.out _ _ _ (by decide) ?_ ?_ <;> first
            | (intro hno; exact absurd (by assumption) hno)
            | (intro hok; exact absurd hok (by assumption))
            | (intro hok w2 o2 hW2 hS2; have HS := hid_mk (HS.out.trans hS2); have HW := hid_mk hW2; clear hW2 hS2 hok; have bb := HS.out.bl HB.out hgp.out hog.out; have k0 := bb.cell (i := 0) rfl; have k1 := bb.cell (i := 1) rfl; have k2 := bb.cell (i := 2) rfl; have k3 := bb.cell (i := 3) rfl; clear bb)
            | (intro hno; clear hno))
          exact ⟨rfl, _, HS0.out.trans HS.out, .inr ⟨rfl, fun q => h4 (by have := q.2.2.2.1; have := HN.out; dsimp only at *; omega)⟩⟩
      · go_enter Tryd.func41, Tryd.ntmps41
        go_wp2_with (go_at_call 40; refine number_any HW.out _ _ _ (by decide) ?_ ?_ <;> first
            | (intro hno; exact absurd (by assumption) hno)
            | (intro hok; exact absurd hok (by assumption))
            | (intro hok w2 o2 hW2 hS2; have HS := hid_mk (HS.out.trans hS2); have HW := hid_mk hW2; clear hW2 hS2 hok; have bb := HS.out.bl HB.out hgp.out hog.out; have k0 := bb.cell (i := 0) rfl; have k1 := bb.cell (i := 1) rfl; have k2 := bb.cell (i := 2) rfl; have k3 := bb.cell (i := 3) rfl; clear bb)
            | (intro hno; clear hno))
        exact ⟨rfl, _, HS0.out.trans HS.out, .inr ⟨rfl, fun q => h3 q.2.2.1⟩⟩
    · go_enter Tryd.func41, Tryd.ntmps41
      go_wp2_with (go_at_call 40; refine number_any HW.out _ _ _ (by decide) ?_ ?_ <;> first
            | (intro hno; exact absurd (by assumption) hno)
            | (intro hok; exact absurd hok (by assumption))
            | (intro hok w2 o2 hW2 hS2; have HS := hid_mk (HS.out.trans hS2); have HW := hid_mk hW2; clear hW2 hS2 hok; have bb := HS.out.bl HB.out hgp.out hog.out; have k0 := bb.cell (i := 0) rfl; have k1 := bb.cell (i := 1) rfl; have k2 := bb.cell (i := 2) rfl; have k3 := bb.cell (i := 3) rfl; clear bb)
            | (intro hno; clear hno))
      exact ⟨rfl, _, HS0.out.trans HS.out, .inr ⟨rfl, fun q => h2 q.2.1⟩⟩
  · go_enter Tryd.func41, Tryd.ntmps41
    go_wp2_with (go_at_call 40; refine number_any HW.out _ _ _ (by decide) ?_ ?_ <;> first
            | (intro hno; exact absurd (by assumption) hno)
            | (intro hok; exact absurd hok (by assumption))
            | (intro hok w2 o2 hW2 hS2; have HS := hid_mk (HS.out.trans hS2); have HW := hid_mk hW2; clear hW2 hS2 hok; have bb := HS.out.bl HB.out hgp.out hog.out; have k0 := bb.cell (i := 0) rfl; have k1 := bb.cell (i := 1) rfl; have k2 := bb.cell (i := 2) rfl; have k3 := bb.cell (i := 3) rfl; clear bb)
            | (intro hno; clear hno))
    exact ⟨rfl, _, HS0.out.trans HS.out, .inr ⟨rfl, fun q => h1 q.1⟩⟩
end Go.Proofs.YtapjfokkcgdhhaaDoor
namespace Go.Proofs.YtapjfokkcgdhhaaDoor
open Go.RowKit
set_option linter.unusedVariables false
set_option linter.unusedSimpArgs false

theorem four_bytes (w : World) : BytesAt (w.alloc (.cells #[.int .u8 104, .int .u8 116, .int .u8 104, .int .u8 1] 5 (4, 5))) (some ⟨w.heap.size, 0, none⟩) [104, 116, 104, 1] :=
  ⟨by intro b hb; simp at hb; omega, .inr ⟨w.heap.size, 0, rfl, fun j c hj => by
    rw [World.cell?_alloc_mark]
    match j, hj with
    | 0, hj => cases hj; rfl
    | 1, hj => cases hj; rfl
    | 2, hj => cases hj; rfl
    | 3, hj => cases hj; rfl
    | j + 4, hj => simp at hj⟩⟩
theorem put_four {w : World} {p H : Nat} {o : Option Nat} {F : List Int} (h : WR w p o F) (hH : w.heap.size = H) :
    Calls Tryd.prog 39 #[.pointer (some ⟨p, 0, none⟩), .slice (some ⟨H, 0, none⟩) 4 4] (w.alloc (.cells #[.int .u8 104, .int .u8 116, .int .u8 104, .int .u8 1] 5 (4, 5))) fun e w' => e = .returned (.tuple #[]) ∧ ∃ o', WR w' p o' (F ++ [104, 116, 104, 1]) ∧ St p o w o' w' := by
  subst hH
  exact (put_any (n := 4) (h.alloc _) (four_bytes w) rfl (by omega)).mono fun e w' ⟨he, o', h2, h3⟩ => ⟨he, o', h2, ((St.refl p o w).alloc _).trans h3⟩
theorem ft_up {l : List (List Int)} {k : Nat} {x : List Int} (h : l[k]? = some x) : (l.take (k + 1)).flatMap encT = (l.take k).flatMap encT ++ (numB x.length ++ x) := by
  rw [List.take_add_one, h]; simp [encT]
theorem okt_up {l : List (List Int)} {k : Nat} {x : List Int} (h : l[k]? = some x) (hk : ∀ e ∈ l.take k, okT e) (hx : okT x) : ∀ e ∈ l.take (k + 1), okT e := by
  intro e he
  rw [List.take_add_one, h] at he
  rcases List.mem_append.1 he with q | q
  · exact hk e q
  · simp at q; subst q; exact hx
theorem ff_up {l : List (Int × Int × Int × List (Int × Int))} {k : Nat} {x : Int × Int × Int × List (Int × Int)} (h : l[k]? = some x) : (l.take (k + 1)).flatMap encF = (l.take k).flatMap encF ++ encF x := by
  rw [List.take_add_one, h]; simp
theorem okf_up {l : List (Int × Int × Int × List (Int × Int))} {k : Nat} {x : Int × Int × Int × List (Int × Int)} (h : l[k]? = some x) (hk : ∀ e ∈ l.take k, okF e) (hx : okF x) : ∀ e ∈ l.take (k + 1), okF e := by
  intro e he
  rw [List.take_add_one, h] at he
  rcases List.mem_append.1 he with q | q
  · exact hk e q
  · simp at q; subst q; exact hx
theorem take_all {α : Type} {l : List α} {k : Nat} (h : l.length = k) : l.take k = l := List.take_of_length_le (by omega)
theorem toNat_le {n : Nat} {m : Int} (h : (n : Int) ≤ m) : (n : Int) ≤ m := h
set_option maxRecDepth 100000 in
set_option maxHeartbeats 2000000 in
theorem program_any {w : World} {p B : Nat} {o : Option Nat} (h : WR w p o []) (hB : B ≤ p) (x : Int) (ts : List (List Int)) (fs : List (Int × Int × Int × List (Int × Int))) (ta fa : Option Addr) (nt tc nf fc : Nat) (hnt : ts.length = nt) (hnf : fs.length = nf) (hts : TxIn w B ta ts) (hfs : FnIn w B fa fs) (hM : ∀ f ∈ fs, MI f.2.2.2) :
    Calls Tryd.prog 25 #[.pointer (some ⟨p, 0, none⟩), .agg #[.int .i64 x, .slice ta nt tc, .slice fa nf fc]] w fun e w' => ∃ o', St p o w o' w' ∧ (e = .returned (.tuple #[]) ∧ okP (x, ts, fs) ∧ WR w' p o' (encP (x, ts, fs)) ∨ e = .panicked [stopP 62 0] ∧ ¬ okP (x, ts, fs)) := by
  have HB := hid_mk (Bl.new w #[.int .i64 x, .slice ta nt tc, .slice fa nf fc] 35)
  have k0 := HB.out.cell (i := 0) rfl
  have k1 := HB.out.cell (i := 1) rfl
  have k2 := HB.out.cell (i := 2) rfl
  have HW := hid_mk (h.alloc (.cells #[.int .i64 x, .slice ta nt tc, .slice fa nf fc] 35))
  have HS := hid_mk (St.refl p o (w.alloc (.cells #[.int .i64 x, .slice ta nt tc, .slice fa nf fc] 35)))
  have HS0 := hid_mk ((St.refl p o w).alloc (.cells #[.int .i64 x, .slice ta nt tc, .slice fa nf fc] 35))
  have hgp : Hid (w.heap.size ≠ p) := hid_mk (by have := h.lt; omega)
  have hog : Hid (o ≠ some w.heap.size) := hid_mk (h.off (Nat.le_refl _))
  have hcv := Go.Joins.run_convert_bytes_const_at (P := Tryd.prog) (w.alloc (.cells #[.int .i64 x, .slice ta nt tc, .slice fa nf fc] 35)) 22 5 #[.int .u8 104, .int .u8 116, .int .u8 104, .int .u8 1] 4 4 (w.heap.size + 1) (size_alloc _ _).symm Tryd.underlying22 Tryd.underlying5
  have HT := hid_mk hts
  have HF := hid_mk hfs
  have HM := hid_mk hM
  have HN := hid_mk hnt
  have HNf := hid_mk hnf
  have HW0 := hid_mk h
  clear h hts hfs hM hnt hnf
  by_cases h1 : 0 ≤ x ∧ x ≤ 64
  · by_cases h2 : 0 ≤ (nt : Int) ∧ (nt : Int) ≤ 64
    · go_enter Tryd.func25, Tryd.ntmps25
      go_wp2_with (first
        | (go_at_call 39; refine (put_four HW.out (size_alloc _ _)).mono ?_; rintro e w2 ⟨rfl, o2, hW2, hS2⟩; have HS := hid_mk (HS.out.trans hS2); have HW := hid_mk hW2; clear hW2 hS2; have bb := HS.out.bl HB.out hgp.out hog.out; have k0 := bb.cell (i := 0) rfl; have k1 := bb.cell (i := 1) rfl; have k2 := bb.cell (i := 2) rfl; clear bb)
        | (go_at_call 40; refine number_any HW.out _ _ _ (by decide) ?_ ?_ <;> first
          | (intro hno; exact absurd (by assumption) hno)
          | (intro hok; exact absurd hok (by assumption))
          | (intro hok w2 o2 hW2 hS2; have HS := hid_mk (HS.out.trans hS2); have HW := hid_mk hW2; clear hW2 hS2 hok; have bb := HS.out.bl HB.out hgp.out hog.out; have k0 := bb.cell (i := 0) rfl; have k1 := bb.cell (i := 1) rfl; have k2 := bb.cell (i := 2) rfl; clear bb)
          | (intro hno; clear hno)))
      have hn4 : (nt : Int) ≤ 64 := h2.2
      have HH := hid_mk (And.intro h1 h2)
      have HLo := hid_mk ((Lo.of_out ((Out.refl 0 0 w).alloc (.cells #[.int .i64 x, .slice ta nt tc, .slice fa nf fc] 35))).trans (HS.out.lo (HW0.out.alloc _)))
      have HT1 := hid_mk (HT.out.kept HLo.out hB)
      clear k0 k1 k2 h1 h2
      have HSA := hid_mk (HS0.out.trans HS.out)
      have HSB := hid_mk HS.out
      have HWL := hid_mk HW.out
      obtain ⟨F2, hF2⟩ : ∃ F2, [] ++ [104, 116, 104, 1] ++ numB x.toNat ++ numB (nt : Int).toNat = F2 := ⟨_, rfl⟩
      have HF2 := hid_mk hF2
      rw [hF2] at HWL
      clear hF2
      have HI : Hid (∀ i v, (#[Value.int .i64 x, .slice ta nt tc, .slice fa nf fc] : Array Value)[i]? = some v → ∀ o' wr, St p o2 w2 o' wr → wr.cell? ⟨w.heap.size, i, none⟩ = some v) := hid_mk fun i v hv o' wr hq => ((HSB.out.trans hq).bl HB.out hgp.out hog.out).cell hv
      go_loopw [24] (fun i wr => ∃ k : Nat, i = .int .i64 k ∧ k ≤ nt ∧ (∀ e ∈ ts.take k, okT e) ∧ ∃ o', WR wr p o' (F2 ++ (ts.take k).flatMap encT) ∧ St p o2 w2 o' wr) (fun i _ => nt - (intOf i).toNat)
      case atStart => exact ⟨0, rfl, Nat.zero_le _, by simp, o2, by simpa using HWL.out, St.refl _ _ _⟩
      case round =>
        obtain ⟨k, rfl, hkn, hok, o5, hW5, hS5⟩ := hrel
        have HK := hid_mk hok
        have HW5 := hid_mk hW5
        have HS5 := hid_mk hS5
        clear hok hW5 hS5
        by_cases hgo : k < nt
        · have g1 : (k : Int) < (nt : Int) := by omega
          obtain ⟨t, hx⟩ : ∃ e, ts[k]? = some e := ⟨_, List.getElem?_eq_getElem (by have := HN.out; omega)⟩
          have HX := hid_mk hx
          rcases HT1.out with h0 | ⟨g, off, rfl, hg, hc⟩
          · rw [h0] at hx; cases hx
          obtain ⟨pj, cj, c0, hby⟩ := hc k _ hx
          have HO5 := hid_mk (HS5.out.lo HWL.out)
          have d0 := HO5.out.cell c0 (Nat.lt_of_lt_of_le hg hB)
          have HBy := hid_mk (hby.kept HO5.out hB)
          obtain ⟨m, hm⟩ : ∃ m, t.length = m := ⟨_, rfl⟩
          rw [hm] at d0
          have HMt := hid_mk hm
          clear hx hc c0 hby hm
          by_cases h4 : 0 ≤ (m : Int) ∧ (m : Int) ≤ 4096
          · go_wp2_with (first
              | (go_at_call 40; refine number_any HW5.out _ _ _ (by decide) ?_ ?_ <;> first
                | (intro hno; exact absurd (by assumption) hno)
                | (intro hok w6 o6 hW6 hS6; have HW6 := hid_mk hW6; have HS6 := hid_mk hS6; clear hW6 hS6 hok))
              | (go_at_call 39; refine (put_any HW6.out (HBy.out.kept (HS6.out.lo HW5.out) hB).bytes HMt.out (by omega)).mono ?_; rintro e w7 ⟨rfl, o7, hW7, hS7⟩; have HW7 := hid_mk hW7; have HS7 := hid_mk hS7; clear hW7 hS7))
            go_roundw
            case rel => exact ⟨k + 1, by go_num, by omega, okt_up HX.out HK.out (by unfold okT; rw [HMt.out]; omega), o7, by rw [ft_up HX.out, ← List.append_assoc, ← List.append_assoc, HMt.out]; exact HW7.out, (HS5.out.trans HS6.out).trans HS7.out⟩
            case measure => simp [intOf]; omega
          · go_wp2_with (go_at_call 40; refine number_any HW5.out _ _ _ (by decide) ?_ ?_ <;> first
                | (intro hok; exact absurd hok (by assumption))
                | (intro hno; clear hno))
            exact ⟨rfl, o5, HSA.out.trans HS5.out, .inr ⟨rfl, fun q => h4 (by have := q.2.2.1 _ (List.mem_of_getElem? HX.out); have := HMt.out; unfold okT at *; omega)⟩⟩
        · have hkn' : k = nt := by omega
          subst hkn'
          have g1 : ¬ ((k : Int) < (k : Int)) := by omega
          have hT : Hid (ts.take k = ts) := hid_mk (take_all HN.out)
          rw [hT.out] at HK HW5
          have y2 := HI.out 2 _ rfl o5 wr HS5.out
          by_cases h5 : 1 ≤ (nf : Int) ∧ (nf : Int) ≤ 64
          · go_wp2_with (go_at_call 40; refine number_any HW5.out _ _ _ (by decide) ?_ ?_ <;> first
                | (intro hno; exact absurd (by assumption) hno)
                | (intro hok w6 o6 hW6 hS6; have HW6 := hid_mk hW6; have HS6 := hid_mk hS6; clear hW6 hS6 hok; have y3 := HI.out 2 _ rfl o6 w6 (HS5.out.trans HS6.out)))
            have HF1 := hid_mk (HF.out.kept (HLo.out.trans ((HS5.out.trans HS6.out).lo HWL.out)) hB)
            have hn5 : (nf : Int) ≤ 64 := h5.2
            have HH5 := hid_mk h5
            clear y2 y3 h5
            have HSC := hid_mk ((HSA.out.trans HS5.out).trans HS6.out)
            obtain ⟨F3, hF3⟩ : ∃ F3, F2 ++ ts.flatMap encT ++ numB (nf : Int).toNat = F3 := ⟨_, rfl⟩
            have HF3 := hid_mk hF3
            rw [hF3] at HW6
            clear hF3
            go_loopw [44] (fun i wr => ∃ k : Nat, i = .int .i64 k ∧ k ≤ nf ∧ (∀ e ∈ fs.take k, okF e) ∧ ∃ o', WR wr p o' (F3 ++ (fs.take k).flatMap encF) ∧ St p o6 w6 o' wr) (fun i _ => nf - (intOf i).toNat)
            case atStart => exact ⟨0, rfl, Nat.zero_le _, by simp, o6, by simpa using HW6.out, St.refl _ _ _⟩
            case round =>
              obtain ⟨j, rfl, hjn, hok, o8, hW8, hS8⟩ := hrel
              have HK8 := hid_mk hok
              have HW8 := hid_mk hW8
              have HS8 := hid_mk hS8
              clear hok hW8 hS8
              by_cases hgo2 : j < nf
              · have g2 : (j : Int) < (nf : Int) := by omega
                obtain ⟨⟨fx, fy, fz, fl⟩, hx⟩ : ∃ e, fs[j]? = some e := ⟨_, List.getElem?_eq_getElem (by have := HNf.out; omega)⟩
                have HX := hid_mk hx
                rcases HF1.out with h0 | ⟨g, off, rfl, hg, hc⟩
                · rw [h0] at hx; cases hx
                obtain ⟨pj, cj, c0, c1, c2, c3, hby⟩ := hc j _ hx
                have HO8 := hid_mk (HS8.out.lo HW6.out)
                have d0 := HO8.out.cell c0 (Nat.lt_of_lt_of_le hg hB)
                have d1 := HO8.out.cell c1 (Nat.lt_of_lt_of_le hg hB)
                have d2 := HO8.out.cell c2 (Nat.lt_of_lt_of_le hg hB)
                have d3 := HO8.out.cell c3 (Nat.lt_of_lt_of_le hg hB)
                have HBy := hid_mk (hby.kept HO8.out hB)
                obtain ⟨m, hm⟩ : ∃ m, fl.length = m := ⟨_, rfl⟩
                dsimp only at d0 d1 d2 d3
                rw [hm] at d3
                have HMt := hid_mk hm
                have HMI := hid_mk (HM.out _ (List.mem_of_getElem? hx))
                clear hx hc c0 c1 c2 c3 hby hm
                go_wp2_with fail
                refine (function_any (HW8.out.alloc _) hB fx fy fz fl pj m cj HMt.out (HBy.out.kept (Lo.of_out ((Out.refl 0 0 wr).alloc _)) (Nat.le_refl _)) HMI.out).mono ?_
                rintro e w9 ⟨o9, hS9, ⟨rfl, hI, hW9⟩ | ⟨rfl, hI⟩⟩
                · have HI9 := hid_mk hI
                  have HW9 := hid_mk hW9
                  have HS9 := hid_mk hS9
                  clear hI hW9 hS9
                  go_wp2
                  go_roundw
                  case rel => exact ⟨j + 1, by go_num, by omega, okf_up HX.out HK8.out HI9.out, o9, by rw [ff_up HX.out, ← List.append_assoc]; exact HW9.out, (HS8.out.alloc _).trans HS9.out⟩
                  case measure => simp [intOf]; omega
                · exact ⟨rfl, o9, (HSC.out.trans (HS8.out.alloc _)).trans hS9, .inr ⟨rfl, fun q => hI (q.2.2.2.2 _ (List.mem_of_getElem? HX.out))⟩⟩
              · have hkn' : j = nf := by omega
                subst hkn'
                have g2 : ¬ ((j : Int) < (j : Int)) := by omega
                go_wp2
                have hU : fs.take j = fs := take_all HNf.out
                refine bodyPost_end (results_none Tryd.results25 _ _ _) rfl ⟨o8, HSC.out.trans HS8.out, .inl ⟨rfl, ?_, ?_⟩⟩
                · have hk := HK8.out
                  rw [hU] at hk
                  exact ⟨HH.out.1, by have := HH.out.2; have := HN.out; dsimp only; omega, HK.out, by have := HH5.out; have := HNf.out; dsimp only; omega, hk⟩
                · have := HW8.out
                  rw [hU, ← HF3.out, ← HF2.out] at this
                  unfold encP
                  dsimp only
                  rw [HN.out, HNf.out]
                  simpa [List.append_assoc] using this
          · go_wp2_with (go_at_call 40; refine number_any HW5.out _ _ _ (by decide) ?_ ?_ <;> first
                | (intro hok; exact absurd hok (by assumption))
                | (intro hno; clear hno))
            exact ⟨rfl, o5, HSA.out.trans HS5.out, .inr ⟨rfl, fun q => h5 (by have := q.2.2.2.1; have := HNf.out; dsimp only at *; omega)⟩⟩
    · go_enter Tryd.func25, Tryd.ntmps25
      go_wp2_with (first
        | (go_at_call 39; refine (put_four HW.out (size_alloc _ _)).mono ?_; rintro e w2 ⟨rfl, o2, hW2, hS2⟩; have HS := hid_mk (HS.out.trans hS2); have HW := hid_mk hW2; clear hW2 hS2; have bb := HS.out.bl HB.out hgp.out hog.out; have k0 := bb.cell (i := 0) rfl; have k1 := bb.cell (i := 1) rfl; have k2 := bb.cell (i := 2) rfl; clear bb)
        | (go_at_call 40; refine number_any HW.out _ _ _ (by decide) ?_ ?_ <;> first
          | (intro hno; exact absurd (by assumption) hno)
          | (intro hok; exact absurd hok (by assumption))
          | (intro hok w2 o2 hW2 hS2; have HS := hid_mk (HS.out.trans hS2); have HW := hid_mk hW2; clear hW2 hS2 hok; have bb := HS.out.bl HB.out hgp.out hog.out; have k0 := bb.cell (i := 0) rfl; have k1 := bb.cell (i := 1) rfl; have k2 := bb.cell (i := 2) rfl; clear bb)
          | (intro hno; clear hno)))
      exact ⟨rfl, _, HS0.out.trans HS.out, .inr ⟨rfl, fun q => h2 (by have := q.2.1; have := HN.out; dsimp only at *; omega)⟩⟩
  · go_enter Tryd.func25, Tryd.ntmps25
    go_wp2_with (first
        | (go_at_call 39; refine (put_four HW.out (size_alloc _ _)).mono ?_; rintro e w2 ⟨rfl, o2, hW2, hS2⟩; have HS := hid_mk (HS.out.trans hS2); have HW := hid_mk hW2; clear hW2 hS2; have bb := HS.out.bl HB.out hgp.out hog.out; have k0 := bb.cell (i := 0) rfl; have k1 := bb.cell (i := 1) rfl; have k2 := bb.cell (i := 2) rfl; clear bb)
        | (go_at_call 40; refine number_any HW.out _ _ _ (by decide) ?_ ?_ <;> first
          | (intro hno; exact absurd (by assumption) hno)
          | (intro hok; exact absurd hok (by assumption))
          | (intro hok w2 o2 hW2 hS2; have HS := hid_mk (HS.out.trans hS2); have HW := hid_mk hW2; clear hW2 hS2 hok; have bb := HS.out.bl HB.out hgp.out hog.out; have k0 := bb.cell (i := 0) rfl; have k1 := bb.cell (i := 1) rfl; have k2 := bb.cell (i := 2) rfl; clear bb)
          | (intro hno; clear hno)))
    exact ⟨rfl, _, HS0.out.trans HS.out, .inr ⟨rfl, fun q => h1 q.1⟩⟩
end Go.Proofs.YtapjfokkcgdhhaaDoor
