import Derived.Test.YtcnjlbjpeklgkaaGreatDoorR09
namespace Go.Proofs.YtcnjlbjpeklgkaaGreatDoor
open Go.RowKit
set_option linter.unusedVariables false
set_option linter.unusedSimpArgs false

theorem operandOf_at {op : Int} {k : Nat} (hk : opS op = k) (w : World) : Calls Tryz.prog 133 #[.int .i64 op] w fun e w' => e = .returned (.int .i64 (k : Int)) ∧ w' = w := by
  rw [← hk]; exact operandOf_any op w
theorem opS_in {op : Int} (h : opS op ≠ 0) : 1 ≤ op ∧ op ≤ 75 := by
  unfold opS at h
  by_cases h1 : op = 1
  · omega
  · rw [if_neg h1] at h
    by_cases h5 : op = 5
    · omega
    · rw [if_neg h5] at h
      by_cases h2 : 2 ≤ op ∧ op ≤ 10 ∨ 14 ≤ op ∧ op ≤ 18
      · omega
      · rw [if_neg h2] at h
        by_cases h3 : 11 ≤ op ∧ op ≤ 13 ∨ 19 ≤ op ∧ op ≤ 22 ∨ 30 ≤ op ∧ op ≤ 75
        · omega
        · rw [if_neg h3] at h; exact absurd rfl h
theorem may_any (b : Bool) {w : World} {Q : Ending → World → Prop} (hy : b = true → Q (.returned (.tuple #[])) w) (hn : b = false → Q (.panicked [stopP 62 0]) w) : Calls Tryz.prog 115 #[.bool b] w Q := by
  cases b
  · exact calls_stop (may_no _) (hn rfl)
  · exact calls_same (may_yes _) (hy rfl)
/-- the box of an instruction, a step later -/
theorem St.box {p : Nat} {o o' : Option Nat} {w w' : World} {cs : Array Value} {T : TypeId} {F : List Int} (h : St p o (w.alloc (.cells cs T)) o' w') (hW : WR w p o F) : Bl w' w.heap.size cs T :=
  h.bl (Bl.new w cs T) (by have := hW.lt; omega) (hW.off (Nat.le_refl _))
theorem u8_op {op : Int} (h : 1 ≤ op ∧ op ≤ 75) : op % 256 = op := by omega
set_option maxRecDepth 100000 in
set_option maxHeartbeats 1000000 in
theorem ins_none {w : World} {p : Nat} {o : Option Nat} {F : List Int} (h : WR w p o F) (op a : Int) (hs : opS op = 0) :
    Calls Tryz.prog 116 #[.pointer (some ⟨p, 0, none⟩), .agg #[.int .i64 op, .int .i64 a]] w fun e w' => e = .panicked [stopP 62 0] ∧ ∃ o', St p o w o' w' := by
  have b1 := (Bl.new w #[.int .i64 op, .int .i64 a] 55)
  have c0 := b1.cell (i := 0) rfl
  have c1 := b1.cell (i := 1) rfl
  clear b1 h
  go_enter Tryz.func116, Tryz.ntmps116
  go_wp2_with (first
    | (go_at_call 133; refine calls_same (operandOf_at hs _) ?_)
    | (go_at_call 115; refine calls_stop (may_no _) ?_))
  exact ⟨rfl, rfl, o, (St.refl _ _ _).alloc _⟩
set_option maxRecDepth 100000 in
set_option maxHeartbeats 1000000 in
theorem ins_one {w : World} {p : Nat} {o : Option Nat} {F : List Int} (h : WR w p o F) (op a : Int) (hs : opS op = 1) :
    Calls Tryz.prog 116 #[.pointer (some ⟨p, 0, none⟩), .agg #[.int .i64 op, .int .i64 a]] w fun e w' => ∃ o', St p o w o' w' ∧ (e = .returned (.tuple #[]) ∧ a = 0 ∧ WR w' p o' (F ++ [op]) ∨ e = .panicked [stopP 62 0] ∧ a ≠ 0) := by
  have b1 := (Bl.new w #[.int .i64 op, .int .i64 a] 55)
  have c0 := b1.cell (i := 0) rfl
  have c1 := b1.cell (i := 1) rfl
  obtain ⟨q1, q2⟩ := opS_in (op := op) (by omega)
  have HW := hid_mk h
  clear b1 h
  by_cases ha : a = 0
  · have ha' : (a == 0) = true := by simpa using ha
    have HA := hid_mk ha
    clear ha
    go_enter Tryz.func116, Tryz.ntmps116
    go_wp2_with (first
      | (go_at_call 133; refine calls_same (operandOf_at hs _) ?_)
      | (go_at_call 115; refine may_any _ ?_ ?_ <;> intro hh <;> first | (exact absurd hh (by decide)) | clear hh)
      | (go_at_call 81; refine (put_one (b := op) (HW.out.alloc _) (by omega) (by omega) (by omega) (size_alloc _ _)).mono ?_; rintro e w2 ⟨rfl, o2, hW2, hS2⟩; have b2 := hS2.box HW.out; have d1 := b2.cell (i := 1) rfl; have HW2 := hid_mk hW2; have HS2 := hid_mk hS2; clear hW2 hS2 b2))
    exact bodyPost_end (results_none Tryz.results116 _ _ _) rfl ⟨o2, ((St.refl p o w).alloc _).trans HS2.out, .inl ⟨rfl, HA.out, HW2.out⟩⟩
  · have ha' : (a == 0) = false := by simpa using ha
    have HA := hid_mk ha
    clear ha
    go_enter Tryz.func116, Tryz.ntmps116
    go_wp2_with (first
      | (go_at_call 133; refine calls_same (operandOf_at hs _) ?_)
      | (go_at_call 115; refine may_any _ ?_ ?_ <;> intro hh <;> first | (exact absurd hh (by decide)) | clear hh)
      | (go_at_call 81; refine (put_one (b := op) (HW.out.alloc _) (by omega) (by omega) (by omega) (size_alloc _ _)).mono ?_; rintro e w2 ⟨rfl, o2, hW2, hS2⟩; have b2 := hS2.box HW.out; have d1 := b2.cell (i := 1) rfl; have HW2 := hid_mk hW2; have HS2 := hid_mk hS2; clear hW2 hS2 b2))
    exact ⟨rfl, o2, ((St.refl p o w).alloc _).trans HS2.out, .inr ⟨rfl, HA.out⟩⟩
set_option maxRecDepth 100000 in
set_option maxHeartbeats 1000000 in
theorem ins_two {w : World} {p : Nat} {o : Option Nat} {F : List Int} (h : WR w p o F) (op a : Int) (hs : opS op = 2) :
    Calls Tryz.prog 116 #[.pointer (some ⟨p, 0, none⟩), .agg #[.int .i64 op, .int .i64 a]] w fun e w' => ∃ o', St p o w o' w' ∧ (e = .returned (.tuple #[]) ∧ (0 ≤ a ∧ a ≤ 2097151) ∧ WR w' p o' (F ++ [op] ++ numB a.toNat) ∨ e = .panicked [stopP 62 0] ∧ ¬ (0 ≤ a ∧ a ≤ 2097151)) := by
  have b1 := (Bl.new w #[.int .i64 op, .int .i64 a] 55)
  have c0 := b1.cell (i := 0) rfl
  have c1 := b1.cell (i := 1) rfl
  obtain ⟨q1, q2⟩ := opS_in (op := op) (by omega)
  have HW := hid_mk h
  clear b1 h
  by_cases ha : 0 ≤ a ∧ a ≤ 2097151
  · have HA := hid_mk ha
    have HN : Hid (∀ w2 o2 F2, WR w2 p o2 F2 → Calls Tryz.prog 82 #[.pointer (some ⟨p, 0, none⟩), .int .i64 a, .int .i64 0, .int .i64 2097151] w2 fun e w' => e = .returned (.tuple #[]) ∧ ∃ o', WR w' p o' (F2 ++ numB a.toNat) ∧ St p o2 w2 o' w') := by
      intro w2 o2 F2 h2
      obtain ⟨n, rfl⟩ := Int.eq_ofNat_of_zero_le ha.1
      exact number_yes h2 n (by omega) 0 2097151 (by simp) (by simpa using ha.2)
    clear ha
    go_enter Tryz.func116, Tryz.ntmps116
    go_wp2_with (first
      | (go_at_call 133; refine calls_same (operandOf_at hs _) ?_)
      | (go_at_call 115; refine may_any _ ?_ ?_ <;> intro hh <;> first | (exact absurd hh (by decide)) | clear hh)
      | (go_at_call 81; refine (put_one (b := op) (HW.out.alloc _) (by omega) (by omega) (by omega) (size_alloc _ _)).mono ?_; rintro e w2 ⟨rfl, o2, hW2, hS2⟩; have b2 := hS2.box HW.out; have d1 := b2.cell (i := 1) rfl; have HW2 := hid_mk hW2; have HS2 := hid_mk hS2; clear hW2 hS2 b2)
      | (go_at_call 82; refine (HN.out _ _ _ HW2.out).mono ?_; rintro e w3 ⟨rfl, o3, hW3, hS3⟩))
    exact bodyPost_end (results_none Tryz.results116 _ _ _) rfl ⟨o3, (((St.refl p o w).alloc _).trans HS2.out).trans hS3, .inl ⟨rfl, HA.out, hW3⟩⟩
  · have HA := hid_mk ha
    have HN : Hid (∀ w2, Calls Tryz.prog 82 #[.pointer (some ⟨p, 0, none⟩), .int .i64 a, .int .i64 0, .int .i64 2097151] w2 fun e w' => e = .panicked [stopP 62 0] ∧ w' = w2) := by
      intro w2
      exact number_no a 0 2097151 (by simp; omega)
    clear ha
    go_enter Tryz.func116, Tryz.ntmps116
    go_wp2_with (first
      | (go_at_call 133; refine calls_same (operandOf_at hs _) ?_)
      | (go_at_call 115; refine may_any _ ?_ ?_ <;> intro hh <;> first | (exact absurd hh (by decide)) | clear hh)
      | (go_at_call 81; refine (put_one (b := op) (HW.out.alloc _) (by omega) (by omega) (by omega) (size_alloc _ _)).mono ?_; rintro e w2 ⟨rfl, o2, hW2, hS2⟩; have b2 := hS2.box HW.out; have d1 := b2.cell (i := 1) rfl; have HW2 := hid_mk hW2; have HS2 := hid_mk hS2; clear hW2 hS2 b2)
      | (go_at_call 82; refine calls_stop (HN.out _) ?_))
    exact ⟨rfl, o2, ((St.refl p o w).alloc _).trans HS2.out, .inr ⟨rfl, HA.out⟩⟩
set_option maxRecDepth 100000 in
set_option maxHeartbeats 1000000 in
theorem ins_three {w : World} {p : Nat} {o : Option Nat} {F : List Int} (h : WR w p o F) (op a : Int) (hs : opS op = 3) :
    Calls Tryz.prog 116 #[.pointer (some ⟨p, 0, none⟩), .agg #[.int .i64 op, .int .i64 a]] w fun e w' => ∃ o', St p o w o' w' ∧ (e = .returned (.tuple #[]) ∧ (-1152921504606846976 ≤ a ∧ a ≤ 1152921504606846975) ∧ WR w' p o' (F ++ [op] ++ numB (zig a)) ∨ e = .panicked [stopP 62 0] ∧ ¬ (-1152921504606846976 ≤ a ∧ a ≤ 1152921504606846975)) := by
  have b1 := (Bl.new w #[.int .i64 op, .int .i64 a] 55)
  have c0 := b1.cell (i := 0) rfl
  have c1 := b1.cell (i := 1) rfl
  obtain ⟨q1, q2⟩ := opS_in (op := op) (by omega)
  have HW := hid_mk h
  clear b1 h
  by_cases ha : -1152921504606846976 ≤ a ∧ a ≤ 1152921504606846975
  · have HA := hid_mk ha
    have HN : Hid (∀ w2 o2 F2, WR w2 p o2 F2 → Calls Tryz.prog 134 #[.pointer (some ⟨p, 0, none⟩), .int .i64 a] w2 fun e w' => e = .returned (.tuple #[]) ∧ ∃ o', WR w' p o' (F2 ++ numB (zig a)) ∧ St p o2 w2 o' w') := by
      intro w2 o2 F2 h2
      exact signed_yes h2 a (by simpa using ha.1) (by simpa using ha.2)
    clear ha
    go_enter Tryz.func116, Tryz.ntmps116
    go_wp2_with (first
      | (go_at_call 133; refine calls_same (operandOf_at hs _) ?_)
      | (go_at_call 115; refine may_any _ ?_ ?_ <;> intro hh <;> first | (exact absurd hh (by decide)) | clear hh)
      | (go_at_call 81; refine (put_one (b := op) (HW.out.alloc _) (by omega) (by omega) (by omega) (size_alloc _ _)).mono ?_; rintro e w2 ⟨rfl, o2, hW2, hS2⟩; have b2 := hS2.box HW.out; have d1 := b2.cell (i := 1) rfl; have HW2 := hid_mk hW2; have HS2 := hid_mk hS2; clear hW2 hS2 b2)
      | (go_at_call 134; refine (HN.out _ _ _ HW2.out).mono ?_; rintro e w3 ⟨rfl, o3, hW3, hS3⟩))
    exact bodyPost_end (results_none Tryz.results116 _ _ _) rfl ⟨o3, (((St.refl p o w).alloc _).trans HS2.out).trans hS3, .inl ⟨rfl, HA.out, hW3⟩⟩
  · have HA := hid_mk ha
    have HN : Hid (∀ w2, Calls Tryz.prog 134 #[.pointer (some ⟨p, 0, none⟩), .int .i64 a] w2 fun e w' => e = .panicked [stopP 62 0] ∧ w' = w2) := by
      intro w2
      exact signed_no a (by simp; omega)
    clear ha
    go_enter Tryz.func116, Tryz.ntmps116
    go_wp2_with (first
      | (go_at_call 133; refine calls_same (operandOf_at hs _) ?_)
      | (go_at_call 115; refine may_any _ ?_ ?_ <;> intro hh <;> first | (exact absurd hh (by decide)) | clear hh)
      | (go_at_call 81; refine (put_one (b := op) (HW.out.alloc _) (by omega) (by omega) (by omega) (size_alloc _ _)).mono ?_; rintro e w2 ⟨rfl, o2, hW2, hS2⟩; have b2 := hS2.box HW.out; have d1 := b2.cell (i := 1) rfl; have HW2 := hid_mk hW2; have HS2 := hid_mk hS2; clear hW2 hS2 b2)
      | (go_at_call 134; refine calls_stop (HN.out _) ?_))
    exact ⟨rfl, o2, ((St.refl p o w).alloc _).trans HS2.out, .inr ⟨rfl, HA.out⟩⟩
set_option maxRecDepth 100000 in
set_option maxHeartbeats 1000000 in
theorem ins_four {w : World} {p : Nat} {o : Option Nat} {F : List Int} (h : WR w p o F) (op a : Int) (hs : opS op = 4) :
    Calls Tryz.prog 116 #[.pointer (some ⟨p, 0, none⟩), .agg #[.int .i64 op, .int .i64 a]] w fun e w' => ∃ o', St p o w o' w' ∧ e = .returned (.tuple #[]) ∧ WR w' p o' (F ++ [op] ++ le8 a) := by
  have b1 := (Bl.new w #[.int .i64 op, .int .i64 a] 55)
  have c0 := b1.cell (i := 0) rfl
  have c1 := b1.cell (i := 1) rfl
  obtain ⟨q1, q2⟩ := opS_in (op := op) (by omega)
  have HW := hid_mk h
  clear b1 h
  go_enter Tryz.func116, Tryz.ntmps116
  go_wp2_with (first
      | (go_at_call 133; refine calls_same (operandOf_at hs _) ?_)
      | (go_at_call 115; refine may_any _ ?_ ?_ <;> intro hh <;> first | (exact absurd hh (by decide)) | clear hh)
      | (go_at_call 81; refine (put_one (b := op) (HW.out.alloc _) (by omega) (by omega) (by omega) (size_alloc _ _)).mono ?_; rintro e w2 ⟨rfl, o2, hW2, hS2⟩; have b2 := hS2.box HW.out; have d1 := b2.cell (i := 1) rfl; have HW2 := hid_mk hW2; have HS2 := hid_mk hS2; clear hW2 hS2 b2)
      | (go_at_call 135; refine (bits_any HW2.out _).mono ?_; rintro e w3 ⟨rfl, o3, hW3, hS3⟩))
  exact bodyPost_end (results_none Tryz.results116 _ _ _) rfl ⟨o3, (((St.refl p o w).alloc _).trans HS2.out).trans hS3, rfl, hW3⟩
/-- an instruction is written, or the program can't be -/
theorem ins_any {w : World} {p : Nat} {o : Option Nat} {F : List Int} (h : WR w p o F) (op a : Int) (ha : -9223372036854775808 ≤ a ∧ a ≤ 9223372036854775807) :
    Calls Tryz.prog 116 #[.pointer (some ⟨p, 0, none⟩), .agg #[.int .i64 op, .int .i64 a]] w fun e w' => ∃ o', St p o w o' w' ∧ (e = .returned (.tuple #[]) ∧ okI (op, a) ∧ WR w' p o' (F ++ encI (op, a)) ∨ e = .panicked [stopP 62 0] ∧ ¬ okI (op, a)) := by
  have hle := opS_le op
  have hcase : opS op = 0 ∨ opS op = 1 ∨ opS op = 2 ∨ opS op = 3 ∨ opS op = 4 := by omega
  unfold encI opB okI
  dsimp only
  rcases hcase with hs | hs | hs | hs | hs
  · exact (ins_none h op a hs).mono fun e w' ⟨he, o', hS⟩ => ⟨o', hS, .inr ⟨he, fun q => q.1 hs⟩⟩
  · refine (ins_one h op a hs).mono fun e w' ⟨o', hS, hc⟩ => ⟨o', hS, ?_⟩
    rcases hc with ⟨he, h0, hW⟩ | ⟨he, h0⟩
    · refine .inl ⟨he, ⟨by omega, fun _ => h0, fun q => by omega, fun q => by omega, fun q => by omega⟩, ?_⟩
      rw [if_neg (by omega), if_neg (by omega), if_neg (by omega)]; exact hW
    · exact .inr ⟨he, fun q => h0 (q.2.1 hs)⟩
  · refine (ins_two h op a hs).mono fun e w' ⟨o', hS, hc⟩ => ⟨o', hS, ?_⟩
    rcases hc with ⟨he, h0, hW⟩ | ⟨he, h0⟩
    · refine .inl ⟨he, ⟨by omega, fun q => by omega, fun _ => h0, fun q => by omega, fun q => by omega⟩, ?_⟩
      rw [if_pos hs]; rw [List.append_assoc] at hW; exact hW
    · exact .inr ⟨he, fun q => h0 (q.2.2.1 hs)⟩
  · refine (ins_three h op a hs).mono fun e w' ⟨o', hS, hc⟩ => ⟨o', hS, ?_⟩
    rcases hc with ⟨he, h0, hW⟩ | ⟨he, h0⟩
    · refine .inl ⟨he, ⟨by omega, fun q => by omega, fun q => by omega, fun _ => h0, fun q => by omega⟩, ?_⟩
      rw [if_neg (by omega), if_pos hs]; rw [List.append_assoc] at hW; exact hW
    · exact .inr ⟨he, fun q => h0 (q.2.2.2.1 hs)⟩
  · refine (ins_four h op a hs).mono fun e w' ⟨o', hS, he, hW⟩ => ⟨o', hS, .inl ⟨he, ⟨by omega, fun q => by omega, fun q => by omega, fun q => by omega, fun _ => ha⟩, ?_⟩⟩
    rw [if_neg (by omega), if_neg (by omega), if_pos hs]; rw [List.append_assoc] at hW; exact hW
end Go.Proofs.YtcnjlbjpeklgkaaGreatDoor
namespace Go.Proofs.YtcnjlbjpeklgkaaGreatDoor
open Go.RowKit
set_option linter.unusedVariables false
set_option linter.unusedSimpArgs false

/-- bytes below a block -/
def ByIn (w : World) (B : Nat) (p : Option Addr) (t : List Int) : Prop := Byt t ∧ (t = [] ∨ ∃ g off, p = some ⟨g, off, none⟩ ∧ g < B ∧ ∀ (j : Nat) x, t[j]? = some x → w.cell? ⟨g, off + j, none⟩ = some (.int .u8 x))
/-- texts below a block -/
def TxIn (w : World) (B : Nat) (p : Option Addr) (ts : List (List Int)) : Prop :=
  ts = [] ∨ ∃ g off, p = some ⟨g, off, none⟩ ∧ g < B ∧ ∀ (j : Nat) t, ts[j]? = some t → ∃ pj cj, w.cell? ⟨g, off + j, none⟩ = some (.slice pj t.length cj) ∧ ByIn w B pj t
/-- instructions below a block -/
def InIn (w : World) (B : Nat) (p : Option Addr) (l : List (Int × Int)) : Prop :=
  l = [] ∨ ∃ g off, p = some ⟨g, off, none⟩ ∧ g < B ∧ ∀ (j : Nat) x, l[j]? = some x → w.cell? ⟨g, off + j * 2, none⟩ = some (.int .i64 x.1) ∧ w.cell? ⟨g, off + j * 2 + 1, none⟩ = some (.int .i64 x.2)
/-- functions below a block -/
def FnIn (w : World) (B : Nat) (p : Option Addr) (fs : List (Int × Int × Int × List (Int × Int))) : Prop :=
  fs = [] ∨ ∃ g off, p = some ⟨g, off, none⟩ ∧ g < B ∧ ∀ (j : Nat) f, fs[j]? = some f → ∃ pj cj, w.cell? ⟨g, off + j * 4, none⟩ = some (.int .i64 f.1) ∧ w.cell? ⟨g, off + j * 4 + 1, none⟩ = some (.int .i64 f.2.1) ∧ w.cell? ⟨g, off + j * 4 + 2, none⟩ = some (.int .i64 f.2.2.1) ∧
    w.cell? ⟨g, off + j * 4 + 3, none⟩ = some (.slice pj f.2.2.2.length cj) ∧ InIn w B pj f.2.2.2
/-- all that lies below B is as it was -/
def Lo (B : Nat) (w w' : World) : Prop := Fx (fun k => B ≤ k) w w'
theorem Lo.refl (B : Nat) (w : World) : Lo B w w := Fx.refl _ _
theorem Lo.trans {B : Nat} {a b c : World} (h : Lo B a b) (g : Lo B b c) : Lo B a c := Fx.trans h g
theorem Lo.low {B C : Nat} {a b : World} (h : Lo B a b) (hC : C ≤ B) : Lo C a b := Fx.wide h fun k _ q => Nat.le_trans hC q
theorem Lo.cell {B : Nat} {w w' : World} (h : Lo B w w') {b o : Nat} {v : Value} (hc : w.cell? ⟨b, o, none⟩ = some v) (h2 : b < B) : w'.cell? ⟨b, o, none⟩ = some v := Fx.cell h hc (by omega)
theorem Lo.of_out {B : Nat} {w w' : World} (h : Out 0 0 w w') : Lo B w w' := Fx.of_out h
theorem St.lo {p : Nat} {o o' : Option Nat} {w w' : World} {F : List Int} (h : St p o w o' w') (hW : WR w p o F) : Lo p w w' := h.1.wide fun k _ q => by
  rcases q with q | q
  · omega
  · obtain ⟨ta, K, cap, bs, a1, a2, a3, a4, a5⟩ := hW
    have := (own_ge a4 (a5.trans q)).1
    omega
theorem ByIn.kept {w w' : World} {B C : Nat} {p : Option Addr} {t : List Int} (h : ByIn w B p t) (o : Lo C w w') (hx : B ≤ C) : ByIn w' B p t := by
  refine ⟨h.1, ?_⟩
  rcases h.2 with h | ⟨g, off, h1, h2, h3⟩
  · exact .inl h
  · exact .inr ⟨g, off, h1, h2, fun j x hj => o.cell (h3 j x hj) (by omega)⟩
theorem ByIn.bytes {w : World} {B : Nat} {p : Option Addr} {t : List Int} (h : ByIn w B p t) : BytesAt w p t := by
  refine ⟨h.1, ?_⟩
  rcases h.2 with h | ⟨g, off, h1, h2, h3⟩
  · exact .inl h
  · exact .inr ⟨g, off, h1, h3⟩
theorem TxIn.kept {w w' : World} {B C : Nat} {p : Option Addr} {ts : List (List Int)} (h : TxIn w B p ts) (o : Lo C w w') (hx : B ≤ C) : TxIn w' B p ts := by
  rcases h with h | ⟨g, off, h1, h2, h3⟩
  · exact .inl h
  · refine .inr ⟨g, off, h1, h2, fun j t hj => ?_⟩
    obtain ⟨pj, cj, c1, c2⟩ := h3 j t hj
    exact ⟨pj, cj, o.cell c1 (by omega), c2.kept o hx⟩
theorem InIn.kept {w w' : World} {B C : Nat} {p : Option Addr} {l : List (Int × Int)} (h : InIn w B p l) (o : Lo C w w') (hx : B ≤ C) : InIn w' B p l := by
  rcases h with h | ⟨g, off, h1, h2, h3⟩
  · exact .inl h
  · refine .inr ⟨g, off, h1, h2, fun j t hj => ?_⟩
    obtain ⟨c1, c2⟩ := h3 j t hj
    exact ⟨o.cell c1 (by omega), o.cell c2 (by omega)⟩
theorem FnIn.kept {w w' : World} {B C : Nat} {p : Option Addr} {fs : List (Int × Int × Int × List (Int × Int))} (h : FnIn w B p fs) (o : Lo C w w') (hx : B ≤ C) : FnIn w' B p fs := by
  rcases h with h | ⟨g, off, h1, h2, h3⟩
  · exact .inl h
  · refine .inr ⟨g, off, h1, h2, fun j t hj => ?_⟩
    obtain ⟨pj, cj, c1, c2, c3, c4, c5⟩ := h3 j t hj
    exact ⟨pj, cj, o.cell c1 (by omega), o.cell c2 (by omega), o.cell c3 (by omega), o.cell c4 (by omega), c5.kept o hx⟩
/-- the numbers of a program's instructions are the machine's -/
def MI (l : List (Int × Int)) : Prop := ∀ x ∈ l, (-9223372036854775808 ≤ x.1 ∧ x.1 ≤ 9223372036854775807) ∧ -9223372036854775808 ≤ x.2 ∧ x.2 ≤ 9223372036854775807
theorem number_any {w : World} {p : Nat} {o : Option Nat} {F : List Int} (h : WR w p o F) (n lo hi : Int) (h0 : decide (0 ≤ lo ∧ hi ≤ 9223372036854775807) = true) {Q : Ending → World → Prop}
    (hy : lo ≤ n ∧ n ≤ hi → ∀ w' o', WR w' p o' (F ++ numB n.toNat) → St p o w o' w' → Q (.returned (.tuple #[])) w') (hno : ¬ (lo ≤ n ∧ n ≤ hi) → Q (.panicked [stopP 62 0]) w) :
    Calls Tryz.prog 82 #[.pointer (some ⟨p, 0, none⟩), .int .i64 n, .int .i64 lo, .int .i64 hi] w Q := by
  have h0' : 0 ≤ lo ∧ hi ≤ 9223372036854775807 := by simpa using h0
  by_cases hc : lo ≤ n ∧ n ≤ hi
  · obtain ⟨m, rfl⟩ := Int.eq_ofNat_of_zero_le (Int.le_trans h0'.1 hc.1)
    exact (number_yes h m (Int.le_trans hc.2 h0'.2) lo hi (by simpa using hc.1) (by simpa using hc.2)).mono fun e w' ⟨he, o', hW, hS⟩ => by rw [he]; exact hy hc w' o' hW hS
  · exact calls_stop (number_no n lo hi (by simp; omega)) (hno hc)
theorem fm_up {l : List (Int × Int)} {k : Nat} {x : Int × Int} (h : l[k]? = some x) : (l.take (k + 1)).flatMap encI = (l.take k).flatMap encI ++ encI x := by
  rw [List.take_add_one, h]; simp
theorem ok_up {l : List (Int × Int)} {k : Nat} {x : Int × Int} (h : l[k]? = some x) (hk : ∀ e ∈ l.take k, okI e) (hx : okI x) : ∀ e ∈ l.take (k + 1), okI e := by
  intro e he
  rw [List.take_add_one, h] at he
  rcases List.mem_append.1 he with q | q
  · exact hk e q
  · simp at q; subst q; exact hx
set_option maxRecDepth 100000 in
set_option maxHeartbeats 1000000 in
/-- the instructions of a function, behind its four numbers -/
theorem function_any {w : World} {p B : Nat} {o : Option Nat} {F : List Int} (h : WR w p o F) (hB : B ≤ p) (x y z : Int) (l : List (Int × Int)) (ca : Option Addr) (n cc : Nat) (hn : l.length = n) (hl : InIn w B ca l) (hM : MI l) :
    Calls Tryz.prog 83 #[.pointer (some ⟨p, 0, none⟩), .agg #[.int .i64 x, .int .i64 y, .int .i64 z, .slice ca n cc]] w fun e w' => ∃ o', St p o w o' w' ∧ (e = .returned (.tuple #[]) ∧ okF (x, y, z, l) ∧ WR w' p o' (F ++ encF (x, y, z, l)) ∨ e = .panicked [stopP 62 0] ∧ ¬ okF (x, y, z, l)) := by
  have HB := hid_mk (Bl.new w #[.int .i64 x, .int .i64 y, .int .i64 z, .slice ca n cc] 39)
  have k0 := HB.out.cell (i := 0) rfl
  have k1 := HB.out.cell (i := 1) rfl
  have k2 := HB.out.cell (i := 2) rfl
  have k3 := HB.out.cell (i := 3) rfl
  have HW := hid_mk (h.alloc (.cells #[.int .i64 x, .int .i64 y, .int .i64 z, .slice ca n cc] 39))
  have HS := hid_mk (St.refl p o (w.alloc (.cells #[.int .i64 x, .int .i64 y, .int .i64 z, .slice ca n cc] 39)))
  have HS0 := hid_mk ((St.refl p o w).alloc (.cells #[.int .i64 x, .int .i64 y, .int .i64 z, .slice ca n cc] 39))
  have hgp : Hid (w.heap.size ≠ p) := hid_mk (by have := h.lt; omega)
  have hog : Hid (o ≠ some w.heap.size) := hid_mk (h.off (Nat.le_refl _))
  have HL := hid_mk hl
  have HM := hid_mk hM
  have HN := hid_mk hn
  have HW0 := hid_mk h
  clear h hl hM hn
  by_cases h1 : 0 ≤ x ∧ x ≤ 8
  · by_cases h2 : 0 ≤ y ∧ y ≤ 64
    · by_cases h3 : 0 ≤ z ∧ z ≤ 64
      · by_cases h4 : 0 ≤ (n : Int) ∧ (n : Int) ≤ 4096
        · go_enter Tryz.func83, Tryz.ntmps83
          go_wp2_with (go_at_call 82; refine number_any HW.out _ _ _ (by decide) ?_ ?_ <;> first
            | (intro hno; exact absurd (by assumption) hno)
            | (intro hok; exact absurd hok (by assumption))
            | (intro hok w2 o2 hW2 hS2; have HS := hid_mk (HS.out.trans hS2); have HW := hid_mk hW2; clear hW2 hS2 hok; have bb := HS.out.bl HB.out hgp.out hog.out; have k0 := bb.cell (i := 0) rfl; have k1 := bb.cell (i := 1) rfl; have k2 := bb.cell (i := 2) rfl; have k3 := bb.cell (i := 3) rfl; clear bb)
            | (intro hno; clear hno))
          have hn4 : (n : Int) ≤ 4096 := h4.2
          have HH := hid_mk (And.intro h1 (And.intro h2 (And.intro h3 h4)))
          have HL1 := hid_mk (HL.out.kept ((Lo.of_out ((Out.refl 0 0 w).alloc _)).trans (HS.out.lo (HW0.out.alloc _))) hB)
          clear k0 k1 k2 k3 h1 h2 h3 h4
          have HSA := hid_mk (HS0.out.trans HS.out)
          have HWL := hid_mk HW.out
          go_loopw [26] (fun i wr => ∃ k : Nat, i = .int .i64 k ∧ k ≤ n ∧ (∀ e ∈ l.take k, okI e) ∧ ∃ o', WR wr p o' (F ++ numB x.toNat ++ numB y.toNat ++ numB z.toNat ++ numB (n : Int).toNat ++ (l.take k).flatMap encI) ∧ St p o2 w2 o' wr) (fun i _ => n - (intOf i).toNat)
          case atStart => exact ⟨0, rfl, Nat.zero_le _, by simp, o2, by simpa using HW.out, St.refl _ _ _⟩
          case round =>
            obtain ⟨k, rfl, hkn, hok, o5, hW5, hS5⟩ := hrel
            have HK := hid_mk hok
            have HW5 := hid_mk hW5
            have HS5 := hid_mk hS5
            clear hok hW5 hS5
            by_cases hgo : k < n
            · have g1 : (k : Int) < (n : Int) := by omega
              obtain ⟨⟨u, v⟩, hx⟩ : ∃ e, l[k]? = some e := ⟨_, List.getElem?_eq_getElem (by have := HN.out; omega)⟩
              have HX := hid_mk hx
              rcases HL1.out with h0 | ⟨g, off, rfl, hg, hc⟩
              · rw [h0] at hx; cases hx
              obtain ⟨c0, c1⟩ := hc k _ hx
              have HO5 := hid_mk (HS5.out.lo HWL.out)
              have d0 := HO5.out.cell c0 (Nat.lt_of_lt_of_le hg hB)
              have d1 := HO5.out.cell c1 (Nat.lt_of_lt_of_le hg hB)
              have HMx := hid_mk (HM.out _ (List.mem_of_getElem? hx)).2
              clear hx hc c0 c1
              go_wp2_with fail
              refine (ins_any (HW5.out.alloc _) u v HMx.out).mono ?_
              rintro e w6 ⟨o6, hS6, ⟨rfl, hI, hW6⟩ | ⟨rfl, hI⟩⟩
              · have HI := hid_mk hI
                have HW6 := hid_mk hW6
                have HS6 := hid_mk hS6
                clear hI hW6 hS6
                go_wp2
                go_roundw
                case rel => exact ⟨k + 1, by go_num, by omega, ok_up HX.out HK.out HI.out, o6, by rw [fm_up HX.out, ← List.append_assoc]; exact HW6.out, (HS5.out.alloc _).trans HS6.out⟩
                case measure => simp [intOf]; omega
              · exact ⟨rfl, o6, (HSA.out.trans (HS5.out.alloc _)).trans hS6, .inr ⟨rfl, fun q => hI (q.2.2.2.2 _ (List.mem_of_getElem? HX.out))⟩⟩
            · have hkn' : k = n := by omega
              subst hkn'
              have g1 : ¬ ((k : Int) < (k : Int)) := by omega
              go_wp2
              refine bodyPost_end (results_none Tryz.results83 _ _ _) rfl ⟨o5, HSA.out.trans HS5.out, .inl ⟨rfl, ?_, ?_⟩⟩
              · have hT : l.take k = l := List.take_of_length_le (by have := HN.out; omega)
                have hk := HK.out
                rw [hT] at hk
                exact ⟨HH.out.1, HH.out.2.1, HH.out.2.2.1, by have := HH.out.2.2.2; have := HN.out; dsimp only; omega, hk⟩
              · have hT : l.take k = l := List.take_of_length_le (by have := HN.out; omega)
                have := HW5.out
                rw [hT] at this
                unfold encF
                dsimp only
                rw [HN.out]
                simpa [List.append_assoc] using this
        · go_enter Tryz.func83, Tryz.ntmps83
          go_wp2_with (go_at_call 82; refine number_any HW.out _ _ _ (by decide) ?_ ?_ <;> first
            | (intro hno; exact absurd (by assumption) hno)
            | (intro hok; exact absurd hok (by assumption))
            | (intro hok w2 o2 hW2 hS2; have HS := hid_mk (HS.out.trans hS2); have HW := hid_mk hW2; clear hW2 hS2 hok; have bb := HS.out.bl HB.out hgp.out hog.out; have k0 := bb.cell (i := 0) rfl; have k1 := bb.cell (i := 1) rfl; have k2 := bb.cell (i := 2) rfl; have k3 := bb.cell (i := 3) rfl; clear bb)
            | (intro hno; clear hno))
          exact ⟨rfl, _, HS0.out.trans HS.out, .inr ⟨rfl, fun q => h4 (by have := q.2.2.2.1; have := HN.out; dsimp only at *; omega)⟩⟩
      · go_enter Tryz.func83, Tryz.ntmps83
        go_wp2_with (go_at_call 82; refine number_any HW.out _ _ _ (by decide) ?_ ?_ <;> first
            | (intro hno; exact absurd (by assumption) hno)
            | (intro hok; exact absurd hok (by assumption))
            | (intro hok w2 o2 hW2 hS2; have HS := hid_mk (HS.out.trans hS2); have HW := hid_mk hW2; clear hW2 hS2 hok; have bb := HS.out.bl HB.out hgp.out hog.out; have k0 := bb.cell (i := 0) rfl; have k1 := bb.cell (i := 1) rfl; have k2 := bb.cell (i := 2) rfl; have k3 := bb.cell (i := 3) rfl; clear bb)
            | (intro hno; clear hno))
        exact ⟨rfl, _, HS0.out.trans HS.out, .inr ⟨rfl, fun q => h3 q.2.2.1⟩⟩
    · go_enter Tryz.func83, Tryz.ntmps83
      go_wp2_with (go_at_call 82; refine number_any HW.out _ _ _ (by decide) ?_ ?_ <;> first
            | (intro hno; exact absurd (by assumption) hno)
            | (intro hok; exact absurd hok (by assumption))
            | (intro hok w2 o2 hW2 hS2; have HS := hid_mk (HS.out.trans hS2); have HW := hid_mk hW2; clear hW2 hS2 hok; have bb := HS.out.bl HB.out hgp.out hog.out; have k0 := bb.cell (i := 0) rfl; have k1 := bb.cell (i := 1) rfl; have k2 := bb.cell (i := 2) rfl; have k3 := bb.cell (i := 3) rfl; clear bb)
            | (intro hno; clear hno))
      exact ⟨rfl, _, HS0.out.trans HS.out, .inr ⟨rfl, fun q => h2 q.2.1⟩⟩
  · go_enter Tryz.func83, Tryz.ntmps83
    go_wp2_with (go_at_call 82; refine number_any HW.out _ _ _ (by decide) ?_ ?_ <;> first
            | (intro hno; exact absurd (by assumption) hno)
            | (intro hok; exact absurd hok (by assumption))
            | (intro hok w2 o2 hW2 hS2; have HS := hid_mk (HS.out.trans hS2); have HW := hid_mk hW2; clear hW2 hS2 hok; have bb := HS.out.bl HB.out hgp.out hog.out; have k0 := bb.cell (i := 0) rfl; have k1 := bb.cell (i := 1) rfl; have k2 := bb.cell (i := 2) rfl; have k3 := bb.cell (i := 3) rfl; clear bb)
            | (intro hno; clear hno))
    exact ⟨rfl, _, HS0.out.trans HS.out, .inr ⟨rfl, fun q => h1 q.1⟩⟩
end Go.Proofs.YtcnjlbjpeklgkaaGreatDoor
