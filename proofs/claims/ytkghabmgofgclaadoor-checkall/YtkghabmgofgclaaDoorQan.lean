import Derived.Test.YtkghabmgofgclaaDoorQaf
import Derived.Test.YtkghabmgofgclaaDoorQam
namespace Go.Proofs.YtkghabmgofgclaaDoor
open Go.RowKit
set_option linter.unusedVariables false
set_option linter.unusedSimpArgs false

theorem i32_id {a : Int} (h0 : 0 ≤ a) (h1 : a ≤ 2097151) : IntKind.i32.wrap a = a := by
  simp [IntKind.wrap, IntKind.signed, IntKind.bits]
  omega
theorem vr_any (a : Int) (h0 : 0 ≤ a) (h1 : a ≤ 2097151) (w : World) : Calls Tryd.prog 87 #[.int .i32 a] w fun x w' => x = .returned (.bool (decide (a ≤ 1114111 ∧ (a < 55296 ∨ 57343 < a)))) ∧ w' = w := by
  have e : decide (a ≤ 1114111 ∧ (a < 55296 ∨ 57343 < a)) = (decide (a < 55296) || (decide (57343 < a) && decide (a ≤ 1114111))) := by
    by_cases q1 : a < 55296 <;> by_cases q2 : 57343 < a <;> by_cases q3 : a ≤ 1114111 <;> simp [q1, q2, q3] <;> omega
  rw [e]
  have q0 : decide (0 ≤ a) = true := by simpa using h0
  generalize hb1 : decide (a < 55296) = b1
  generalize hb2 : decide (57343 < a) = b2
  generalize hb3 : decide (a ≤ 1114111) = b3
  clear e h0 h1
  cases b1 <;> cases b2 <;> cases b3
  all_goals
    go_enter Tryd.func87, Tryd.ntmps87
    go_wp2
    go_ret
    exact ⟨rfl, rfl⟩
set_option maxHeartbeats 4000000 in
theorem right_any {w : World} (op a : Int) (P L C : Int) (ca : Option Addr) (n cc : Nat) (k g : Int) (ta : Option Addr) (nt tc : Nat) (fa : Option Addr) (nf fc : Nat) (h2 : op = 2 → 0 ≤ a ∧ a ≤ 2097151) :
    Calls Tryd.prog 69 #[.agg #[.int .i64 P, .int .i64 L, .int .i64 C, .slice ca n cc, .int .i64 k, .int .i64 g, .slice ta nt tc, .slice fa nf fc], .agg #[.int .i64 op, .int .i64 a]] w fun x w' => x = .returned (.bool (rtB g nt nf L C (op, a))) ∧ Out 0 0 w w' := by
  have HO := hid_mk (((Out.refl 0 0 w).alloc (.cells #[.int .i64 P, .int .i64 L, .int .i64 C, .slice ca n cc, .int .i64 k, .int .i64 g, .slice ta nt tc, .slice fa nf fc] 104)).alloc (.cells #[.int .i64 op, .int .i64 a] 61))
  by_cases h : op = 2 ∨ op = 3 ∨ op = 4 ∨ op = 6 ∨ op = 7 ∨ op = 8 ∨ op = 9 ∨ op = 10 ∨ op = 16 ∨ op = 17 ∨ op = 18
  · rcases h with rfl | h
    · obtain ⟨a0, a1⟩ := h2 rfl
      have hcv : IntKind.i32.wrap a = a := i32_id a0 a1
      have HV := hid_mk (vr_any a a0 a1)
      have e : rtB g nt nf L C (2, a) = decide (a ≤ 1114111 ∧ (a < 55296 ∨ 57343 < a)) := by unfold rtB; rw [if_pos rfl]
      rw [e]
      generalize decide (a ≤ 1114111 ∧ (a < 55296 ∨ 57343 < a)) = b at *
      clear h2 a0 a1 e
      go_enter Tryd.func69, Tryd.ntmps69
      go_wp2_with (go_at_call 87; refine calls_same (HV.out _) ?_)
      go_ret
      exact ⟨rfl, HO.out⟩
    · clear h2
      rcases h with rfl | rfl | rfl | rfl | rfl | rfl | rfl | rfl | rfl | rfl
      · have e : rtB g nt nf L C (3, a) = decide (a ≤ 4) := by simp [rtB]
        rw [e]
        go_enter Tryd.func69, Tryd.ntmps69
        go_wp2
        go_ret
        exact ⟨rfl, HO.out⟩
      · have e : rtB g nt nf L C (4, a) = decide (a < nt) := by simp [rtB]
        rw [e]
        go_enter Tryd.func69, Tryd.ntmps69
        go_wp2
        go_ret
        exact ⟨rfl, HO.out⟩
      · have e : rtB g nt nf L C (6, a) = decide (a < L) := by simp [rtB]
        rw [e]
        go_enter Tryd.func69, Tryd.ntmps69
        go_wp2
        go_ret
        exact ⟨rfl, HO.out⟩
      · have e : rtB g nt nf L C (7, a) = decide (a < L) := by simp [rtB]
        rw [e]
        go_enter Tryd.func69, Tryd.ntmps69
        go_wp2
        go_ret
        exact ⟨rfl, HO.out⟩
      · have e : rtB g nt nf L C (8, a) = decide (a < C) := by simp [rtB]
        rw [e]
        go_enter Tryd.func69, Tryd.ntmps69
        go_wp2
        go_ret
        exact ⟨rfl, HO.out⟩
      · have e : rtB g nt nf L C (9, a) = decide (a < g) := by simp [rtB]
        rw [e]
        go_enter Tryd.func69, Tryd.ntmps69
        go_wp2
        go_ret
        exact ⟨rfl, HO.out⟩
      · have e : rtB g nt nf L C (10, a) = decide (a < g) := by simp [rtB]
        rw [e]
        go_enter Tryd.func69, Tryd.ntmps69
        go_wp2
        go_ret
        exact ⟨rfl, HO.out⟩
      · have e : rtB g nt nf L C (16, a) = decide (a < nf) := by simp [rtB]
        rw [e]
        go_enter Tryd.func69, Tryd.ntmps69
        go_wp2
        go_ret
        exact ⟨rfl, HO.out⟩
      · have e : rtB g nt nf L C (17, a) = decide (a ≤ 8) := by simp [rtB]
        rw [e]
        go_enter Tryd.func69, Tryd.ntmps69
        go_wp2
        go_ret
        exact ⟨rfl, HO.out⟩
      · have e : rtB g nt nf L C (18, a) = decide (a ≤ 8) := by simp [rtB]
        rw [e]
        go_enter Tryd.func69, Tryd.ntmps69
        go_wp2
        go_ret
        exact ⟨rfl, HO.out⟩
  · have e : rtB g nt nf L C (op, a) = true := by
      unfold rtB
      simp only []
      rw [if_neg (by omega), if_neg (by omega), if_neg (by omega), if_neg (by omega), if_neg (by omega), if_neg (by omega), if_neg (by omega), if_neg (by omega)]
    rw [e]
    have e2 : (op == 2) = false := by simp; omega
    have e3 : (op == 3) = false := by simp; omega
    have e4 : (op == 4) = false := by simp; omega
    have e6 : (op == 6) = false := by simp; omega
    have e7 : (op == 7) = false := by simp; omega
    have e8 : (op == 8) = false := by simp; omega
    have e9 : (op == 9) = false := by simp; omega
    have e10 : (op == 10) = false := by simp; omega
    have e16 : (op == 16) = false := by simp; omega
    have e17 : (op == 17) = false := by simp; omega
    have e18 : (op == 18) = false := by simp; omega
    clear h e h2
    go_enter Tryd.func69, Tryd.ntmps69
    go_wp2
    go_ret
    exact ⟨rfl, HO.out⟩
end Go.Proofs.YtkghabmgofgclaaDoor
namespace Go.Proofs.YtkghabmgofgclaaDoor
open Go.RowKit
set_option linter.unusedVariables false
set_option linter.unusedSimpArgs false

/-- the first thing that is wrong of a function by itself -/
def paF (P L C : Int) (g : Int) (nt nf n : Nat) (cd : List (Int × Int)) : Option (Int × Nat) := if L < P ∨ n = 0 then some (71, 0) else ptI (rtB g nt nf L C) n 0 cd
def CpQ (w : World) (k : Int) (o : Option (Int × Nat)) (e : Ending) (w' : World) : Prop := Out 0 0 w w' ∧ ((o = none ∧ e = .returned (.tuple #[])) ∨ ∃ er i, o = some (er, i) ∧ e = .panicked [badP er k i])
theorem drop_at {α : Type} {l : List α} {m : Nat} {x : α} (h : l[m]? = some x) : l.drop m = x :: l.drop (m + 1) := by
  obtain ⟨h1, h2⟩ := List.getElem?_eq_some_iff.1 h
  rw [← h2]
  exact List.drop_eq_getElem_cons h1
theorem ptI_72 {rt : Int × Int → Bool} {n i : Nat} {x : Int × Int} {l : List (Int × Int)} (h : rt x = false) : ptI rt n i (x :: l) = some (72, i) := by unfold ptI; rw [if_pos h]
theorem ptI_73 {rt : Int × Int → Bool} {n i : Nat} {x : Int × Int} {l : List (Int × Int)} (h : rt x = true) (h1 : juB x.1 = true) (h2 : (n : Int) ≤ x.2) : ptI rt n i (x :: l) = some (73, i) := by unfold ptI; rw [if_neg (by rw [h]; simp), if_pos ⟨h1, h2⟩]
theorem ptI_go {rt : Int × Int → Bool} {n i : Nat} {x : Int × Int} {l : List (Int × Int)} (h : rt x = true) (h2 : ¬ (juB x.1 = true ∧ (n : Int) ≤ x.2)) : ptI rt n i (x :: l) = ptI rt n (i + 1) l := by
  rw [ptI, if_neg (by rw [h]; simp), if_neg h2]
theorem ok_two {x : Int × Int} (h : okI x) : x.1 = 2 → 0 ≤ x.2 ∧ x.2 ≤ 2097151 := fun e => h.2.2.1 (by rw [e]; rfl)
set_option maxRecDepth 100000 in
set_option maxHeartbeats 2000000 in
theorem parts_bad {w : World} (P L C : Int) (ca : Option Addr) (n cc : Nat) (k g : Int) (ta : Option Addr) (nt tc : Nat) (fa : Option Addr) (nf fc : Nat) {b1 b2 : Bool} (h1 : decide (P ≤ L) = b1) (h2 : decide ((0 : Int) < (n : Int)) = b2) (h3 : decide (0 < n) = b2) (hb : (b1 && b2) = false) :
    Calls Tryd.prog 56 #[.agg #[.int .i64 P, .int .i64 L, .int .i64 C, .slice ca n cc, .int .i64 k, .int .i64 g, .slice ta nt tc, .slice fa nf fc]] w (CpQ w k (some (71, 0))) := by
  have HO := hid_mk ((Out.refl 0 0 w).alloc (.cells #[.int .i64 P, .int .i64 L, .int .i64 C, .slice ca n cc, .int .i64 k, .int .i64 g, .slice ta nt tc, .slice fa nf fc] 104))
  cases b1
  · go_enter Tryd.func56, Tryd.ntmps56
    go_wp2_with (go_at_call 68; refine (fwant_no P L C ca n cc k g ta nt tc fa nf fc _ _ _).mono ?_; rintro e w9 ⟨rfl, o9⟩)
    exact ⟨rfl, HO.out.trans o9, .inr ⟨71, 0, rfl, rfl⟩⟩
  · cases b2
    · go_enter Tryd.func56, Tryd.ntmps56
      go_wp2_with (go_at_call 68; refine (fwant_no P L C ca n cc k g ta nt tc fa nf fc _ _ _).mono ?_; rintro e w9 ⟨rfl, o9⟩)
      exact ⟨rfl, HO.out.trans o9, .inr ⟨71, 0, rfl, rfl⟩⟩
    · cases hb
set_option maxRecDepth 100000 in
set_option maxHeartbeats 4000000 in
theorem parts_good {w : World} (P L C : Int) (ca : Option Addr) (n cc : Nat) (k g : Int) (ta : Option Addr) (nt tc : Nat) (fa : Option Addr) (nf fc : Nat) {B : Nat} {cd : List (Int × Int)} (hcode : InIn w B ca cd) (hcl : cd.length = n) (hn : n ≤ 4096) (hB : B ≤ w.heap.size) (hok : ∀ x ∈ cd, okI x) (h1 : decide (P ≤ L) = true) (h2 : decide ((0 : Int) < (n : Int)) = true) (h3 : decide (0 < n) = true) :
    Calls Tryd.prog 56 #[.agg #[.int .i64 P, .int .i64 L, .int .i64 C, .slice ca n cc, .int .i64 k, .int .i64 g, .slice ta nt tc, .slice fa nf fc]] w (CpQ w k (ptI (rtB g nt nf L C) n 0 cd)) := by
  obtain ⟨b, hb⟩ : ∃ b, w.heap.size = b := ⟨_, rfl⟩
  obtain ⟨V, hV⟩ : ∃ V, w.alloc (.cells #[.int .i64 P, .int .i64 L, .int .i64 C, .slice ca n cc, .int .i64 k, .int .i64 g, .slice ta nt tc, .slice fa nf fc] 104) = V := ⟨_, rfl⟩
  have oV : Out 0 0 w V := by rw [← hV]; exact (Out.refl 0 0 w).alloc _
  have B0 : Bl V b #[.int .i64 P, .int .i64 L, .int .i64 C, .slice ca n cc, .int .i64 k, .int .i64 g, .slice ta nt tc, .slice fa nf fc] 104 := by rw [← hV, ← hb]; exact Bl.new _ _ _
  have HB0 := hid_mk B0
  have k0 := B0.cell (i := 0) rfl; have k1 := B0.cell (i := 1) rfl; have k2 := B0.cell (i := 2) rfl; have k3 := B0.cell (i := 3) rfl; have k4 := B0.cell (i := 4) rfl; have k5 := B0.cell (i := 5) rfl; have k6 := B0.cell (i := 6) rfl; have k7 := B0.cell (i := 7) rfl
  have HO := hid_mk oV
  have HH := hid_mk (And.intro hcode (And.intro hcl (And.intro hn (And.intro hB hok))))
  have HBZ : Hid (w.heap.size = b) := hid_mk hb
  clear hcode hcl hn hB hok oV B0
  go_enter Tryd.func56, Tryd.ntmps56
  go_wp2_with fail
  (try rw [hV])
  (try rw [hb])
  refine (fwant_yes P L C ca n cc k g ta nt tc fa nf fc _ _ _).mono ?_
  rintro e w9 ⟨rfl, o9⟩
  replace k3 := o9.cell k3 (.inr (Nat.zero_le _))
  replace HB0 := hid_mk (HB0.out.kept o9 (.inr (Nat.zero_le _)))
  replace HO := hid_mk (HO.out.trans o9)
  clear k0 k1 k2 k4 k5 k6 k7 o9 hV hb h1 h2 h3
  go_wp2
  clear k3
  go_loopw [24] (fun c wr => ∃ m : Nat, c = .int .i64 m ∧ m ≤ n ∧ ptI (rtB g nt nf L C) n m (cd.drop m) = ptI (rtB g nt nf L C) n 0 cd ∧ Bl wr b #[.int .i64 P, .int .i64 L, .int .i64 C, .slice ca n cc, .int .i64 k, .int .i64 g, .slice ta nt tc, .slice fa nf fc] 104 ∧ Out 0 0 w wr) (fun c _ => n - (intOf c).toNat)
  case atStart => exact ⟨0, rfl, Nat.zero_le _, rfl, HB0.out, HO.out⟩
  case round =>
    obtain ⟨m, rfl, hm, hp, hB, ho⟩ := hrel
    have HP := hid_mk hp
    have HBB := hid_mk hB
    have HO1 := hid_mk ho
    by_cases hgo : m < n
    · obtain ⟨l1, l2⟩ := lt_dec hgo
      obtain ⟨hcode, hcl, hn, hBs, hok⟩ := HH.out
      obtain ⟨⟨op, a⟩, hx⟩ : ∃ x, cd[m]? = some x := ⟨_, List.getElem?_eq_getElem (by omega)⟩
      have HOK := hid_mk (hok _ (List.mem_of_getElem? hx))
      obtain ⟨q, off, rfl, hq, i0, i1⟩ := in_cells (hcode.kept (Lo.of_out ho) (Nat.le_refl _)) hx
      have hin : (m : Int) < (n : Int) := by omega
      have HD := hid_mk (drop_at hx)
      have HG := hid_mk (And.intro hgo hn)
      obtain ⟨G, hG⟩ : ∃ G, wr.heap.size = G := ⟨_, rfl⟩
      obtain ⟨V2, hV2⟩ : ∃ V2, wr.alloc (.cells #[.int .i64 op, .int .i64 a] 61) = V2 := ⟨_, rfl⟩
      have oV : Out 0 0 wr V2 := by rw [← hV2]; exact (Out.refl 0 0 wr).alloc _
      have bI : Bl V2 G #[.int .i64 op, .int .i64 a] 61 := by rw [← hV2, ← hG]; exact Bl.new _ _ _
      have B0 := hB.kept oV (.inr (Nat.zero_le _))
      have k0 := B0.cell (i := 0) rfl; have k1 := B0.cell (i := 1) rfl; have k2 := B0.cell (i := 2) rfl; have k3 := B0.cell (i := 3) rfl; have k4 := B0.cell (i := 4) rfl; have k5 := B0.cell (i := 5) rfl; have k6 := B0.cell (i := 6) rfl; have k7 := B0.cell (i := 7) rfl
      have x0 := bI.cell (i := 0) rfl
      have x1 := bI.cell (i := 1) rfl
      replace HO1 := hid_mk (HO1.out.trans oV)
      replace HBB := hid_mk B0
      have HRt := hid_mk (fun w' => right_any (w := w') op a P L C (some ⟨q, off, none⟩) n cc k g ta nt tc fa nf fc (ok_two HOK.out))
      have HJu := hid_mk (jumps_any op)
      clear hp hB ho hgo hcode hcl hn hBs hok hx hq oV bI B0 hm
      go_wp2_with fail
      (try rw [hV2])
      (try rw [hG])
      clear hV2 hG i0 i1
      by_cases hr : rtB g nt nf L C (op, a) = true
      · have HR : Hid (∀ w' : World, Calls Tryd.prog 69 #[.agg #[.int .i64 P, .int .i64 L, .int .i64 C, .slice (some ⟨q, off, none⟩) n cc, .int .i64 k, .int .i64 g, .slice ta nt tc, .slice fa nf fc], .agg #[.int .i64 op, .int .i64 a]] w' fun x w'' => x = .returned (.bool true) ∧ Out 0 0 w' w'') := hid_mk fun w' => by have := HRt.out w'; rwa [hr] at this
        refine wp_region_held_drew (S := fun w' => w'.cell? ⟨b, 0, none⟩ = some (.int .i64 P) ∧ w'.cell? ⟨b, 1, none⟩ = some (.int .i64 L) ∧ w'.cell? ⟨b, 2, none⟩ = some (.int .i64 C) ∧ w'.cell? ⟨b, 3, none⟩ = some (.slice (some ⟨q, off, none⟩) n cc) ∧ w'.cell? ⟨b, 4, none⟩ = some (.int .i64 k) ∧ w'.cell? ⟨b, 5, none⟩ = some (.int .i64 g) ∧ w'.cell? ⟨b, 6, none⟩ = some (.slice ta nt tc) ∧ w'.cell? ⟨b, 7, none⟩ = some (.slice fa nf fc) ∧ w'.cell? ⟨G, 0, none⟩ = some (.int .i64 op) ∧ w'.cell? ⟨G, 1, none⟩ = some (.int .i64 a)) (by kernel_rfl) ?hS1 (fun hHeld => ?rest1)
        case hS1 => exact ⟨k0, k1, k2, k3, k4, k5, k6, k7, x0, x1⟩
        refine tk 0 ?_
        refine tk 1 ?_
        refine tk 2 ?_
        refine tk 4 ?_
        refine wpAnyH_ready (rs := [3]) (by kernel_rfl) (by simp) ?_
        refine AllReadyH.cons rfl (fun KK hK => ?_) AllReadyH.nil
        simp only [xa, xb, xc]
        go_simp
        refine (HR.out _).mono ?_
        rintro e w9 ⟨rfl, o8⟩
        have o9 : Out 0 0 V2 w9 := ((Out.refl 0 0 V2).drew).trans o8
        clear o8
        refine hK.out _ _ ?hS6 (fun hHeld2 => ?rest6)
        case hS6 => exact ⟨o9.cell k0 (.inr (Nat.zero_le _)), o9.cell k1 (.inr (Nat.zero_le _)), o9.cell k2 (.inr (Nat.zero_le _)), o9.cell k3 (.inr (Nat.zero_le _)), o9.cell k4 (.inr (Nat.zero_le _)), o9.cell k5 (.inr (Nat.zero_le _)), o9.cell k6 (.inr (Nat.zero_le _)), o9.cell k7 (.inr (Nat.zero_le _)), o9.cell x0 (.inr (Nat.zero_le _)), o9.cell x1 (.inr (Nat.zero_le _))⟩
        clear hK KK
        (try clear hHeld)
        have hHeld := hHeld2
        clear hHeld2
        (try simp only [Act.put, xa, xb, xc, xd, xe, xf])
        refine wpAnyH_ready (rs := [5]) (by kernel_rfl) (by simp) ?_
        refine AllReadyH.cons rfl (fun KK hK => ?_) AllReadyH.nil
        simp only [xa, xb, xc]
        go_simp
        refine (fwant_yes P L C (some ⟨q, off, none⟩) n cc k g ta nt tc fa nf fc _ _ _).mono ?_
        rintro e w8 ⟨rfl, o8⟩
        replace o9 : Out 0 0 V2 w8 := o9.trans o8
        clear o8
        refine hK.out _ _ ?hS7 (fun hHeld2 => ?rest7)
        case hS7 => exact ⟨o9.cell k0 (.inr (Nat.zero_le _)), o9.cell k1 (.inr (Nat.zero_le _)), o9.cell k2 (.inr (Nat.zero_le _)), o9.cell k3 (.inr (Nat.zero_le _)), o9.cell k4 (.inr (Nat.zero_le _)), o9.cell k5 (.inr (Nat.zero_le _)), o9.cell k6 (.inr (Nat.zero_le _)), o9.cell k7 (.inr (Nat.zero_le _)), o9.cell x0 (.inr (Nat.zero_le _)), o9.cell x1 (.inr (Nat.zero_le _))⟩
        clear hK KK
        (try clear hHeld)
        have hHeld := hHeld2
        clear hHeld2
        (try simp only [Act.put, xa, xb, xc, xd, xe, xf])
        refine wpAnyH_done (by kernel_rfl) ?_ _
        clear hHeld
        replace k0 := o9.cell k0 (.inr (Nat.zero_le _)); replace k1 := o9.cell k1 (.inr (Nat.zero_le _)); replace k2 := o9.cell k2 (.inr (Nat.zero_le _)); replace k3 := o9.cell k3 (.inr (Nat.zero_le _)); replace k4 := o9.cell k4 (.inr (Nat.zero_le _)); replace k5 := o9.cell k5 (.inr (Nat.zero_le _)); replace k6 := o9.cell k6 (.inr (Nat.zero_le _)); replace k7 := o9.cell k7 (.inr (Nat.zero_le _))
        replace x0 := o9.cell x0 (.inr (Nat.zero_le _)); replace x1 := o9.cell x1 (.inr (Nat.zero_le _))
        replace HO1 := hid_mk (HO1.out.trans o9)
        replace HBB := hid_mk (HBB.out.kept o9 (.inr (Nat.zero_le _)))
        clear o9 HR HRt
        go_wp2_with fail
        by_cases hj : juB op = true
        · have HJ : Hid (∀ w : World, Calls Tryd.prog 70 #[.int .i64 op] w fun x w' => x = .returned (.bool true) ∧ w' = w) := hid_mk fun w => by have := HJu.out w; rwa [hj] at this
          by_cases ha : a < (n : Int)
          · have ha1 : decide (a < (n : Int)) = true := by simpa using ha
            refine wp_region_held_drew (S := fun w' => w'.cell? ⟨b, 0, none⟩ = some (.int .i64 P) ∧ w'.cell? ⟨b, 1, none⟩ = some (.int .i64 L) ∧ w'.cell? ⟨b, 2, none⟩ = some (.int .i64 C) ∧ w'.cell? ⟨b, 3, none⟩ = some (.slice (some ⟨q, off, none⟩) n cc) ∧ w'.cell? ⟨b, 4, none⟩ = some (.int .i64 k) ∧ w'.cell? ⟨b, 5, none⟩ = some (.int .i64 g) ∧ w'.cell? ⟨b, 6, none⟩ = some (.slice ta nt tc) ∧ w'.cell? ⟨b, 7, none⟩ = some (.slice fa nf fc) ∧ w'.cell? ⟨G, 0, none⟩ = some (.int .i64 op) ∧ w'.cell? ⟨G, 1, none⟩ = some (.int .i64 a)) (by kernel_rfl) ?hS8 (fun hHeld => ?rest8)
            case hS8 => exact ⟨k0, k1, k2, k3, k4, k5, k6, k7, x0, x1⟩
            refine tk 0 ?_
            refine tk 1 ?_
            refine tk 2 ?_
            refine tk 14 ?_
            refine wpAnyH_ready (rs := [3]) (by kernel_rfl) (by simp) ?_
            refine AllReadyH.cons rfl (fun KK hK => ?_) AllReadyH.nil
            simp only [xa, xb, xc]
            go_simp
            refine calls_same (HJ.out _) ?_
            have o9 := ((Out.refl 0 0 w8).drew)
            refine hK.out _ _ ?hS13 (fun hHeld2 => ?rest13)
            case hS13 => exact ⟨o9.cell k0 (.inr (Nat.zero_le _)), o9.cell k1 (.inr (Nat.zero_le _)), o9.cell k2 (.inr (Nat.zero_le _)), o9.cell k3 (.inr (Nat.zero_le _)), o9.cell k4 (.inr (Nat.zero_le _)), o9.cell k5 (.inr (Nat.zero_le _)), o9.cell k6 (.inr (Nat.zero_le _)), o9.cell k7 (.inr (Nat.zero_le _)), o9.cell x0 (.inr (Nat.zero_le _)), o9.cell x1 (.inr (Nat.zero_le _))⟩
            clear hK KK
            (try clear hHeld)
            have hHeld := hHeld2
            clear hHeld2
            (try simp only [Act.put, xa, xb, xc, xd, xe, xf])
            refine tk 4 ?_
            refine tk 5 ?_
            refine tk 6 ?_
            refine tk 7 ?_
            refine tk 8 ?_
            refine tk 9 ?_
            refine tk 10 ?_
            refine tk 11 ?_
            refine tk 12 ?_
            refine tk 13 ?_
            refine wpAnyH_ready (rs := [15]) (by kernel_rfl) (by simp) ?_
            refine AllReadyH.cons rfl (fun KK hK => ?_) AllReadyH.nil
            simp only [xa, xb, xc]
            go_simp
            refine (fwant_yes P L C (some ⟨q, off, none⟩) n cc k g ta nt tc fa nf fc _ _ _).mono ?_
            rintro e w7 ⟨rfl, o8⟩
            replace o9 : Out 0 0 w8 w7 := o9.trans o8
            clear o8
            refine hK.out _ _ ?hS24 (fun hHeld2 => ?rest24)
            case hS24 => exact ⟨o9.cell k0 (.inr (Nat.zero_le _)), o9.cell k1 (.inr (Nat.zero_le _)), o9.cell k2 (.inr (Nat.zero_le _)), o9.cell k3 (.inr (Nat.zero_le _)), o9.cell k4 (.inr (Nat.zero_le _)), o9.cell k5 (.inr (Nat.zero_le _)), o9.cell k6 (.inr (Nat.zero_le _)), o9.cell k7 (.inr (Nat.zero_le _)), o9.cell x0 (.inr (Nat.zero_le _)), o9.cell x1 (.inr (Nat.zero_le _))⟩
            clear hK KK
            (try clear hHeld)
            have hHeld := hHeld2
            clear hHeld2
            (try simp only [Act.put, xa, xb, xc, xd, xe, xf])
            refine wpAnyH_done (by kernel_rfl) ?_ _
            clear hHeld k0 k1 k2 k3 k4 k5 k6 k7 x0 x1
            have HE : Hid (ptI (rtB g nt nf L C) n (m + 1) (cd.drop (m + 1)) = ptI (rtB g nt nf L C) n 0 cd) := hid_mk (by rw [← HP.out, HD.out, ptI_go hr (fun z => by have := z.2; simp only [] at this; omega)])
            clear ha hj hr
            go_wp2
            exact ⟨⟨m + 1, up_v HG.out.1 (by have := HG.out.2; omega), HG.out.1, HE.out, HBB.out.kept o9 (.inr (Nat.zero_le _)), HO1.out.trans o9⟩, by rw [up_w HG.out.1 (by have := HG.out.2; omega)]; exact ms_n HG.out.1⟩
          · have ha1 : decide (a < (n : Int)) = false := by simpa using ha
            have HE : Hid (ptI (rtB g nt nf L C) n 0 cd = some (73, m)) := hid_mk (by rw [← HP.out, HD.out, ptI_73 hr hj (by simp only []; omega)])
            clear ha hj hr
            refine wp_region_held_drew (S := fun w' => w'.cell? ⟨b, 0, none⟩ = some (.int .i64 P) ∧ w'.cell? ⟨b, 1, none⟩ = some (.int .i64 L) ∧ w'.cell? ⟨b, 2, none⟩ = some (.int .i64 C) ∧ w'.cell? ⟨b, 3, none⟩ = some (.slice (some ⟨q, off, none⟩) n cc) ∧ w'.cell? ⟨b, 4, none⟩ = some (.int .i64 k) ∧ w'.cell? ⟨b, 5, none⟩ = some (.int .i64 g) ∧ w'.cell? ⟨b, 6, none⟩ = some (.slice ta nt tc) ∧ w'.cell? ⟨b, 7, none⟩ = some (.slice fa nf fc) ∧ w'.cell? ⟨G, 0, none⟩ = some (.int .i64 op) ∧ w'.cell? ⟨G, 1, none⟩ = some (.int .i64 a)) (by kernel_rfl) ?hS25 (fun hHeld => ?rest25)
            case hS25 => exact ⟨k0, k1, k2, k3, k4, k5, k6, k7, x0, x1⟩
            refine tk 0 ?_
            refine tk 1 ?_
            refine tk 2 ?_
            refine tk 14 ?_
            refine wpAnyH_ready (rs := [3]) (by kernel_rfl) (by simp) ?_
            refine AllReadyH.cons rfl (fun KK hK => ?_) AllReadyH.nil
            simp only [xa, xb, xc]
            go_simp
            refine calls_same (HJ.out _) ?_
            have o9 := ((Out.refl 0 0 w8).drew)
            refine hK.out _ _ ?hS30 (fun hHeld2 => ?rest30)
            case hS30 => exact ⟨o9.cell k0 (.inr (Nat.zero_le _)), o9.cell k1 (.inr (Nat.zero_le _)), o9.cell k2 (.inr (Nat.zero_le _)), o9.cell k3 (.inr (Nat.zero_le _)), o9.cell k4 (.inr (Nat.zero_le _)), o9.cell k5 (.inr (Nat.zero_le _)), o9.cell k6 (.inr (Nat.zero_le _)), o9.cell k7 (.inr (Nat.zero_le _)), o9.cell x0 (.inr (Nat.zero_le _)), o9.cell x1 (.inr (Nat.zero_le _))⟩
            clear hK KK
            (try clear hHeld)
            have hHeld := hHeld2
            clear hHeld2
            (try simp only [Act.put, xa, xb, xc, xd, xe, xf])
            refine tk 4 ?_
            refine tk 5 ?_
            refine tk 6 ?_
            refine tk 7 ?_
            refine tk 8 ?_
            refine tk 9 ?_
            refine tk 10 ?_
            refine tk 11 ?_
            refine tk 12 ?_
            refine tk 13 ?_
            refine wpAnyH_ready (rs := [15]) (by kernel_rfl) (by simp) ?_
            refine AllReadyH.cons rfl (fun KK hK => ?_) AllReadyH.nil
            simp only [xa, xb, xc]
            go_simp
            refine (fwant_no P L C (some ⟨q, off, none⟩) n cc k g ta nt tc fa nf fc _ _ _).mono ?_
            rintro e w7 ⟨rfl, o8⟩
            exact ⟨rfl, HO1.out.trans (o9.trans o8), .inr ⟨73, m, HE.out, rfl⟩⟩
        · have HJ : Hid (∀ w : World, Calls Tryd.prog 70 #[.int .i64 op] w fun x w' => x = .returned (.bool false) ∧ w' = w) := hid_mk fun w => by have := HJu.out w; rwa [show juB op = false by simpa using hj] at this
          refine wp_region_held_drew (S := fun w' => w'.cell? ⟨b, 0, none⟩ = some (.int .i64 P) ∧ w'.cell? ⟨b, 1, none⟩ = some (.int .i64 L) ∧ w'.cell? ⟨b, 2, none⟩ = some (.int .i64 C) ∧ w'.cell? ⟨b, 3, none⟩ = some (.slice (some ⟨q, off, none⟩) n cc) ∧ w'.cell? ⟨b, 4, none⟩ = some (.int .i64 k) ∧ w'.cell? ⟨b, 5, none⟩ = some (.int .i64 g) ∧ w'.cell? ⟨b, 6, none⟩ = some (.slice ta nt tc) ∧ w'.cell? ⟨b, 7, none⟩ = some (.slice fa nf fc) ∧ w'.cell? ⟨G, 0, none⟩ = some (.int .i64 op) ∧ w'.cell? ⟨G, 1, none⟩ = some (.int .i64 a)) (by kernel_rfl) ?hS41 (fun hHeld => ?rest41)
          case hS41 => exact ⟨k0, k1, k2, k3, k4, k5, k6, k7, x0, x1⟩
          refine tk 0 ?_
          refine tk 1 ?_
          refine tk 2 ?_
          refine tk 14 ?_
          refine wpAnyH_ready (rs := [3]) (by kernel_rfl) (by simp) ?_
          refine AllReadyH.cons rfl (fun KK hK => ?_) AllReadyH.nil
          simp only [xa, xb, xc]
          go_simp
          refine calls_same (HJ.out _) ?_
          have o9 := ((Out.refl 0 0 w8).drew)
          refine hK.out _ _ ?hS46 (fun hHeld2 => ?rest46)
          case hS46 => exact ⟨o9.cell k0 (.inr (Nat.zero_le _)), o9.cell k1 (.inr (Nat.zero_le _)), o9.cell k2 (.inr (Nat.zero_le _)), o9.cell k3 (.inr (Nat.zero_le _)), o9.cell k4 (.inr (Nat.zero_le _)), o9.cell k5 (.inr (Nat.zero_le _)), o9.cell k6 (.inr (Nat.zero_le _)), o9.cell k7 (.inr (Nat.zero_le _)), o9.cell x0 (.inr (Nat.zero_le _)), o9.cell x1 (.inr (Nat.zero_le _))⟩
          clear hK KK
          (try clear hHeld)
          have hHeld := hHeld2
          clear hHeld2
          (try simp only [Act.put, xa, xb, xc, xd, xe, xf])
          refine tk 4 ?_
          refine tk 5 ?_
          refine sk 6 ?_
          refine sk 7 ?_
          refine sk 8 ?_
          refine sk 9 ?_
          refine sk 10 ?_
          refine sk 11 ?_
          refine sk 12 ?_
          refine tk 13 ?_
          refine wpAnyH_ready (rs := [15]) (by kernel_rfl) (by simp) ?_
          refine AllReadyH.cons rfl (fun KK hK => ?_) AllReadyH.nil
          simp only [xa, xb, xc]
          go_simp
          refine (fwant_yes P L C (some ⟨q, off, none⟩) n cc k g ta nt tc fa nf fc _ _ _).mono ?_
          rintro e w7 ⟨rfl, o8⟩
          replace o9 : Out 0 0 w8 w7 := o9.trans o8
          clear o8
          refine hK.out _ _ ?hS57 (fun hHeld2 => ?rest57)
          case hS57 => exact ⟨o9.cell k0 (.inr (Nat.zero_le _)), o9.cell k1 (.inr (Nat.zero_le _)), o9.cell k2 (.inr (Nat.zero_le _)), o9.cell k3 (.inr (Nat.zero_le _)), o9.cell k4 (.inr (Nat.zero_le _)), o9.cell k5 (.inr (Nat.zero_le _)), o9.cell k6 (.inr (Nat.zero_le _)), o9.cell k7 (.inr (Nat.zero_le _)), o9.cell x0 (.inr (Nat.zero_le _)), o9.cell x1 (.inr (Nat.zero_le _))⟩
          clear hK KK
          (try clear hHeld)
          have hHeld := hHeld2
          clear hHeld2
          (try simp only [Act.put, xa, xb, xc, xd, xe, xf])
          refine wpAnyH_done (by kernel_rfl) ?_ _
          clear hHeld k0 k1 k2 k3 k4 k5 k6 k7 x0 x1
          have HE : Hid (ptI (rtB g nt nf L C) n (m + 1) (cd.drop (m + 1)) = ptI (rtB g nt nf L C) n 0 cd) := hid_mk (by rw [← HP.out, HD.out, ptI_go hr (fun z => hj z.1)])
          clear hj hr
          go_wp2
          exact ⟨⟨m + 1, up_v HG.out.1 (by have := HG.out.2; omega), HG.out.1, HE.out, HBB.out.kept o9 (.inr (Nat.zero_le _)), HO1.out.trans o9⟩, by rw [up_w HG.out.1 (by have := HG.out.2; omega)]; exact ms_n HG.out.1⟩
      · have hr' : rtB g nt nf L C (op, a) = false := by simpa using hr
        have HR : Hid (∀ w' : World, Calls Tryd.prog 69 #[.agg #[.int .i64 P, .int .i64 L, .int .i64 C, .slice (some ⟨q, off, none⟩) n cc, .int .i64 k, .int .i64 g, .slice ta nt tc, .slice fa nf fc], .agg #[.int .i64 op, .int .i64 a]] w' fun x w'' => x = .returned (.bool false) ∧ Out 0 0 w' w'') := hid_mk fun w' => by have := HRt.out w'; rwa [hr'] at this
        have HE : Hid (ptI (rtB g nt nf L C) n 0 cd = some (72, m)) := hid_mk (by rw [← HP.out, HD.out, ptI_72 hr'])
        clear hr hr'
        refine wp_region_held_drew (S := fun w' => w'.cell? ⟨b, 0, none⟩ = some (.int .i64 P) ∧ w'.cell? ⟨b, 1, none⟩ = some (.int .i64 L) ∧ w'.cell? ⟨b, 2, none⟩ = some (.int .i64 C) ∧ w'.cell? ⟨b, 3, none⟩ = some (.slice (some ⟨q, off, none⟩) n cc) ∧ w'.cell? ⟨b, 4, none⟩ = some (.int .i64 k) ∧ w'.cell? ⟨b, 5, none⟩ = some (.int .i64 g) ∧ w'.cell? ⟨b, 6, none⟩ = some (.slice ta nt tc) ∧ w'.cell? ⟨b, 7, none⟩ = some (.slice fa nf fc) ∧ w'.cell? ⟨G, 0, none⟩ = some (.int .i64 op) ∧ w'.cell? ⟨G, 1, none⟩ = some (.int .i64 a)) (by kernel_rfl) ?hS58 (fun hHeld => ?rest58)
        case hS58 => exact ⟨k0, k1, k2, k3, k4, k5, k6, k7, x0, x1⟩
        refine tk 0 ?_
        refine tk 1 ?_
        refine tk 2 ?_
        refine tk 4 ?_
        refine wpAnyH_ready (rs := [3]) (by kernel_rfl) (by simp) ?_
        refine AllReadyH.cons rfl (fun KK hK => ?_) AllReadyH.nil
        simp only [xa, xb, xc]
        go_simp
        refine (HR.out _).mono ?_
        rintro e w9 ⟨rfl, o8⟩
        have o9 : Out 0 0 V2 w9 := ((Out.refl 0 0 V2).drew).trans o8
        clear o8
        refine hK.out _ _ ?hS63 (fun hHeld2 => ?rest63)
        case hS63 => exact ⟨o9.cell k0 (.inr (Nat.zero_le _)), o9.cell k1 (.inr (Nat.zero_le _)), o9.cell k2 (.inr (Nat.zero_le _)), o9.cell k3 (.inr (Nat.zero_le _)), o9.cell k4 (.inr (Nat.zero_le _)), o9.cell k5 (.inr (Nat.zero_le _)), o9.cell k6 (.inr (Nat.zero_le _)), o9.cell k7 (.inr (Nat.zero_le _)), o9.cell x0 (.inr (Nat.zero_le _)), o9.cell x1 (.inr (Nat.zero_le _))⟩
        clear hK KK
        (try clear hHeld)
        have hHeld := hHeld2
        clear hHeld2
        (try simp only [Act.put, xa, xb, xc, xd, xe, xf])
        refine wpAnyH_ready (rs := [5]) (by kernel_rfl) (by simp) ?_
        refine AllReadyH.cons rfl (fun KK hK => ?_) AllReadyH.nil
        simp only [xa, xb, xc]
        go_simp
        refine (fwant_no P L C (some ⟨q, off, none⟩) n cc k g ta nt tc fa nf fc _ _ _).mono ?_
        rintro e w7 ⟨rfl, o8⟩
        exact ⟨rfl, HO1.out.trans (o9.trans o8), .inr ⟨72, m, HE.out, rfl⟩⟩
    · obtain rfl : m = n := by omega
      have l1 : decide ((m : Int) < (m : Int)) = false := by simp
      have HE : Hid (ptI (rtB g nt nf L C) m 0 cd = none) := hid_mk (by rw [← HP.out, List.drop_of_length_le (by have := HH.out.2.1; omega)]; rfl)
      clear hgo hp hB ho
      go_wp2
      exact bodyPost_end (results_none Tryd.results56 _ _ _) rfl ⟨HO1.out, .inl ⟨HE.out, rfl⟩⟩
theorem parts_any {w : World} (P L C : Int) (ca : Option Addr) (n cc : Nat) (k g : Int) (ta : Option Addr) (nt tc : Nat) (fa : Option Addr) (nf fc : Nat) {B : Nat} {cd : List (Int × Int)} (hcode : InIn w B ca cd) (hcl : cd.length = n) (hn : n ≤ 4096) (hB : B ≤ w.heap.size) (hok : ∀ x ∈ cd, okI x) :
    Calls Tryd.prog 56 #[.agg #[.int .i64 P, .int .i64 L, .int .i64 C, .slice ca n cc, .int .i64 k, .int .i64 g, .slice ta nt tc, .slice fa nf fc]] w (CpQ w k (paF P L C g nt nf n cd)) := by
  unfold paF
  by_cases h : L < P ∨ n = 0
  · rw [if_pos h]
    refine parts_bad P L C ca n cc k g ta nt tc fa nf fc (b1 := decide (P ≤ L)) (b2 := decide (0 < n)) rfl (by rw [decide_eq_decide]; omega) rfl ?_
    by_cases h1 : P ≤ L <;> by_cases h2 : 0 < n <;> simp [h1, h2] <;> omega
  · rw [if_neg h]
    exact parts_good P L C ca n cc k g ta nt tc fa nf fc hcode hcl hn hB hok (by simp; omega) (by simp; omega) (by simp; omega)
end Go.Proofs.YtkghabmgofgclaaDoor
