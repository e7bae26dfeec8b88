/- package check: the ways through a function -/
import Derived.Test.YthijkfcobkdihaaDoorCkl
namespace Go.Proofs.YthijkfcobkdihaaDoor
open Go.RowKit
set_option linter.unusedVariables false
set_option linter.unusedSimpArgs false

/-- what is asked of an instruction ahead of the ways -/
def OkX (nf n : Nat) (fs : List (Int × Int × Int × List (Int × Int))) (x : Int × Int) : Prop := opS x.1 ≠ 0 ∧ (x.1 = 16 → 0 ≤ x.2 ∧ x.2 < (nf : Int)) ∧ (x.1 = 17 ∨ x.1 = 18 → 0 ≤ x.2 ∧ x.2 ≤ 8) ∧ (juB x.1 = true → 0 ≤ x.2 ∧ x.2 < (n : Int)) ∧ 0 ≤ tkV fs x ∧ tkV fs x ≤ 64
/-- how much is still to be done -/
def mW (w : World) (p dg : Nat) (ok : Value) : Nat :=
  (match w.heap[dg]? with
    | some (.cells cs _ _) => (cs.toList.filter fun v => match v with
      | .int _ x => x == -1
      | _ => false).length
    | _ => 0) + (match w.cell? ⟨p, 9, none⟩ with
    | some (.slice _ l _) => l
    | _ => 0) + (match ok with
    | .bool true => 1
    | _ => 0)
theorem unk_cells (D : List Int) : ((ivs D).filter fun v => match v with
      | .int _ x => x == -1
      | _ => false).length = unk D := by
  unfold unk ivs
  rw [List.filter_map, List.length_map]
  rfl
theorem mW_is {w : World} (P L C : Int) (ca : Option Addr) (n cc : Nat) (k g : Int) (ta : Option Addr) (nt tc : Nat) (fa : Option Addr) (nf fc : Nat) {p dg : Nat} {D : List Int} {R : List Nat} {ro : Option Nat} (h : WK w P L C ca n cc k g ta nt tc fa nf fc p dg D R ro) (b : Bool) : mW w p dg (.bool b) = unk D + R.length + (if b then 1 else 0) := by
  obtain ⟨ra, rc, b1, b2, b3, b4, b5, b6⟩ := h
  have c9 := b1.cell (i := 9) rfl
  unfold Bl at b2
  unfold mW
  rw [b2, c9]
  simp only []
  have := unk_cells D
  cases b <;> simp_all
theorem wy_nil {tk : Int × Int → Int} {C : List (Int × Int)} {k : Nat} {D : List Int} : wyF tk C k (D, []) = .inr D := by cases k <;> rfl
theorem out_lo {w w1 w2 : World} {dg : Nat} (h : Out 0 0 w w1) (g : Lo dg w1 w2) (hd : w.heap.size ≤ dg) : Out 0 0 w w2 :=
  ⟨g.1.trans h.1, g.2.1.trans h.2.1, g.2.2.1.trans h.2.2.1, Nat.le_trans h.size g.size, fun k h1 h2 => (g.2.2.2.2 k (Nat.lt_of_lt_of_le h1 h.size) (by omega)).trans (h.block h1 h2)⟩
theorem len_below : ∀ {n : Nat} {R : List Nat}, R.Pairwise (· < ·) → (∀ j ∈ R, j < n) → R.length ≤ n
  | n, [], _, _ => Nat.zero_le _
  | n, a :: R, h, hn => by
    rw [List.pairwise_cons] at h
    have h1 := hn a (List.mem_cons.2 (.inl rfl))
    have key : ∀ {R : List Nat} {a n : Nat}, R.Pairwise (· < ·) → (∀ j ∈ R, a < j) → (∀ j ∈ R, j < n) → a < n → R.length + a + 1 ≤ n := by
      intro R
      induction R with
      | nil => intro a n _ _ _ h; simp only [List.length_nil]; omega
      | cons b R ih =>
        intro a n hs h2 h3 h4
        rw [List.pairwise_cons] at hs
        have hb := h2 b (List.mem_cons.2 (.inl rfl))
        have := ih (a := b) (n := n) hs.2 hs.1 (fun j hj => h3 j (List.mem_cons.2 (.inr hj))) (h3 b (List.mem_cons.2 (.inl rfl)))
        simp only [List.length_cons]
        omega
    have := key h.2 h.1 (fun j hj => hn j (List.mem_cons.2 (.inr hj))) h1
    simp only [List.length_cons]
    omega
theorem wo_len {n : Nat} {s : List Int × List Nat} (h : WO n s) (hn : n ≤ 4096) : s.2.length ≤ 4500 := by
  have : s.2.length ≤ n := len_below h.2.2.1 (fun j hj => h.in hj)
  omega
/-- what 'ways' tells -/
def WyQ (w : World) (k : Int) (n : Nat) (o : Sum (Int × Nat) (List Int)) (e : Ending) (w' : World) : Prop := Out 0 0 w w' ∧ ((∃ D dg, o = .inr D ∧ e = .returned (.slice (some ⟨dg, 0, none⟩) n n) ∧ Bl w' dg (ivs D).toArray 3 ∧ w.heap.size ≤ dg) ∨ (∃ er i, o = .inl (er, i) ∧ e = .panicked [badP er k i]))
set_option maxRecDepth 100000 in
set_option maxHeartbeats 2000000 in
theorem ways_any {w : World} (P L C : Int) (ca : Option Addr) (n cc : Nat) (k g : Int) (ta : Option Addr) (nt tc : Nat) (fa : Option Addr) (nf fc : Nat) {B : Nat} {fs : List (Int × Int × Int × List (Int × Int))} {cd : List (Int × Int)} (hcode : InIn w B ca cd) (hcl : cd.length = n) (hn0 : 0 < n) (hn : n ≤ 4096) (hfs : FnIn w B fa fs) (hnf : fs.length = nf) (hB : B ≤ w.heap.size) (hok : ∀ x ∈ cd, OkX nf n fs x) :
    Calls Tryd.prog 53 #[.agg #[.int .i64 P, .int .i64 L, .int .i64 C, .slice ca n cc, .int .i64 k, .int .i64 g, .slice ta nt tc, .slice fa nf fc]] w (WyQ w k n (wyA fs cd)) := by
  obtain ⟨b, hb⟩ : ∃ b, w.heap.size = b := ⟨_, rfl⟩
  obtain ⟨V, hV⟩ : ∃ V, w.alloc (.cells #[.int .i64 P, .int .i64 L, .int .i64 C, .slice ca n cc, .int .i64 k, .int .i64 g, .slice ta nt tc, .slice fa nf fc] 83) = V := ⟨_, rfl⟩
  have oV : Out 0 0 w V := by rw [← hV]; exact (Out.refl 0 0 w).alloc _
  have B0 : Bl V b #[.int .i64 P, .int .i64 L, .int .i64 C, .slice ca n cc, .int .i64 k, .int .i64 g, .slice ta nt tc, .slice fa nf fc] 83 := by rw [← hV, ← hb]; exact Bl.new _ _ _
  have HB0 := hid_mk B0
  have k0 := B0.cell (i := 0) rfl; have k1 := B0.cell (i := 1) rfl; have k2 := B0.cell (i := 2) rfl; have k3 := B0.cell (i := 3) rfl; have k4 := B0.cell (i := 4) rfl; have k5 := B0.cell (i := 5) rfl; have k6 := B0.cell (i := 6) rfl; have k7 := B0.cell (i := 7) rfl
  have HO := hid_mk oV
  have HN := hid_mk (And.intro hn0 hn)
  have HH := hid_mk (And.intro hcode (And.intro hcl (And.intro hfs (And.intro hnf (And.intro hB hok)))))
  have HBZ : Hid (w.heap.size = b) := hid_mk hb
  clear hn0 hn hcode hcl hfs hnf hok hB oV B0
  go_enter Tryd.func53, Tryd.ntmps53
  go_wp2_with fail
  (try rw [hV])
  (try rw [hb])
  clear hV hb
  obtain ⟨V1, hV1⟩ : ∃ V1, V.drew = V1 := ⟨_, rfl⟩
  refine wp_region_held_drew (S := fun w' => w'.cell? ⟨b, 0, none⟩ = some (.int .i64 P) ∧ w'.cell? ⟨b, 1, none⟩ = some (.int .i64 L) ∧ w'.cell? ⟨b, 2, none⟩ = some (.int .i64 C) ∧ w'.cell? ⟨b, 3, none⟩ = some (.slice ca n cc) ∧ w'.cell? ⟨b, 4, none⟩ = some (.int .i64 k) ∧ w'.cell? ⟨b, 5, none⟩ = some (.int .i64 g) ∧ w'.cell? ⟨b, 6, none⟩ = some (.slice ta nt tc) ∧ w'.cell? ⟨b, 7, none⟩ = some (.slice fa nf fc)) (by kernel_rfl) ?hS1 (fun hHeld => ?rest1)
  case hS1 => exact ⟨k0, k1, k2, k3, k4, k5, k6, k7⟩
  refine tk 0 ?_
  refine tk 2 ?_
  refine tk 3 ?_
  refine tk 4 ?_
  refine tk 5 ?_
  refine wpAnyH_ready (rs := [1]) (by kernel_rfl) (by simp) ?_
  refine AllReadyH.cons rfl (fun KK hK => ?_) AllReadyH.nil
  simp only [xa, xb, xc]
  go_simp
  obtain ⟨X1, hX1⟩ : ∃ X1, V1.alloc (.cells #[.int .i64 (-1)] 3) = X1 := ⟨_, rfl⟩
  obtain ⟨y1, hy1⟩ : ∃ y1, V1.heap.size = y1 := ⟨_, rfl⟩
  rw [hX1, hy1]
  have o9 : Out 0 0 V X1 := by rw [← hX1, ← hV1]; exact ((Out.refl 0 0 V).drew).alloc _
  have HX1 : Hid (Bl X1 y1 #[.int .i64 (-1)] 3) := hid_mk (by rw [← hX1, ← hy1]; exact Bl.new _ _ _)
  clear hX1 hy1
  refine hK.out _ _ ?hS7 (fun hHeld2 => ?rest7)
  case hS7 => exact ⟨o9.cell k0 (.inr (Nat.zero_le _)), o9.cell k1 (.inr (Nat.zero_le _)), o9.cell k2 (.inr (Nat.zero_le _)), o9.cell k3 (.inr (Nat.zero_le _)), o9.cell k4 (.inr (Nat.zero_le _)), o9.cell k5 (.inr (Nat.zero_le _)), o9.cell k6 (.inr (Nat.zero_le _)), o9.cell k7 (.inr (Nat.zero_le _))⟩
  clear hK KK
  (try clear hHeld)
  have hHeld := hHeld2
  clear hHeld2
  (try simp only [Act.put, xa, xb, xc, xd, xe, xf])
  refine wpAnyH_ready (rs := [6]) (by kernel_rfl) (by simp) ?_
  refine AllReadyH.cons rfl (fun KK hK => ?_) AllReadyH.nil
  simp only [xa, xb, xc]
  go_simp
  refine (repeat_any HN.out.1 HN.out.2 HX1.out).mono ?_
  rintro e X2 ⟨dg, rfl, hd, o8, hdg⟩
  have HD := hid_mk hd
  have HDG : Hid (b ≤ dg) := hid_mk (by have := HBZ.out; have := HO.out.size; have := o9.size; omega)
  replace o9 : Out 0 0 V X2 := o9.trans o8
  clear o8 hd hdg HX1
  refine hK.out _ _ ?hS8 (fun hHeld2 => ?rest8)
  case hS8 => exact ⟨o9.cell k0 (.inr (Nat.zero_le _)), o9.cell k1 (.inr (Nat.zero_le _)), o9.cell k2 (.inr (Nat.zero_le _)), o9.cell k3 (.inr (Nat.zero_le _)), o9.cell k4 (.inr (Nat.zero_le _)), o9.cell k5 (.inr (Nat.zero_le _)), o9.cell k6 (.inr (Nat.zero_le _)), o9.cell k7 (.inr (Nat.zero_le _))⟩
  clear hK KK
  (try clear hHeld)
  have hHeld := hHeld2
  clear hHeld2
  (try simp only [Act.put, xa, xb, xc, xd, xe, xf])
  refine tk 7 ?_
  refine wpAnyH_ready (rs := [8]) (by kernel_rfl) (by simp) ?_
  refine AllReadyH.cons rfl (fun KK hK => ?_) AllReadyH.nil
  simp only [xa, xb, xc]
  go_simp
  obtain ⟨X3, hX3⟩ : ∃ X3, X2.alloc (.cells #[.int .i64 P, .int .i64 L, .int .i64 C, .slice ca n cc, .int .i64 k, .int .i64 g, .slice ta nt tc, .slice fa nf fc, .slice (some ⟨dg, 0, none⟩) n n, .slice none 0 0] 135) = X3 := ⟨_, rfl⟩
  obtain ⟨p, hp⟩ : ∃ p, X2.heap.size = p := ⟨_, rfl⟩
  rw [hX3, hp]
  have o8 : Out 0 0 X2 X3 := by rw [← hX3]; exact (Out.refl 0 0 X2).alloc _
  have HX3 : Hid (Bl X3 p #[.int .i64 P, .int .i64 L, .int .i64 C, .slice ca n cc, .int .i64 k, .int .i64 g, .slice ta nt tc, .slice fa nf fc, .slice (some ⟨dg, 0, none⟩) n n, .slice none 0 0] 135) := hid_mk (by rw [← hX3, ← hp]; exact Bl.new _ _ _)
  replace o9 : Out 0 0 V X3 := o9.trans o8
  have HP : Hid (dg < p) := hid_mk (hp ▸ HD.out.lt)
  replace HD := hid_mk (HD.out.kept o8 (.inr (Nat.zero_le _)))
  clear o8 hX3 hp
  refine hK.out _ _ ?hS10 (fun hHeld2 => ?rest10)
  case hS10 => exact ⟨o9.cell k0 (.inr (Nat.zero_le _)), o9.cell k1 (.inr (Nat.zero_le _)), o9.cell k2 (.inr (Nat.zero_le _)), o9.cell k3 (.inr (Nat.zero_le _)), o9.cell k4 (.inr (Nat.zero_le _)), o9.cell k5 (.inr (Nat.zero_le _)), o9.cell k6 (.inr (Nat.zero_le _)), o9.cell k7 (.inr (Nat.zero_le _))⟩
  clear hK KK
  (try clear hHeld)
  have hHeld := hHeld2
  clear hHeld2
  (try simp only [Act.put, xa, xb, xc, xd, xe, xf])
  refine tk 9 ?_
  refine wpAnyH_done (by kernel_rfl) ?_ _
  clear hHeld k0 k1 k2 k3 k4 k5 k6 k7
  have HW : Hid (WK X3 P L C ca n cc k g ta nt tc fa nf fc p dg (List.replicate n (-1)) [] none) := hid_mk ⟨none, 0, HX3.out, HD.out, List.length_replicate, World.ownsRow_nil _ _ _ 1, HP.out, rfl⟩
  replace HO := hid_mk (HO.out.trans o9)
  clear o9 HX3 HD HB0 hV1 V1
  have HB : Hid (B ≤ dg) := hid_mk (by have := HDG.out; have := HBZ.out; have := HH.out.2.2.2.2.1; omega)
  go_wp2_with (first
    | (go_at_call 74; refine (meet_any P L C ca n cc k g ta nt tc fa nf fc HW.out 0 0 HN.out.1 (by simp) (by simp) (by simp)).mono ?_; rintro e w2 ⟨rfl, ro2, h2, h3⟩; have H2 := hid_mk h2; replace HO := hid_mk (out_lo HO.out (HW.out.lo h3) (by have := HDG.out; have := HBZ.out; omega)); clear h2 h3 HW)
    | (go_at_call 75; refine (wtake_some P L C ca n cc k g ta nt tc fa nf fc (i := 0) (R := []) H2.out (by simp)).mono ?_; rintro e w3 ⟨rfl, h2, h3⟩; have HW := hid_mk h2; replace HO := hid_mk (out_lo HO.out (H2.out.lo h3) (by have := HDG.out; have := HBZ.out; omega)); clear h2 h3))
  go_loopw [4, 5] (fun x ok wr => ∃ D R ro, WK wr P L C ca n cc k g ta nt tc fa nf fc p dg D R ro ∧ Out 0 0 w wr ∧ ((ok = .bool true ∧ ∃ i0 : Nat, x = .int .i64 i0 ∧ WO n (D, i0 :: R) ∧ wyF (tkV fs) cd (unk D + (R.length + 1)) (D, i0 :: R) = wyA fs cd) ∨ (ok = .bool false ∧ R = [] ∧ wyA fs cd = .inr D))) (fun _ ok wr => mW wr p dg ok)
  case atStart =>
    refine ⟨_, _, _, HW.out, HO.out, .inl ⟨rfl, 0, rfl, ?_, ?_⟩⟩
    · exact (wo_start HN.out.1).1
    · have := (wo_start HN.out.1).2
      unfold wyA
      rw [HH.out.2.1]
      show wyF (tkV fs) cd (unk (wy0 n).1 + (wy0 n).2.length) (wy0 n) = _
      rw [this]
  case round =>
    obtain ⟨D, R, ro, h1, h2, ⟨rfl, i0, rfl, h3, h4⟩ | ⟨rfl, rfl, h4⟩⟩ := hrel
    · have H1 := hid_mk h1
      have H2 := hid_mk h2
      have H3 := hid_mk h3
      have H4 := hid_mk h4
      have hi0 := h3.in (List.mem_cons.2 (.inl rfl))
      obtain ⟨hcode, hcl, hfs, hnf, hB, hok⟩ := HH.out
      have hlen : R.length ≤ 4500 := wo_len h3.tail HN.out.2
      obtain ⟨⟨op, a⟩, hx⟩ : ∃ x, cd[i0]? = some x := ⟨_, List.getElem?_eq_getElem (by omega)⟩
      obtain ⟨q1, q2, q3, q4, q5⟩ := hok (op, a) (List.mem_of_getElem? hx)
      obtain ⟨di, hdi, -⟩ := h3.2.2.2 i0 (List.mem_cons.2 (.inl rfl))
      have HT := hid_mk (thr_any P L C ca n cc k g ta nt tc fa nf fc h1 h3.tail (hcode.kept (Lo.of_out h2) (Nat.le_refl _)) hcl HN.out.2 (hfs.kept (Lo.of_out h2) (Nat.le_refl _)) hnf HB.out hx q1 q2 q3 q4 q5 hdi hlen)
      have HSt : Hid (∀ o, stF (tkV fs (op, a)) n i0 (op, a) (D, R) = o → (match o with
        | .inl e => Sum.inl (e, i0)
        | .inr s => wyF (tkV fs) cd (unk D + R.length) s) = wyA fs cd) := hid_mk (by
        intro o ho
        rw [← h4, show unk D + (R.length + 1) = unk D + R.length + 1 by omega]
        have hgx : cd.getD i0 (0, 0) = (op, a) := by rw [List.getD_eq_getElem?_getD, hx]; rfl
        simp only [wyF, hgx, hcl, ho]
        rcases o with e | s <;> rfl)
      clear h1 h2 h3 h4 hi0 hcode hcl hfs hnf hB hok hlen hx q1 q2 q3 q4 q5 hdi
      go_wp2_with fail
      refine HT.out.mono ?_
      rintro e w4 (⟨⟨D4, R4⟩, ro4, z1, rfl, z2, z3⟩ | ⟨er, z1, rfl, z2⟩)
      · have hS := HSt.out _ z1
        simp only [] at hS
        obtain ⟨t1, t2⟩ := st_wo H3.out.tail z1
        simp only [] at t2 z2
        have HS := hid_mk hS
        have HW4 := hid_mk t1
        have HM4 := hid_mk t2
        have HK4 := hid_mk z2
        have HO4 := hid_mk (out_lo H2.out (H1.out.lo z3) (by have := HDG.out; have := HBZ.out; omega))
        clear hS t1 t2 z1 z2 z3 HT HSt
        cases R4 with
        | nil =>
          go_wp2_with (go_at_call 75; refine calls_same (wtake_none P L C ca n cc k g ta nt tc fa nf fc HK4.out) ?_)
          go_roundw
          case rel => exact ⟨D4, [], ro4, HK4.out, HO4.out, .inr ⟨rfl, rfl, by rw [← HS.out]; exact wy_nil⟩⟩
          case measure =>
            rw [mW_is P L C ca n cc k g ta nt tc fa nf fc HK4.out false, mW_is P L C ca n cc k g ta nt tc fa nf fc H1.out true]
            have := HM4.out
            simp at this ⊢
            omega
        | cons j R5 =>
          go_wp2_with (go_at_call 75; refine (wtake_some P L C ca n cc k g ta nt tc fa nf fc HK4.out (by have := wo_len HW4.out HN.out.2; simp at this; omega)).mono ?_; rintro e w5 ⟨rfl, y2, y3⟩; have HK5 := hid_mk y2; have HO5 := hid_mk (out_lo HO4.out (HK4.out.lo y3) (by have := HDG.out; have := HBZ.out; omega)); clear y2 y3)
          go_roundw
          case rel =>
            refine ⟨D4, R5, ro4, HK5.out, HO5.out, .inl ⟨rfl, j, rfl, HW4.out, ?_⟩⟩
            have := HM4.out
            simp only [List.length_cons] at this
            rw [this]
            exact HS.out
          case measure =>
            rw [mW_is P L C ca n cc k g ta nt tc fa nf fc HK5.out true, mW_is P L C ca n cc k g ta nt tc fa nf fc H1.out true]
            have := HM4.out
            simp at this ⊢
            omega
      · have hS := HSt.out _ z1
        simp only [] at hS
        refine ⟨rfl, out_lo H2.out z2 (by have := HDG.out; have := HBZ.out; omega), .inr ⟨er, i0, hS.symm, rfl⟩⟩
    · have H1 := hid_mk h1
      have H2 := hid_mk h2
      have H4 := hid_mk h4
      obtain ⟨ra, rc, BK, b2, b3, b4, b5, b6⟩ := h1
      have k8 := BK.cell (i := 8) rfl
      have HB2 := hid_mk b2
      clear h2 h4 BK b2 b3 b4 b5 b6
      go_wp2
      go_ret
      exact ⟨H2.out, .inl ⟨D, dg, H4.out, rfl, HB2.out, by have := HDG.out; have := HBZ.out; omega⟩⟩
end Go.Proofs.YthijkfcobkdihaaDoor
