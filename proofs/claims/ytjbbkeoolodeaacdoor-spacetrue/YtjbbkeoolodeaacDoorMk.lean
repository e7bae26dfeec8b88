import Derived.Test.YtjbbkeoolodeaacDoorMj
namespace Go.Proofs.YtjbbkeoolodeaacDoor
open Go.RowKit
set_option linter.unusedVariables false
set_option linter.unusedSimpArgs false

/-- the cells of a plan -/
def plF (q : Nat) (tb : Value) (fr fs : Nat → Int) : Nat → Value := fun i => if i = 0 then .pointer (some ⟨q, 0, none⟩) else if i = 1 then tb else if i < 10 then .int .i64 (fr (i - 2)) else .int .i64 (fs (i - 10))
/-- the plan's table is the space's, or a copy of its own: T -/
def TbAt (w : World) (B G n : Nat) (S T : Nat → Int × Int × Int) (tb : Value) : Prop :=
  (tb = .pointer none ∧ T = S) ∨ ∃ b bw, tb = .pointer (some ⟨b, 0, none⟩) ∧ TblAt 122 w b bw n T ∧ B ≤ b ∧ B ≤ bw ∧ b ≠ G ∧ bw ≠ G
theorem plF_cells {w : World} {G q : Nat} {tb : Value} {fr fs : Nat → Int} (h : Row w G 80 18 (plF q tb fr fs)) :
    w.cell? ⟨G, 0, none⟩ = some (.pointer (some ⟨q, 0, none⟩)) ∧ w.cell? ⟨G, 1, none⟩ = some tb ∧ (∀ c, c < 8 → w.cell? ⟨G, 2 + c, none⟩ = some (.int .i64 (fr c))) ∧ (∀ c, c < 8 → w.cell? ⟨G, 10 + c, none⟩ = some (.int .i64 (fs c))) := by
  refine ⟨h.cell (by omega), h.cell (by omega), fun c hc => ?_, fun c hc => ?_⟩
  · rw [h.cell (i := 2 + c) (by omega)]
    unfold plF
    rw [if_neg (by omega), if_neg (by omega), if_pos (by omega), show 2 + c - 2 = c from by omega]
  · rw [h.cell (i := 10 + c) (by omega)]
    unfold plF
    rw [if_neg (by omega), if_neg (by omega), if_neg (by omega), show 10 + c - 10 = c from by omega]
theorem plF_setT {w : World} {G q : Nat} {tb : Value} {fr fs : Nat → Int} (h : Row w G 80 18 (plF q tb fr fs)) (v : Value) : Row (w.setCell ⟨G, 1, none⟩ v) G 80 18 (plF q v fr fs) :=
  (h.set 1 v).congr fun i hi => by
    unfold plF
    by_cases e : i = 1
    · subst e; rfl
    · rw [if_neg e, if_neg e, if_neg e]
section
variable {w : World} {lo hi n cap : Nat} {s : Nat → Nat} {r : Raw}
set_option maxRecDepth 100000 in
set_option maxHeartbeats 4000000 in
theorem planPages_any (h : RawAt w lo hi s n cap r) {B G : Nat} {T : Nat → Int × Int × Int} {tb : Value} {fr fs : Nat → Int} (hB : hi ≤ B) (hG : B ≤ G) (hp : Row w G 80 18 (plF (s 14) tb fr fs)) (ht : TbAt w B G n r.S T tb) :
    Calls Tryd.prog 53 #[.pointer (some ⟨G, 0, none⟩)] w fun e w' => ∃ b bw, e = .returned (.pointer (some ⟨b, 0, none⟩)) ∧ TblAt 122 w' b bw n T ∧ B ≤ b ∧ B ≤ bw ∧ b ≠ G ∧ bw ≠ G ∧ Row w' G 80 18 (plF (s 14) (.pointer (some ⟨b, 0, none⟩)) fr fs) ∧ Out G (G + 1) w w' := by
  have hlt := Row.lt hp
  have hw4 := h.tab.lt
  rcases ht with ⟨rfl, rfl⟩ | ⟨b, bw, rfl, hT, h1, h2, h3, h4⟩
  · have HC := hid_mk (copy_any h.tbl hw4)
    obtain ⟨p0, p1, _, _⟩ := plF_cells hp
    obtain ⟨d0, d1, d2, d3, d4, d5⟩ := h.cells
    have HP := hid_mk hp
    have HD : Hid (hi ≤ B ∧ B ≤ G ∧ G < w.heap.size) := ⟨hB, hG, hlt⟩
    clear hp h hB hG hlt hw4
    go_enter Tryd.func53, Tryd.ntmps53
    go_wp2_with (go_at_call 78; refine HC.out.mono ?_; rintro e w2 ⟨b, bw, rfl, hT, hb1, hb2, ho⟩; have HT := hid_mk hT; have HB : Hid (w.heap.size ≤ b ∧ w.heap.size ≤ bw) := ⟨hb1, hb2⟩; have HO := hid_mk ho; have HP2 := hid_mk (HP.out.kept ho (.inr (Nat.zero_le _))); obtain ⟨q0, q1, _, _⟩ := plF_cells HP2.out; have fz := Row.frozen HP2.out 1; clear hT hb1 hb2 ho p0 p1 d0 d1 d2 d3 d4 d5)
    go_ret
    have hset := (Out.refl G (G + 1) w2).setCell (p := ⟨G, 1, none⟩) (.inl ⟨Nat.le_refl _, Nat.lt_succ_self _⟩) (.pointer (some ⟨b, 0, none⟩))
    have hd := HD.out
    have hb := HB.out
    exact ⟨b, bw, rfl, HT.out.kept hset (by omega) (by omega), by omega, by omega, by omega, by omega, plF_setT HP2.out _, (HO.out.any G (G + 1)).trans hset⟩
  · obtain ⟨p0, p1, _, _⟩ := plF_cells hp
    have HP := hid_mk hp
    have HT := hid_mk hT
    have HD : Hid (B ≤ b ∧ B ≤ bw ∧ b ≠ G ∧ bw ≠ G) := ⟨h1, h2, h3, h4⟩
    clear hp hT h1 h2 h3 h4
    go_enter Tryd.func53, Tryd.ntmps53
    go_wp2
    go_ret
    exact ⟨b, bw, rfl, HT.out, HD.out.1, HD.out.2.1, HD.out.2.2.1, HD.out.2.2.2, HP.out, Out.refl _ _ _⟩
end
end Go.Proofs.YtjbbkeoolodeaacDoor
namespace Go.Proofs.YtjbbkeoolodeaacDoor
open Go.RowKit
set_option linter.unusedVariables false
set_option linter.unusedSimpArgs false

def updI (f : Nat → Int) (c : Nat) (v : Int) : Nat → Int := fun i => if i = c then v else f i
def plB (n : Nat) (r : Raw) (T : Nat → Int × Int × Int) (fr fs : Nat → Int) (c : Nat) : Bool × (Nat → Int × Int × Int) × (Nat → Int) × (Nat → Int) :=
  if 0 < fs c then (true, T, fr, updI fs c (fs c - 1))
  else if 0 ≤ nxr (r.F c) (64 * n) (fr c).toNat then (true, T, updI fr c (nxr (r.F c) (64 * n) (fr c).toNat + 1), fs)
  else if tcE T n (c : Int) = 0 then (true, tcS T n (c : Int), fr, updI fs c (blocksV (c : Int) - 1))
  else (false, tcS T n (c : Int), fr, fs)
theorem plF_setS {w : World} {G q : Nat} {tb : Value} {fr fs : Nat → Int} (h : Row w G 80 18 (plF q tb fr fs)) {c : Nat} (hc : c < 8) (v : Int) : Row (w.setCell ⟨G, 10 + c, none⟩ (.int .i64 v)) G 80 18 (plF q tb fr (updI fs c v)) :=
  (h.set (10 + c) _).congr fun i hi => by
    unfold plF updI
    by_cases e : i = 10 + c
    · rw [if_pos e, if_neg (by omega), if_neg (by omega), if_neg (by omega), if_pos (by omega)]
    · rw [if_neg e]
      by_cases e0 : i = 0
      · rw [if_pos e0, if_pos e0]
      · rw [if_neg e0, if_neg e0]
        by_cases e1 : i = 1
        · rw [if_pos e1, if_pos e1]
        · rw [if_neg e1, if_neg e1]
          by_cases e2 : i < 10
          · rw [if_pos e2, if_pos e2]
          · rw [if_neg e2, if_neg e2, if_neg (by omega)]
theorem plF_setF {w : World} {G q : Nat} {tb : Value} {fr fs : Nat → Int} (h : Row w G 80 18 (plF q tb fr fs)) {c : Nat} (hc : c < 8) (v : Int) : Row (w.setCell ⟨G, 2 + c, none⟩ (.int .i64 v)) G 80 18 (plF q tb (updI fr c v) fs) :=
  (h.set (2 + c) _).congr fun i hi => by
    unfold plF updI
    by_cases e : i = 2 + c
    · rw [if_pos e, if_neg (by omega), if_neg (by omega), if_pos (by omega), if_pos (by omega)]
    · rw [if_neg e]
      by_cases e0 : i = 0
      · rw [if_pos e0, if_pos e0]
      · rw [if_neg e0, if_neg e0]
        by_cases e1 : i = 1
        · rw [if_pos e1, if_pos e1]
        · rw [if_neg e1, if_neg e1]
          by_cases e2 : i < 10
          · rw [if_pos e2, if_pos e2, if_neg (by omega)]
          · rw [if_neg e2, if_neg e2]
section
variable {w : World} {lo hi n cap : Nat} {s : Nat → Nat} {r : Raw} {B G : Nat} {T : Nat → Int × Int × Int} {tb : Value} {fr fs : Nat → Int}
set_option maxRecDepth 100000 in
set_option maxHeartbeats 4000000 in
theorem plB_fresh (hp : Row w G 80 18 (plF (s 14) tb fr fs)) {c : Nat} (hc : c < 8) (hf : 0 < fs c) (hf2 : fs c ≤ 32) :
    Calls Tryd.prog 56 #[.pointer (some ⟨G, 0, none⟩), .int .i64 (c : Int)] w fun e w' => e = .returned (.bool true) ∧ Row w' G 80 18 (plF (s 14) tb fr (updI fs c (fs c - 1))) ∧ Out G (G + 1) w w' := by
  have hpd := hp.kept ((Out.refl 0 0 w).drew) (.inr (Nat.zero_le _))
  have p3 := (plF_cells hp).2.2.2 c hc
  have p4 := (plF_cells hpd).2.2.2 c hc
  have fz := Row.frozen hpd (10 + c)
  have k0 : (0 : Int) ≤ (c : Int) := by omega
  have k1 : (c : Int) < 8 := by omega
  have HP := hid_mk hp
  have HC := hid_mk hc
  obtain ⟨x, hx⟩ : ∃ x, fs c = x := ⟨_, rfl⟩
  rw [hx] at p3 p4 hf hf2 ⊢
  have HWR : Hid (IntKind.i64.wrap (x - 1) = x - 1) := by show _ = _; simp [IntKind.wrap, IntKind.signed, IntKind.bits]; omega
  clear hp hpd hc hx
  go_enter Tryd.func56, Tryd.ntmps56
  go_wp2_with fail
  refine wp_region_held_drew (S := fun _ => True) (by kernel_rfl) ?hS1 (fun hHeld => ?rest1)
  case hS1 => trivial
  refine wpAnyH_take (i := 0) (v := ?v2) rfl (by kernel_rfl) (by kernel_rfl) (by kernel_rfl) (fun _ _ _ h => h) (Or.inl ⟨by rfl, ?hy2⟩) (by assumption) ?rest2
  case hy2 => (intro w hSw; (try dsimp only at hSw); simp only [List.getElem_toArray, List.getElem_cons_zero, List.getElem_cons_succ]; go_simp; (try with_reducible rfl))
  (try simp only [Act.put, List.getElem_toArray, List.getElem_cons_zero, List.getElem_cons_succ, List.setIfInBounds_toArray, List.set_cons_zero, List.set_cons_succ])
  refine wpAnyH_take (i := 1) (v := ?v3) rfl (by kernel_rfl) (by kernel_rfl) (by kernel_rfl) (fun _ _ _ h => h) (Or.inl ⟨by rfl, ?hy3⟩) (by assumption) ?rest3
  case hy3 => (intro w hSw; (try dsimp only at hSw); simp only [List.getElem_toArray, List.getElem_cons_zero, List.getElem_cons_succ]; go_simp; (try with_reducible rfl))
  (try simp only [Act.put, List.getElem_toArray, List.getElem_cons_zero, List.getElem_cons_succ, List.setIfInBounds_toArray, List.set_cons_zero, List.set_cons_succ])
  refine wpAnyH_take (i := 2) (v := ?v4) rfl (by kernel_rfl) (by kernel_rfl) (by kernel_rfl) (fun _ _ _ h => h) (Or.inl ⟨by rfl, ?hy4⟩) (by assumption) ?rest4
  case hy4 => (intro w hSw; (try dsimp only at hSw); simp only [List.getElem_toArray, List.getElem_cons_zero, List.getElem_cons_succ]; go_simp; (try with_reducible rfl))
  (try simp only [Act.put, List.getElem_toArray, List.getElem_cons_zero, List.getElem_cons_succ, List.setIfInBounds_toArray, List.set_cons_zero, List.set_cons_succ])
  refine wpAnyH_take (i := 3) (v := ?v5) rfl (by kernel_rfl) (by kernel_rfl) (by kernel_rfl) (fun _ _ _ h => h) (Or.inl ⟨by rfl, ?hy5⟩) (by assumption) ?rest5
  case hy5 => (intro w hSw; (try dsimp only at hSw); simp only [List.getElem_toArray, List.getElem_cons_zero, List.getElem_cons_succ]; go_simp; (try with_reducible rfl))
  (try simp only [Act.put, List.getElem_toArray, List.getElem_cons_zero, List.getElem_cons_succ, List.setIfInBounds_toArray, List.set_cons_zero, List.set_cons_succ])
  refine wpAnyH_take (i := 4) (v := ?v6) rfl (by kernel_rfl) (by kernel_rfl) (by kernel_rfl) (fun _ _ _ h => h) (Or.inl ⟨by rfl, ?hy6⟩) (by assumption) ?rest6
  case hy6 => (intro w hSw; (try dsimp only at hSw); simp only [List.getElem_toArray, List.getElem_cons_zero, List.getElem_cons_succ]; go_simp; (try with_reducible rfl))
  (try simp only [Act.put, List.getElem_toArray, List.getElem_cons_zero, List.getElem_cons_succ, List.setIfInBounds_toArray, List.set_cons_zero, List.set_cons_succ])
  refine wpAnyH_take (i := 7) (v := ?v7) rfl (by kernel_rfl) (by kernel_rfl) (by kernel_rfl) (fun _ _ _ h => h) (Or.inl ⟨by rfl, ?hy7⟩) (by assumption) ?rest7
  case hy7 => (intro w hSw; (try dsimp only at hSw); simp only [List.getElem_toArray, List.getElem_cons_zero, List.getElem_cons_succ]; go_simp; (try with_reducible rfl))
  (try simp only [Act.put, List.getElem_toArray, List.getElem_cons_zero, List.getElem_cons_succ, List.setIfInBounds_toArray, List.set_cons_zero, List.set_cons_succ])
  refine wpAnyH_take (i := 8) (v := ?v8) rfl (by kernel_rfl) (by kernel_rfl) (by kernel_rfl) (fun _ _ _ h => h) (Or.inl ⟨by rfl, ?hy8⟩) (by assumption) ?rest8
  case hy8 => (intro w hSw; (try dsimp only at hSw); simp only [List.getElem_toArray, List.getElem_cons_zero, List.getElem_cons_succ]; go_simp; (try with_reducible rfl))
  (try simp only [Act.put, List.getElem_toArray, List.getElem_cons_zero, List.getElem_cons_succ, List.setIfInBounds_toArray, List.set_cons_zero, List.set_cons_succ])
  refine wpAnyH_ready (rs := [5]) (by kernel_rfl) (by simp) ?_
  refine AllReadyH.cons rfl (fun KK hK => ?_) AllReadyH.nil
  simp only [List.getElem_toArray, List.getElem_cons_zero, List.getElem_cons_succ]
  go_simp
  refine hK.out _ _ ?hS9 (fun hHeld2 => ?rest9)
  case hS9 => trivial
  clear hK KK
  (try clear hHeld)
  have hHeld := hHeld2
  clear hHeld2
  (try simp only [Act.put, List.getElem_toArray, List.getElem_cons_zero, List.getElem_cons_succ, List.setIfInBounds_toArray, List.set_cons_zero, List.set_cons_succ])
  refine wpAnyH_take (i := 6) (v := ?v10) rfl (by kernel_rfl) (by kernel_rfl) (by kernel_rfl) (fun _ _ _ h => h) (Or.inl ⟨by rfl, ?hy10⟩) (by assumption) ?rest10
  case hy10 => (intro w hSw; (try dsimp only at hSw); simp only [List.getElem_toArray, List.getElem_cons_zero, List.getElem_cons_succ]; go_simp; (try with_reducible rfl))
  (try simp only [Act.put, List.getElem_toArray, List.getElem_cons_zero, List.getElem_cons_succ, List.setIfInBounds_toArray, List.set_cons_zero, List.set_cons_succ])
  refine wpAnyH_take (i := 9) (v := ?v11) rfl (by kernel_rfl) (by kernel_rfl) (by kernel_rfl) (fun _ _ _ h => h) (Or.inl ⟨by rfl, ?hy11⟩) (by assumption) ?rest11
  case hy11 => (intro w hSw; (try dsimp only at hSw); simp only [List.getElem_toArray, List.getElem_cons_zero, List.getElem_cons_succ]; go_simp; (try with_reducible rfl))
  (try simp only [Act.put, List.getElem_toArray, List.getElem_cons_zero, List.getElem_cons_succ, List.setIfInBounds_toArray, List.set_cons_zero, List.set_cons_succ])
  refine wpAnyH_ready (rs := [10]) (by kernel_rfl) (by simp) ?_
  refine AllReadyH.cons rfl (fun KK hK => ?_) AllReadyH.nil
  simp only [List.getElem_toArray, List.getElem_cons_zero, List.getElem_cons_succ]
  go_simp
  refine hK.out _ _ ?hS12 (fun hHeld2 => ?rest12)
  case hS12 => trivial
  clear hK KK
  (try clear hHeld)
  have hHeld := hHeld2
  clear hHeld2
  (try simp only [Act.put, List.getElem_toArray, List.getElem_cons_zero, List.getElem_cons_succ, List.setIfInBounds_toArray, List.set_cons_zero, List.set_cons_succ])
  refine wpAnyH_done (by kernel_rfl) ?_ _
  clear hHeld
  go_wp2
  go_ret
  rw [HWR.out]
  exact ⟨rfl, (plF_setS HP.out HC.out _).kept ((Out.refl 0 0 _).drew) (.inr (Nat.zero_le _)), ((Out.refl G (G + 1) w).setCell (.inl ⟨Nat.le_refl _, Nat.lt_succ_self _⟩) _).trans (((Out.refl 0 0 _).drew).any _ _)⟩
theorem TbAt.quiet {w w' : World} {B G n : Nat} {S T : Nat → Int × Int × Int} {tb : Value} (h : TbAt w B G n S T tb) (o : Out 0 0 w w') : TbAt w' B G n S T tb := by
  rcases h with h | ⟨b, bw, h1, h2, h3⟩
  · exact .inl h
  · exact .inr ⟨b, bw, h1, h2.kept o (.inr (Nat.zero_le _)) (.inr (Nat.zero_le _)), h3⟩
set_option maxRecDepth 100000 in
set_option maxHeartbeats 4000000 in
theorem plB_free (h : RawAt w lo hi s n cap r) (hp : Row w G 80 18 (plF (s 14) tb fr fs)) {c y m : Nat} (hc : c < 8) (hf : fs c ≤ 0) (hy : fr c = ((y : Nat) : Int)) (hm : nxr (r.F c) (64 * n) y = ((m : Nat) : Int)) (hmn : m < 64 * n) :
    Calls Tryd.prog 56 #[.pointer (some ⟨G, 0, none⟩), .int .i64 (c : Int)] w fun e w' => e = .returned (.bool true) ∧ Row w' G 80 18 (plF (s 14) tb (updI fr c ((m : Int) + 1)) fs) ∧ Out G (G + 1) w w' := by
  have hpd := hp.kept ((Out.refl 0 0 w).drew) (.inr (Nat.zero_le _))
  have hrd := h.quiet ((Out.refl 0 0 w).drew)
  have p3 := (plF_cells hp).2.2.2 c hc
  have p2 := (plF_cells hpd).2.2.1 c hc
  have p0 := (plF_cells hpd).1
  have dF := hrd.cellF hc
  have HNx := hid_mk (next_any (hrd.free c hc) (y : Int))
  rw [show ((y : Int)).toNat = y from by omega, hm] at HNx
  have k0 : (0 : Int) ≤ (c : Int) := by omega
  have k1 : (c : Int) < 8 := by omega
  have HM1 : Hid (m < 64 * n ∧ n ≤ 4096) := ⟨hmn, h.n2⟩
  have HP := hid_mk hpd
  have HC := hid_mk hc
  rw [hy] at p2
  obtain ⟨x, hx⟩ : ∃ x, fs c = x := ⟨_, rfl⟩
  rw [hx] at p3 hf
  obtain ⟨z, hz⟩ : ∃ z : Int, (m : Int) + 1 = z := ⟨_, rfl⟩
  rw [hz]
  have HZ := hid_mk hz
  clear hp hpd hc hx hrd h hm hmn hy hz
  go_enter Tryd.func56, Tryd.ntmps56
  go_wp2_with fail
  refine wp_region_held_drew (S := fun w' => w'.cell? ⟨G, 0, none⟩ = some (.pointer (some ⟨s 14, 0, none⟩)) ∧ w'.cell? ⟨s 14, 4 + c, none⟩ = some (.pointer (some ⟨s c + 1, 0, none⟩)) ∧ w'.cell? ⟨G, 2 + c, none⟩ = some (.int .i64 (y : Int))) (by kernel_rfl) ?hS13 (fun hHeld => ?rest13)
  case hS13 => exact ⟨p0, dF, p2⟩
  refine wpAnyH_take (i := 0) (v := ?v14) rfl (by kernel_rfl) (by kernel_rfl) (by kernel_rfl) (fun _ _ _ h => h) (Or.inl ⟨by rfl, ?hy14⟩) (by assumption) ?rest14
  case hy14 => (intro w hSw; (try dsimp only at hSw); simp only [List.getElem_toArray, List.getElem_cons_zero, List.getElem_cons_succ]; go_simp; (try with_reducible rfl))
  (try simp only [Act.put, List.getElem_toArray, List.getElem_cons_zero, List.getElem_cons_succ, List.setIfInBounds_toArray, List.set_cons_zero, List.set_cons_succ])
  refine wpAnyH_take (i := 1) (v := ?v15) rfl (by kernel_rfl) (by kernel_rfl) (by kernel_rfl) (fun _ _ _ h => h) (Or.inl ⟨by rfl, ?hy15⟩) (by assumption) ?rest15
  case hy15 => (intro w hSw; (try dsimp only at hSw); simp only [List.getElem_toArray, List.getElem_cons_zero, List.getElem_cons_succ]; go_simp; (try with_reducible rfl))
  (try simp only [Act.put, List.getElem_toArray, List.getElem_cons_zero, List.getElem_cons_succ, List.setIfInBounds_toArray, List.set_cons_zero, List.set_cons_succ])
  refine wpAnyH_take (i := 2) (v := ?v16) rfl (by kernel_rfl) (by kernel_rfl) (by kernel_rfl) (fun _ _ _ h => h) (Or.inl ⟨by rfl, ?hy16⟩) (by assumption) ?rest16
  case hy16 => (intro w hSw; (try dsimp only at hSw); simp only [List.getElem_toArray, List.getElem_cons_zero, List.getElem_cons_succ]; go_simp; (try with_reducible rfl))
  (try simp only [Act.put, List.getElem_toArray, List.getElem_cons_zero, List.getElem_cons_succ, List.setIfInBounds_toArray, List.set_cons_zero, List.set_cons_succ])
  refine wpAnyH_take (i := 3) (v := ?v17) rfl (by kernel_rfl) (by kernel_rfl) (by kernel_rfl) (fun _ _ _ h => h) (Or.inl ⟨by rfl, ?hy17⟩) (by assumption) ?rest17
  case hy17 => (intro w hSw; (try dsimp only at hSw); simp only [List.getElem_toArray, List.getElem_cons_zero, List.getElem_cons_succ]; go_simp; (try with_reducible rfl))
  (try simp only [Act.put, List.getElem_toArray, List.getElem_cons_zero, List.getElem_cons_succ, List.setIfInBounds_toArray, List.set_cons_zero, List.set_cons_succ])
  refine wpAnyH_take (i := 4) (v := ?v18) rfl (by kernel_rfl) (by kernel_rfl) (by kernel_rfl) (fun _ _ _ h => h) (Or.inl ⟨by rfl, ?hy18⟩) (by assumption) ?rest18
  case hy18 => (intro w hSw; (try dsimp only at hSw); simp only [List.getElem_toArray, List.getElem_cons_zero, List.getElem_cons_succ]; go_simp; (try with_reducible rfl))
  (try simp only [Act.put, List.getElem_toArray, List.getElem_cons_zero, List.getElem_cons_succ, List.setIfInBounds_toArray, List.set_cons_zero, List.set_cons_succ])
  refine wpAnyH_take (i := 5) (v := ?v19) rfl (by kernel_rfl) (by kernel_rfl) (by kernel_rfl) (fun _ _ _ h => h) (Or.inl ⟨by rfl, ?hy19⟩) (by assumption) ?rest19
  case hy19 => (intro w hSw; (try dsimp only at hSw); simp only [List.getElem_toArray, List.getElem_cons_zero, List.getElem_cons_succ]; go_simp; (try with_reducible rfl))
  (try simp only [Act.put, List.getElem_toArray, List.getElem_cons_zero, List.getElem_cons_succ, List.setIfInBounds_toArray, List.set_cons_zero, List.set_cons_succ])
  refine wpAnyH_take (i := 6) (v := ?v20) rfl (by kernel_rfl) (by kernel_rfl) (by kernel_rfl) (fun _ _ _ h => h) (Or.inl ⟨by rfl, ?hy20⟩) (by assumption) ?rest20
  case hy20 => (intro w hSw; (try dsimp only at hSw); simp only [List.getElem_toArray, List.getElem_cons_zero, List.getElem_cons_succ]; go_simp; (try with_reducible rfl))
  (try simp only [Act.put, List.getElem_toArray, List.getElem_cons_zero, List.getElem_cons_succ, List.setIfInBounds_toArray, List.set_cons_zero, List.set_cons_succ])
  refine wpAnyH_take (i := 7) (v := ?v21) rfl (by kernel_rfl) (by kernel_rfl) (by kernel_rfl) (fun _ _ _ h => h) (Or.inl ⟨by rfl, ?hy21⟩) (by assumption) ?rest21
  case hy21 => (intro w hSw; (try dsimp only at hSw); simp only [List.getElem_toArray, List.getElem_cons_zero, List.getElem_cons_succ]; go_simp; (try with_reducible rfl))
  (try simp only [Act.put, List.getElem_toArray, List.getElem_cons_zero, List.getElem_cons_succ, List.setIfInBounds_toArray, List.set_cons_zero, List.set_cons_succ])
  refine wpAnyH_take (i := 8) (v := ?v22) rfl (by kernel_rfl) (by kernel_rfl) (by kernel_rfl) (fun _ _ _ h => h) (Or.inl ⟨by rfl, ?hy22⟩) (by assumption) ?rest22
  case hy22 => (intro w hSw; (try dsimp only at hSw); simp only [List.getElem_toArray, List.getElem_cons_zero, List.getElem_cons_succ]; go_simp; (try with_reducible rfl))
  (try simp only [Act.put, List.getElem_toArray, List.getElem_cons_zero, List.getElem_cons_succ, List.setIfInBounds_toArray, List.set_cons_zero, List.set_cons_succ])
  refine wpAnyH_take (i := 9) (v := ?v23) rfl (by kernel_rfl) (by kernel_rfl) (by kernel_rfl) (fun _ _ _ h => h) (Or.inl ⟨by rfl, ?hy23⟩) (by assumption) ?rest23
  case hy23 => (intro w hSw; (try dsimp only at hSw); simp only [List.getElem_toArray, List.getElem_cons_zero, List.getElem_cons_succ]; go_simp; (try with_reducible rfl))
  (try simp only [Act.put, List.getElem_toArray, List.getElem_cons_zero, List.getElem_cons_succ, List.setIfInBounds_toArray, List.set_cons_zero, List.set_cons_succ])
  refine wpAnyH_take (i := 10) (v := ?v24) rfl (by kernel_rfl) (by kernel_rfl) (by kernel_rfl) (fun _ _ _ h => h) (Or.inl ⟨by rfl, ?hy24⟩) (by assumption) ?rest24
  case hy24 => (intro w hSw; (try dsimp only at hSw); simp only [List.getElem_toArray, List.getElem_cons_zero, List.getElem_cons_succ]; go_simp; (try with_reducible rfl))
  (try simp only [Act.put, List.getElem_toArray, List.getElem_cons_zero, List.getElem_cons_succ, List.setIfInBounds_toArray, List.set_cons_zero, List.set_cons_succ])
  refine wpAnyH_take (i := 11) (v := ?v25) rfl (by kernel_rfl) (by kernel_rfl) (by kernel_rfl) (fun _ _ _ h => h) (Or.inl ⟨by rfl, ?hy25⟩) (by assumption) ?rest25
  case hy25 => (intro w hSw; (try dsimp only at hSw); simp only [List.getElem_toArray, List.getElem_cons_zero, List.getElem_cons_succ]; go_simp; (try with_reducible rfl))
  (try simp only [Act.put, List.getElem_toArray, List.getElem_cons_zero, List.getElem_cons_succ, List.setIfInBounds_toArray, List.set_cons_zero, List.set_cons_succ])
  refine wpAnyH_take (i := 12) (v := ?v26) rfl (by kernel_rfl) (by kernel_rfl) (by kernel_rfl) (fun _ _ _ h => h) (Or.inl ⟨by rfl, ?hy26⟩) (by assumption) ?rest26
  case hy26 => (intro w hSw; (try dsimp only at hSw); simp only [List.getElem_toArray, List.getElem_cons_zero, List.getElem_cons_succ]; go_simp; (try with_reducible rfl))
  (try simp only [Act.put, List.getElem_toArray, List.getElem_cons_zero, List.getElem_cons_succ, List.setIfInBounds_toArray, List.set_cons_zero, List.set_cons_succ])
  refine wpAnyH_take (i := 13) (v := ?v27) rfl (by kernel_rfl) (by kernel_rfl) (by kernel_rfl) (fun _ _ _ h => h) (Or.inl ⟨by rfl, ?hy27⟩) (by assumption) ?rest27
  case hy27 => (intro w hSw; (try dsimp only at hSw); simp only [List.getElem_toArray, List.getElem_cons_zero, List.getElem_cons_succ]; go_simp; (try with_reducible rfl))
  (try simp only [Act.put, List.getElem_toArray, List.getElem_cons_zero, List.getElem_cons_succ, List.setIfInBounds_toArray, List.set_cons_zero, List.set_cons_succ])
  refine wpAnyH_take (i := 14) (v := ?v28) rfl (by kernel_rfl) (by kernel_rfl) (by kernel_rfl) (fun _ _ _ h => h) (Or.inl ⟨by rfl, ?hy28⟩) (by assumption) ?rest28
  case hy28 => (intro w hSw; (try dsimp only at hSw); simp only [List.getElem_toArray, List.getElem_cons_zero, List.getElem_cons_succ]; go_simp; (try with_reducible rfl))
  (try simp only [Act.put, List.getElem_toArray, List.getElem_cons_zero, List.getElem_cons_succ, List.setIfInBounds_toArray, List.set_cons_zero, List.set_cons_succ])
  refine wpAnyH_ready (rs := [15]) (by kernel_rfl) (by simp) ?_
  refine AllReadyH.cons rfl (fun KK hK => ?_) AllReadyH.nil
  simp only [List.getElem_toArray, List.getElem_cons_zero, List.getElem_cons_succ]
  go_simp
  refine (HNx.out).mono ?_
  rintro e w4 ⟨rfl, hoo⟩
  refine hK.out _ _ ?hS29 (fun hHeld2 => ?rest29)
  case hS29 => exact ⟨hoo.cell hHeld.1 (.inr (Nat.zero_le _)), hoo.cell hHeld.2.1 (.inr (Nat.zero_le _)), hoo.cell hHeld.2.2 (.inr (Nat.zero_le _))⟩
  clear hK KK
  (try clear hHeld)
  have hHeld := hHeld2
  clear hHeld2
  (try simp only [Act.put, List.getElem_toArray, List.getElem_cons_zero, List.getElem_cons_succ, List.setIfInBounds_toArray, List.set_cons_zero, List.set_cons_succ])
  refine wpAnyH_take (i := 16) (v := ?v30) rfl (by kernel_rfl) (by kernel_rfl) (by kernel_rfl) (fun _ _ _ h => h) (Or.inl ⟨by rfl, ?hy30⟩) (by assumption) ?rest30
  case hy30 => (intro w hSw; (try dsimp only at hSw); simp only [List.getElem_toArray, List.getElem_cons_zero, List.getElem_cons_succ]; go_simp; (try with_reducible rfl))
  (try simp only [Act.put, List.getElem_toArray, List.getElem_cons_zero, List.getElem_cons_succ, List.setIfInBounds_toArray, List.set_cons_zero, List.set_cons_succ])
  refine wpAnyH_done (by kernel_rfl) ?_ _
  clear hHeld
  have HP4 := hid_mk (HP.out.kept hoo (.inr (Nat.zero_le _)))
  have e0 := (plF_cells HP4.out).2.2.1 c HC.out
  have e1 := Row.frozen HP4.out (2 + c)
  have HOO := hid_mk hoo
  clear p0 p2 p3 dF hoo
  have m0 : (0 : Int) ≤ (m : Int) := by omega
  have m1 : (m : Int) < 262144 := by have := HM1.out; omega
  go_wp2
  go_ret
  rw [← HZ.out]
  exact ⟨rfl, plF_setF HP4.out HC.out _, ((((Out.refl 0 0 w).drew).trans HOO.out).any G (G + 1)).trans ((Out.refl G (G + 1) w4).setCell (.inl ⟨Nat.le_refl _, Nat.lt_succ_self _⟩) _)⟩
set_option maxRecDepth 100000 in
set_option maxHeartbeats 4000000 in
theorem plB_page (h : RawAt w lo hi s n cap r) (hB : hi ≤ B) (hG : B ≤ G) (hp : Row w G 80 18 (plF (s 14) tb fr fs)) (ht : TbAt w B G n r.S T tb) {c y : Nat} (hc : c < 8) (hf : fs c ≤ 0) (hy : fr c = ((y : Nat) : Int)) (hm : nxr (r.F c) (64 * n) y = -1) :
    Calls Tryd.prog 56 #[.pointer (some ⟨G, 0, none⟩), .int .i64 (c : Int)] w fun e w' => ∃ tb', e = .returned (.bool (tcE T n (c : Int) == 0)) ∧ Row w' G 80 18 (plF (s 14) tb' fr (if tcE T n (c : Int) = 0 then updI fs c (blocksV (c : Int) - 1) else fs)) ∧ TbAt w' B G n r.S (tcS T n (c : Int)) tb' ∧ Out B w'.heap.size w w' := by
  have hpd := hp.kept ((Out.refl 0 0 w).drew) (.inr (Nat.zero_le _))
  have hrd := h.quiet ((Out.refl 0 0 w).drew)
  have p3 := (plF_cells hp).2.2.2 c hc
  have p2 := (plF_cells hpd).2.2.1 c hc
  have p0 := (plF_cells hpd).1
  have dF := hrd.cellF hc
  have HNx := hid_mk (next_any (hrd.free c hc) (y : Int))
  rw [show ((y : Int)).toNat = y from by omega, hm] at HNx
  have k0 : (0 : Int) ≤ (c : Int) := by omega
  have k1 : (c : Int) < 8 := by omega
  have HP := hid_mk hpd
  have HR := hid_mk hrd
  have HTb := hid_mk (ht.quiet ((Out.refl 0 0 w).drew))
  have HC := hid_mk hc
  have HD : Hid (hi ≤ B ∧ B ≤ G ∧ 4 ≤ lo ∧ lo ≤ hi) := ⟨hB, hG, h.glob, by have := h.inn 14 (by omega); simp [ln] at this; omega⟩
  rw [hy] at p2
  have HY := hid_mk hy
  obtain ⟨x, hx⟩ : ∃ x, fs c = x := ⟨_, rfl⟩
  rw [hx] at p3 hf
  obtain ⟨bv, hbv, hbl⟩ : ∃ bv : Nat, blocksV (c : Int) = bv ∧ bv ≤ 32 ∧ 1 ≤ bv := by obtain ⟨x', y', h1, h2, h3, h4⟩ := class_nums hc; exact ⟨y', h3, by omega, by omega⟩
  have HBl := hid_mk (fun w' => calls_out (blocks_any (c : Int) w') (Out.refl 0 0 w'))
  rw [hbv] at HBl ⊢
  have b0 : (1 : Int) ≤ (bv : Int) := by omega
  have b1 : (bv : Int) ≤ 32 := by omega
  obtain ⟨E, hE⟩ : ∃ E, tcE T n (c : Int) = E := ⟨_, rfl⟩
  have HE := hid_mk hE
  rw [hE]
  clear hp hpd hc hx hrd h hm hy ht hB hG hbv hbl hE
  go_enter Tryd.func56, Tryd.ntmps56
  go_wp2_with fail
  refine wp_region_held_drew (S := fun w' => w'.cell? ⟨G, 0, none⟩ = some (.pointer (some ⟨s 14, 0, none⟩)) ∧ w'.cell? ⟨s 14, 4 + c, none⟩ = some (.pointer (some ⟨s c + 1, 0, none⟩)) ∧ w'.cell? ⟨G, 2 + c, none⟩ = some (.int .i64 (y : Int))) (by kernel_rfl) ?hS31 (fun hHeld => ?rest31)
  case hS31 => exact ⟨p0, dF, p2⟩
  refine wpAnyH_take (i := 0) (v := ?v32) rfl (by kernel_rfl) (by kernel_rfl) (by kernel_rfl) (fun _ _ _ h => h) (Or.inl ⟨by rfl, ?hy32⟩) (by assumption) ?rest32
  case hy32 => (intro w hSw; (try dsimp only at hSw); simp only [List.getElem_toArray, List.getElem_cons_zero, List.getElem_cons_succ]; go_simp; (try with_reducible rfl))
  (try simp only [Act.put, List.getElem_toArray, List.getElem_cons_zero, List.getElem_cons_succ, List.setIfInBounds_toArray, List.set_cons_zero, List.set_cons_succ])
  refine wpAnyH_take (i := 1) (v := ?v33) rfl (by kernel_rfl) (by kernel_rfl) (by kernel_rfl) (fun _ _ _ h => h) (Or.inl ⟨by rfl, ?hy33⟩) (by assumption) ?rest33
  case hy33 => (intro w hSw; (try dsimp only at hSw); simp only [List.getElem_toArray, List.getElem_cons_zero, List.getElem_cons_succ]; go_simp; (try with_reducible rfl))
  (try simp only [Act.put, List.getElem_toArray, List.getElem_cons_zero, List.getElem_cons_succ, List.setIfInBounds_toArray, List.set_cons_zero, List.set_cons_succ])
  refine wpAnyH_take (i := 2) (v := ?v34) rfl (by kernel_rfl) (by kernel_rfl) (by kernel_rfl) (fun _ _ _ h => h) (Or.inl ⟨by rfl, ?hy34⟩) (by assumption) ?rest34
  case hy34 => (intro w hSw; (try dsimp only at hSw); simp only [List.getElem_toArray, List.getElem_cons_zero, List.getElem_cons_succ]; go_simp; (try with_reducible rfl))
  (try simp only [Act.put, List.getElem_toArray, List.getElem_cons_zero, List.getElem_cons_succ, List.setIfInBounds_toArray, List.set_cons_zero, List.set_cons_succ])
  refine wpAnyH_take (i := 3) (v := ?v35) rfl (by kernel_rfl) (by kernel_rfl) (by kernel_rfl) (fun _ _ _ h => h) (Or.inl ⟨by rfl, ?hy35⟩) (by assumption) ?rest35
  case hy35 => (intro w hSw; (try dsimp only at hSw); simp only [List.getElem_toArray, List.getElem_cons_zero, List.getElem_cons_succ]; go_simp; (try with_reducible rfl))
  (try simp only [Act.put, List.getElem_toArray, List.getElem_cons_zero, List.getElem_cons_succ, List.setIfInBounds_toArray, List.set_cons_zero, List.set_cons_succ])
  refine wpAnyH_take (i := 4) (v := ?v36) rfl (by kernel_rfl) (by kernel_rfl) (by kernel_rfl) (fun _ _ _ h => h) (Or.inl ⟨by rfl, ?hy36⟩) (by assumption) ?rest36
  case hy36 => (intro w hSw; (try dsimp only at hSw); simp only [List.getElem_toArray, List.getElem_cons_zero, List.getElem_cons_succ]; go_simp; (try with_reducible rfl))
  (try simp only [Act.put, List.getElem_toArray, List.getElem_cons_zero, List.getElem_cons_succ, List.setIfInBounds_toArray, List.set_cons_zero, List.set_cons_succ])
  refine wpAnyH_take (i := 5) (v := ?v37) rfl (by kernel_rfl) (by kernel_rfl) (by kernel_rfl) (fun _ _ _ h => h) (Or.inl ⟨by rfl, ?hy37⟩) (by assumption) ?rest37
  case hy37 => (intro w hSw; (try dsimp only at hSw); simp only [List.getElem_toArray, List.getElem_cons_zero, List.getElem_cons_succ]; go_simp; (try with_reducible rfl))
  (try simp only [Act.put, List.getElem_toArray, List.getElem_cons_zero, List.getElem_cons_succ, List.setIfInBounds_toArray, List.set_cons_zero, List.set_cons_succ])
  refine wpAnyH_take (i := 6) (v := ?v38) rfl (by kernel_rfl) (by kernel_rfl) (by kernel_rfl) (fun _ _ _ h => h) (Or.inl ⟨by rfl, ?hy38⟩) (by assumption) ?rest38
  case hy38 => (intro w hSw; (try dsimp only at hSw); simp only [List.getElem_toArray, List.getElem_cons_zero, List.getElem_cons_succ]; go_simp; (try with_reducible rfl))
  (try simp only [Act.put, List.getElem_toArray, List.getElem_cons_zero, List.getElem_cons_succ, List.setIfInBounds_toArray, List.set_cons_zero, List.set_cons_succ])
  refine wpAnyH_take (i := 7) (v := ?v39) rfl (by kernel_rfl) (by kernel_rfl) (by kernel_rfl) (fun _ _ _ h => h) (Or.inl ⟨by rfl, ?hy39⟩) (by assumption) ?rest39
  case hy39 => (intro w hSw; (try dsimp only at hSw); simp only [List.getElem_toArray, List.getElem_cons_zero, List.getElem_cons_succ]; go_simp; (try with_reducible rfl))
  (try simp only [Act.put, List.getElem_toArray, List.getElem_cons_zero, List.getElem_cons_succ, List.setIfInBounds_toArray, List.set_cons_zero, List.set_cons_succ])
  refine wpAnyH_take (i := 8) (v := ?v40) rfl (by kernel_rfl) (by kernel_rfl) (by kernel_rfl) (fun _ _ _ h => h) (Or.inl ⟨by rfl, ?hy40⟩) (by assumption) ?rest40
  case hy40 => (intro w hSw; (try dsimp only at hSw); simp only [List.getElem_toArray, List.getElem_cons_zero, List.getElem_cons_succ]; go_simp; (try with_reducible rfl))
  (try simp only [Act.put, List.getElem_toArray, List.getElem_cons_zero, List.getElem_cons_succ, List.setIfInBounds_toArray, List.set_cons_zero, List.set_cons_succ])
  refine wpAnyH_take (i := 9) (v := ?v41) rfl (by kernel_rfl) (by kernel_rfl) (by kernel_rfl) (fun _ _ _ h => h) (Or.inl ⟨by rfl, ?hy41⟩) (by assumption) ?rest41
  case hy41 => (intro w hSw; (try dsimp only at hSw); simp only [List.getElem_toArray, List.getElem_cons_zero, List.getElem_cons_succ]; go_simp; (try with_reducible rfl))
  (try simp only [Act.put, List.getElem_toArray, List.getElem_cons_zero, List.getElem_cons_succ, List.setIfInBounds_toArray, List.set_cons_zero, List.set_cons_succ])
  refine wpAnyH_take (i := 10) (v := ?v42) rfl (by kernel_rfl) (by kernel_rfl) (by kernel_rfl) (fun _ _ _ h => h) (Or.inl ⟨by rfl, ?hy42⟩) (by assumption) ?rest42
  case hy42 => (intro w hSw; (try dsimp only at hSw); simp only [List.getElem_toArray, List.getElem_cons_zero, List.getElem_cons_succ]; go_simp; (try with_reducible rfl))
  (try simp only [Act.put, List.getElem_toArray, List.getElem_cons_zero, List.getElem_cons_succ, List.setIfInBounds_toArray, List.set_cons_zero, List.set_cons_succ])
  refine wpAnyH_take (i := 11) (v := ?v43) rfl (by kernel_rfl) (by kernel_rfl) (by kernel_rfl) (fun _ _ _ h => h) (Or.inl ⟨by rfl, ?hy43⟩) (by assumption) ?rest43
  case hy43 => (intro w hSw; (try dsimp only at hSw); simp only [List.getElem_toArray, List.getElem_cons_zero, List.getElem_cons_succ]; go_simp; (try with_reducible rfl))
  (try simp only [Act.put, List.getElem_toArray, List.getElem_cons_zero, List.getElem_cons_succ, List.setIfInBounds_toArray, List.set_cons_zero, List.set_cons_succ])
  refine wpAnyH_take (i := 12) (v := ?v44) rfl (by kernel_rfl) (by kernel_rfl) (by kernel_rfl) (fun _ _ _ h => h) (Or.inl ⟨by rfl, ?hy44⟩) (by assumption) ?rest44
  case hy44 => (intro w hSw; (try dsimp only at hSw); simp only [List.getElem_toArray, List.getElem_cons_zero, List.getElem_cons_succ]; go_simp; (try with_reducible rfl))
  (try simp only [Act.put, List.getElem_toArray, List.getElem_cons_zero, List.getElem_cons_succ, List.setIfInBounds_toArray, List.set_cons_zero, List.set_cons_succ])
  refine wpAnyH_take (i := 13) (v := ?v45) rfl (by kernel_rfl) (by kernel_rfl) (by kernel_rfl) (fun _ _ _ h => h) (Or.inl ⟨by rfl, ?hy45⟩) (by assumption) ?rest45
  case hy45 => (intro w hSw; (try dsimp only at hSw); simp only [List.getElem_toArray, List.getElem_cons_zero, List.getElem_cons_succ]; go_simp; (try with_reducible rfl))
  (try simp only [Act.put, List.getElem_toArray, List.getElem_cons_zero, List.getElem_cons_succ, List.setIfInBounds_toArray, List.set_cons_zero, List.set_cons_succ])
  refine wpAnyH_take (i := 14) (v := ?v46) rfl (by kernel_rfl) (by kernel_rfl) (by kernel_rfl) (fun _ _ _ h => h) (Or.inl ⟨by rfl, ?hy46⟩) (by assumption) ?rest46
  case hy46 => (intro w hSw; (try dsimp only at hSw); simp only [List.getElem_toArray, List.getElem_cons_zero, List.getElem_cons_succ]; go_simp; (try with_reducible rfl))
  (try simp only [Act.put, List.getElem_toArray, List.getElem_cons_zero, List.getElem_cons_succ, List.setIfInBounds_toArray, List.set_cons_zero, List.set_cons_succ])
  refine wpAnyH_ready (rs := [15]) (by kernel_rfl) (by simp) ?_
  refine AllReadyH.cons rfl (fun KK hK => ?_) AllReadyH.nil
  simp only [List.getElem_toArray, List.getElem_cons_zero, List.getElem_cons_succ]
  go_simp
  refine (HNx.out).mono ?_
  rintro e w4 ⟨rfl, hoo⟩
  refine hK.out _ _ ?hS47 (fun hHeld2 => ?rest47)
  case hS47 => exact ⟨hoo.cell hHeld.1 (.inr (Nat.zero_le _)), hoo.cell hHeld.2.1 (.inr (Nat.zero_le _)), hoo.cell hHeld.2.2 (.inr (Nat.zero_le _))⟩
  clear hK KK
  (try clear hHeld)
  have hHeld := hHeld2
  clear hHeld2
  (try simp only [Act.put, List.getElem_toArray, List.getElem_cons_zero, List.getElem_cons_succ, List.setIfInBounds_toArray, List.set_cons_zero, List.set_cons_succ])
  refine wpAnyH_take (i := 16) (v := ?v48) rfl (by kernel_rfl) (by kernel_rfl) (by kernel_rfl) (fun _ _ _ h => h) (Or.inl ⟨by rfl, ?hy48⟩) (by assumption) ?rest48
  case hy48 => (intro w hSw; (try dsimp only at hSw); simp only [List.getElem_toArray, List.getElem_cons_zero, List.getElem_cons_succ]; go_simp; (try with_reducible rfl))
  (try simp only [Act.put, List.getElem_toArray, List.getElem_cons_zero, List.getElem_cons_succ, List.setIfInBounds_toArray, List.set_cons_zero, List.set_cons_succ])
  refine wpAnyH_done (by kernel_rfl) ?_ _
  clear hHeld
  have HP4 := hid_mk (HP.out.kept hoo (.inr (Nat.zero_le _)))
  have HR4 := hid_mk (HR.out.quiet hoo)
  have HPg := hid_mk (planPages_any (HR.out.quiet hoo) HD.out.1 HD.out.2.1 HP4.out (HTb.out.quiet hoo))
  have HOO := hid_mk (((Out.refl 0 0 w).drew).trans hoo)
  clear p0 p2 p3 dF hoo
  by_cases hE0 : E = 0
  · subst hE0
    go_wp2_with (first
      | (go_at_call 53; refine HPg.out.mono ?_; rintro e w5 ⟨b, bw, rfl, hT5, h51, h52, h53, h54, hp5, ho5⟩; have HT5 := hid_mk hT5; have HB5 : Hid (B ≤ b ∧ B ≤ bw ∧ b ≠ G ∧ bw ≠ G) := ⟨h51, h52, h53, h54⟩; have HP5 := hid_mk hp5; have HR5 := hid_mk (HR4.out.kept ho5 (.inl (by have := HD.out; omega)) (.inl (by have := HD.out; omega))); have HO5 := hid_mk ho5; clear hT5 h51 h52 h53 h54 hp5 ho5)
      | (go_at_call 82; refine (takeClass_any HT5.out HR5.out.tab (c : Int)).mono ?_; rintro e w6 ⟨rfl, hT6, ho6⟩; have HT6 := hid_mk hT6; have HO6 := hid_mk ho6; have HP6 := hid_mk (HP5.out.kept ho6 (by have := HB5.out; omega)); rw [HE.out]; clear hT6 ho6))
    have HWB : Hid (IntKind.i64.wrap ((bv : Int) - 1) = (bv : Int) - 1) := by show _ = _; simp [IntKind.wrap, IntKind.signed, IntKind.bits]; omega
    refine wp_region_held_drew (S := fun _ => True) (by kernel_rfl) ?hS49 (fun hHeld => ?rest49)
    case hS49 => trivial
    refine wpAnyH_take (i := 0) (v := ?v50) rfl (by kernel_rfl) (by kernel_rfl) (by kernel_rfl) (fun _ _ _ h => h) (Or.inl ⟨by rfl, ?hy50⟩) (by assumption) ?rest50
    case hy50 => (intro w hSw; (try dsimp only at hSw); simp only [List.getElem_toArray, List.getElem_cons_zero, List.getElem_cons_succ]; go_simp; (try with_reducible rfl))
    (try simp only [Act.put, List.getElem_toArray, List.getElem_cons_zero, List.getElem_cons_succ, List.setIfInBounds_toArray, List.set_cons_zero, List.set_cons_succ])
    refine wpAnyH_take (i := 1) (v := ?v51) rfl (by kernel_rfl) (by kernel_rfl) (by kernel_rfl) (fun _ _ _ h => h) (Or.inl ⟨by rfl, ?hy51⟩) (by assumption) ?rest51
    case hy51 => (intro w hSw; (try dsimp only at hSw); simp only [List.getElem_toArray, List.getElem_cons_zero, List.getElem_cons_succ]; go_simp; (try with_reducible rfl))
    (try simp only [Act.put, List.getElem_toArray, List.getElem_cons_zero, List.getElem_cons_succ, List.setIfInBounds_toArray, List.set_cons_zero, List.set_cons_succ])
    refine wpAnyH_take (i := 2) (v := ?v52) rfl (by kernel_rfl) (by kernel_rfl) (by kernel_rfl) (fun _ _ _ h => h) (Or.inl ⟨by rfl, ?hy52⟩) (by assumption) ?rest52
    case hy52 => (intro w hSw; (try dsimp only at hSw); simp only [List.getElem_toArray, List.getElem_cons_zero, List.getElem_cons_succ]; go_simp; (try with_reducible rfl))
    (try simp only [Act.put, List.getElem_toArray, List.getElem_cons_zero, List.getElem_cons_succ, List.setIfInBounds_toArray, List.set_cons_zero, List.set_cons_succ])
    refine wpAnyH_take (i := 5) (v := ?v53) rfl (by kernel_rfl) (by kernel_rfl) (by kernel_rfl) (fun _ _ _ h => h) (Or.inl ⟨by rfl, ?hy53⟩) (by assumption) ?rest53
    case hy53 => (intro w hSw; (try dsimp only at hSw); simp only [List.getElem_toArray, List.getElem_cons_zero, List.getElem_cons_succ]; go_simp; (try with_reducible rfl))
    (try simp only [Act.put, List.getElem_toArray, List.getElem_cons_zero, List.getElem_cons_succ, List.setIfInBounds_toArray, List.set_cons_zero, List.set_cons_succ])
    refine wpAnyH_take (i := 6) (v := ?v54) rfl (by kernel_rfl) (by kernel_rfl) (by kernel_rfl) (fun _ _ _ h => h) (Or.inl ⟨by rfl, ?hy54⟩) (by assumption) ?rest54
    case hy54 => (intro w hSw; (try dsimp only at hSw); simp only [List.getElem_toArray, List.getElem_cons_zero, List.getElem_cons_succ]; go_simp; (try with_reducible rfl))
    (try simp only [Act.put, List.getElem_toArray, List.getElem_cons_zero, List.getElem_cons_succ, List.setIfInBounds_toArray, List.set_cons_zero, List.set_cons_succ])
    refine wpAnyH_ready (rs := [3]) (by kernel_rfl) (by simp) ?_
    refine AllReadyH.cons rfl (fun KK hK => ?_) AllReadyH.nil
    simp only [List.getElem_toArray, List.getElem_cons_zero, List.getElem_cons_succ]
    go_simp
    refine (HBl.out _).mono ?_
    rintro e w7 ⟨rfl, ho7⟩
    have HP7 := hid_mk (HP6.out.kept (((Out.refl 0 0 _).drew).trans ho7) (.inr (Nat.zero_le _)))
    have e0 := (plF_cells HP7.out).2.2.2 c HC.out
    have e1 := Row.frozen HP7.out (10 + c)
    have HO7 := hid_mk ho7
    clear ho7
    refine hK.out _ _ ?hS55 (fun hHeld2 => ?rest55)
    case hS55 => trivial
    clear hK KK
    (try clear hHeld)
    have hHeld := hHeld2
    clear hHeld2
    (try simp only [Act.put, List.getElem_toArray, List.getElem_cons_zero, List.getElem_cons_succ, List.setIfInBounds_toArray, List.set_cons_zero, List.set_cons_succ])
    refine wpAnyH_take (i := 4) (v := ?v56) rfl (by kernel_rfl) (by kernel_rfl) (by kernel_rfl) (fun _ _ _ h => h) (Or.inl ⟨by rfl, ?hy56⟩) (by assumption) ?rest56
    case hy56 => (intro w hSw; (try dsimp only at hSw); simp only [List.getElem_toArray, List.getElem_cons_zero, List.getElem_cons_succ]; go_simp; (try with_reducible rfl))
    (try simp only [Act.put, List.getElem_toArray, List.getElem_cons_zero, List.getElem_cons_succ, List.setIfInBounds_toArray, List.set_cons_zero, List.set_cons_succ])
    refine wpAnyH_take (i := 7) (v := ?v57) rfl (by kernel_rfl) (by kernel_rfl) (by kernel_rfl) (fun _ _ _ h => h) (Or.inl ⟨by rfl, ?hy57⟩) (by assumption) ?rest57
    case hy57 => (intro w hSw; (try dsimp only at hSw); simp only [List.getElem_toArray, List.getElem_cons_zero, List.getElem_cons_succ]; go_simp; (try with_reducible rfl))
    (try simp only [Act.put, List.getElem_toArray, List.getElem_cons_zero, List.getElem_cons_succ, List.setIfInBounds_toArray, List.set_cons_zero, List.set_cons_succ])
    refine wpAnyH_ready (rs := [8]) (by kernel_rfl) (by simp) ?_
    refine AllReadyH.cons rfl (fun KK hK => ?_) AllReadyH.nil
    simp only [List.getElem_toArray, List.getElem_cons_zero, List.getElem_cons_succ]
    go_simp
    refine hK.out _ _ ?hS58 (fun hHeld2 => ?rest58)
    case hS58 => trivial
    clear hK KK
    (try clear hHeld)
    have hHeld := hHeld2
    clear hHeld2
    (try simp only [Act.put, List.getElem_toArray, List.getElem_cons_zero, List.getElem_cons_succ, List.setIfInBounds_toArray, List.set_cons_zero, List.set_cons_succ])
    refine wpAnyH_done (by kernel_rfl) ?_ _
    clear hHeld
    go_wp2
    go_ret
    (try rw [HWB.out])
    have hset := (Out.refl G (G + 1) w7).setCell (p := ⟨G, 10 + c, none⟩) (.inl ⟨Nat.le_refl _, Nat.lt_succ_self _⟩) (.int .i64 ((bv : Int) - 1))
    have hd := HD.out
    have hb := HB5.out
    have ho7 : Out 0 0 w6 w7 := ((Out.refl 0 0 w6).drew).trans HO7.out
    have z5 := Row.lt HP5.out
    have z6 := HO6.out.size
    have z7 := ho7.size
    have z8 := hset.size
    have zb := Row.lt HT6.out.row
    refine ⟨ret_bool (by simp), _, plF_setS HP7.out HC.out _, .inr ⟨b, bw, rfl, (HT6.out.kept ho7 (.inr (Nat.zero_le _)) (.inr (Nat.zero_le _))).kept hset (by omega) (by omega), by omega, by omega, by omega, by omega⟩, ?_⟩
    exact ((((HOO.out.any _ _).trans (HO5.out.wide (by omega) (by omega))).trans (HO6.out.wide (by omega) (by omega))).trans (ho7.any _ _)).trans (hset.wide (by omega) (by omega))
  · go_wp2_with (first
      | (go_at_call 53; refine HPg.out.mono ?_; rintro e w5 ⟨b, bw, rfl, hT5, h51, h52, h53, h54, hp5, ho5⟩; have HT5 := hid_mk hT5; have HB5 : Hid (B ≤ b ∧ B ≤ bw ∧ b ≠ G ∧ bw ≠ G) := ⟨h51, h52, h53, h54⟩; have HP5 := hid_mk hp5; have HR5 := hid_mk (HR4.out.kept ho5 (.inl (by have := HD.out; omega)) (.inl (by have := HD.out; omega))); have HO5 := hid_mk ho5; clear hT5 h51 h52 h53 h54 hp5 ho5)
      | (go_at_call 82; refine (takeClass_any HT5.out HR5.out.tab (c : Int)).mono ?_; rintro e w6 ⟨rfl, hT6, ho6⟩; have HT6 := hid_mk hT6; have HO6 := hid_mk ho6; have HP6 := hid_mk (HP5.out.kept ho6 (by have := HB5.out; omega)); rw [HE.out]; clear hT6 ho6))
    go_ret
    have hd := HD.out
    have hb := HB5.out
    have z5 := Row.lt HP5.out
    have z6 := HO6.out.size
    have zb := Row.lt HT6.out.row
    refine ⟨ret_bool (by simp [hE0]), _, HP6.out, .inr ⟨b, bw, rfl, HT6.out, by omega, by omega, by omega, by omega⟩, ?_⟩
    exact ((HOO.out.any _ _).trans (HO5.out.wide (by omega) (by omega))).trans (HO6.out.wide (by omega) (by omega))
end
end Go.Proofs.YtjbbkeoolodeaacDoor
namespace Go.Proofs.YtjbbkeoolodeaacDoor
open Go.RowKit
set_option linter.unusedVariables false
set_option linter.unusedSimpArgs false

theorem TbAt.kept {w w' : World} {B G n : Nat} {S T : Nat → Int × Int × Int} {tb : Value} (h : TbAt w B G n S T tb) (o : Out G (G + 1) w w') : TbAt w' B G n S T tb := by
  rcases h with h | ⟨b, bw, h1, h2, h3, h4, h5, h6⟩
  · exact .inl h
  · exact .inr ⟨b, bw, h1, h2.kept o (by omega) (by omega), h3, h4, h5, h6⟩
/-- what a plan may hold -/
structure PlOk (n : Nat) (fr fs : Nat → Int) : Prop where
  fr : ∀ c, c < 8 → 0 ≤ fr c ∧ fr c ≤ 64 * (n : Int)
  fs : ∀ c, c < 8 → 0 ≤ fs c ∧ fs c ≤ 32
section
variable {w : World} {lo hi n cap : Nat} {s : Nat → Nat} {r : Raw} {B G : Nat} {T : Nat → Int × Int × Int} {tb : Value} {fr fs : Nat → Int}
theorem planBlock_any (h : RawAt w lo hi s n cap r) (hB : hi ≤ B) (hG : B ≤ G) (hp : Row w G 80 18 (plF (s 14) tb fr fs)) (ht : TbAt w B G n r.S T tb) (hk : PlOk n fr fs) {c : Nat} (hc : c < 8) :
    Calls Tryd.prog 56 #[.pointer (some ⟨G, 0, none⟩), .int .i64 (c : Int)] w fun e w' => ∃ tb', e = .returned (.bool (plB n r T fr fs c).1) ∧ Row w' G 80 18 (plF (s 14) tb' (plB n r T fr fs c).2.2.1 (plB n r T fr fs c).2.2.2) ∧ TbAt w' B G n r.S (plB n r T fr fs c).2.1 tb' ∧ Out B w'.heap.size w w' := by
  have hf := hk.fs c hc
  obtain ⟨y, hy⟩ : ∃ y : Nat, fr c = (y : Int) := ⟨(fr c).toNat, by have := hk.fr c hc; omega⟩
  have hGl := Row.lt hp
  unfold plB
  by_cases h1 : 0 < fs c
  · rw [if_pos h1]
    refine (plB_fresh hp hc h1 hf.2).mono ?_
    rintro e w' ⟨rfl, h2, h3⟩
    exact ⟨tb, rfl, h2, ht.kept h3, h3.wide hG (by have := h3.size; omega)⟩
  · rw [if_neg h1]
    rw [hy, show ((y : Int)).toNat = y from by omega]
    rcases nxr_cases (r.F c) (64 * n) y with ⟨e1, _⟩ | ⟨m, e1, e2, _⟩
    · rw [e1, if_neg (by omega)]
      refine (plB_page h hB hG hp ht hc (by omega) hy e1).mono ?_
      rintro e w' ⟨tb', rfl, h2, h3, h4⟩
      by_cases h5 : tcE T n (c : Int) = 0
      · rw [if_pos h5] at h2 ⊢
        rw [h5]
        exact ⟨tb', rfl, h2, h3, h4⟩
      · rw [if_neg h5] at h2 ⊢
        exact ⟨tb', by rw [show (tcE T n (c : Int) == 0) = false from by simpa using h5], h2, h3, h4⟩
    · rw [e1, if_pos (by omega)]
      refine (plB_free h hp hc (by omega) hy e1 e2).mono ?_
      rintro e w' ⟨rfl, h2, h3⟩
      exact ⟨tb, rfl, h2, ht.kept h3, h3.wide hG (by have := h3.size; omega)⟩
/-- a size -/
def plT (n : Nat) (r : Raw) (T : Nat → Int × Int × Int) (fr fs : Nat → Int) (z : Int) : Bool × (Nat → Int × Int × Int) × (Nat → Int) × (Nat → Int) :=
  if 0 < pagesV z then (trE T n (pagesV z) == 0, trS T n (pagesV z), fr, fs)
  else if 0 ≤ ofV z then plB n r T fr fs (ofV z).toNat
  else (false, T, fr, fs)
theorem of_lt (z : Int) (hp : ¬ 0 < pagesV z) (h : 0 ≤ ofV z) : ∃ c : Nat, ofV z = (c : Int) ∧ c < 8 := by
  have hz : z ≤ 32 ∨ 1024 < z := by
    by_cases hh : 32 < z ∧ z ≤ 1024
    · unfold pagesV at hp; rw [if_pos hh] at hp; omega
    · omega
  have : ofV z ≤ 7 := by
    unfold ofV
    repeat' split
    all_goals omega
  exact ⟨(ofV z).toNat, by omega, by omega⟩
set_option maxRecDepth 100000 in
set_option maxHeartbeats 4000000 in
theorem planTake_any (h : RawAt w lo hi s n cap r) (hB : hi ≤ B) (hG : B ≤ G) (hp : Row w G 80 18 (plF (s 14) tb fr fs)) (ht : TbAt w B G n r.S T tb) (hk : PlOk n fr fs) (z : Int) :
    Calls Tryd.prog 30 #[.pointer (some ⟨G, 0, none⟩), .int .i64 z] w fun e w' => ∃ tb', e = .returned (.bool (plT n r T fr fs z).1) ∧ Row w' G 80 18 (plF (s 14) tb' (plT n r T fr fs z).2.2.1 (plT n r T fr fs z).2.2.2) ∧ TbAt w' B G n r.S (plT n r T fr fs z).2.1 tb' ∧ Out B w'.heap.size w w' := by
  have HP := hid_mk hp
  have HR := hid_mk h
  have HTb := hid_mk ht
  have HK := hid_mk hk
  have HD : Hid (hi ≤ B ∧ B ≤ G ∧ 4 ≤ lo ∧ lo ≤ hi) := ⟨hB, hG, h.glob, by have := h.inn 14 (by omega); simp [ln] at this; omega⟩
  have HPz := hid_mk (calls_out (pages_any z w) (Out.refl 0 0 w))
  have HOf := hid_mk (fun w' => calls_out (of_any z w') (Out.refl 0 0 w'))
  unfold plT
  clear h hB hG hp ht hk
  by_cases h1 : 0 < pagesV z
  · rw [if_pos h1]
    obtain ⟨m, hm⟩ : ∃ m, pagesV z = m := ⟨_, rfl⟩
    rw [hm] at h1 HPz ⊢
    obtain ⟨E, hE⟩ : ∃ E, trE T n m = E := ⟨_, rfl⟩
    have HE := hid_mk hE
    rw [hE]
    clear hm hE
    go_enter Tryd.func30, Tryd.ntmps30
    go_wp2_with (first
      | (go_at_call 52; refine HPz.out.mono ?_; rintro e w4 ⟨rfl, hoo⟩; have HP4 := hid_mk (HP.out.kept hoo (.inr (Nat.zero_le _))); have HR4 := hid_mk (HR.out.quiet hoo); have HPg := hid_mk (planPages_any (HR.out.quiet hoo) HD.out.1 HD.out.2.1 HP4.out (HTb.out.quiet hoo)); have HOO := hid_mk hoo; clear hoo)
      | (go_at_call 53; refine HPg.out.mono ?_; rintro e w5 ⟨b, bw, rfl, hT5, h51, h52, h53, h54, hp5, ho5⟩; have HT5 := hid_mk hT5; have HB5 : Hid (B ≤ b ∧ B ≤ bw ∧ b ≠ G ∧ bw ≠ G) := ⟨h51, h52, h53, h54⟩; have HP5 := hid_mk hp5; have HR5 := hid_mk (HR4.out.kept ho5 (.inl (by have := HD.out; omega)) (.inl (by have := HD.out; omega))); have HO5 := hid_mk ho5; clear hT5 h51 h52 h53 h54 hp5 ho5)
      | (go_at_call 54; refine (takeRun_any HT5.out HR5.out.tab m).mono ?_; rintro e w6 ⟨rfl, hT6, ho6⟩; have HT6 := hid_mk hT6; have HO6 := hid_mk ho6; have HP6 := hid_mk (HP5.out.kept ho6 (by have := HB5.out; omega)); rw [HE.out]; clear hT6 ho6))
    go_ret
    have hd := HD.out
    have hb := HB5.out
    have z5 := Row.lt HP5.out
    have z6 := HO6.out.size
    have zb := Row.lt HT6.out.row
    refine ⟨_, ?_, HP6.out, .inr ⟨b, bw, rfl, HT6.out, by omega, by omega, by omega, by omega⟩, ?_⟩
    · exact ret_bool rfl
    · exact ((HOO.out.any _ _).trans (HO5.out.wide (by omega) (by omega))).trans (HO6.out.wide (by omega) (by omega))
  · rw [if_neg h1]
    obtain ⟨m, hm⟩ : ∃ m, pagesV z = m := ⟨_, rfl⟩
    have h1' : m ≤ 0 := by omega
    by_cases h2 : 0 ≤ ofV z
    · rw [if_pos h2]
      obtain ⟨c, hc, hc8⟩ := of_lt z h1 h2
      rw [hc] at HOf ⊢
      rw [show ((c : Int)).toNat = c from by omega]
      rw [hm] at HPz
      have k0 : (0 : Int) ≤ (c : Int) := by omega
      have HC := hid_mk hc8
      obtain ⟨⟨ok, T', fr', fs'⟩, hq⟩ : ∃ q, plB n r T fr fs c = q := ⟨_, rfl⟩
      have HQ := hid_mk hq
      rw [hq]
      clear h1 h2 hm hc hc8 hq
      dsimp only
      go_enter Tryd.func30, Tryd.ntmps30
      go_wp2_with (first
        | (go_at_call 52; refine HPz.out.mono ?_; rintro e w4 ⟨rfl, hoo⟩; have HOO := hid_mk hoo; clear hoo)
        | (go_at_call 55; refine (HOf.out _).mono ?_; rintro e w5 ⟨rfl, ho5⟩; have HO5 := hid_mk (HOO.out.trans ho5); clear ho5; have HBk := hid_mk (planBlock_any (HR.out.quiet HO5.out) HD.out.1 HD.out.2.1 (HP.out.kept HO5.out (.inr (Nat.zero_le _))) (HTb.out.quiet HO5.out) HK.out HC.out); rw [HQ.out] at HBk)
        | (go_at_call 56; refine HBk.out.mono ?_; rintro e w6 ⟨tb', rfl, hp6, ht6, ho6⟩; have HP6 := hid_mk hp6; have HT6 := hid_mk ht6; have HO6 := hid_mk ho6; clear hp6 ht6 ho6; dsimp only))
      go_ret
      exact ⟨_, rfl, HP6.out, HT6.out, (HO5.out.any _ _).trans HO6.out⟩
    · rw [if_neg h2]
      obtain ⟨o, ho⟩ : ∃ o, ofV z = o := ⟨_, rfl⟩
      rw [ho] at HOf h2
      rw [hm] at HPz
      have h2' : o < 0 := by omega
      clear h1 h2 hm ho
      dsimp only
      go_enter Tryd.func30, Tryd.ntmps30
      go_wp2_with (first
        | (go_at_call 52; refine HPz.out.mono ?_; rintro e w4 ⟨rfl, hoo⟩; have HOO := hid_mk hoo; clear hoo)
        | (go_at_call 55; refine (HOf.out _).mono ?_; rintro e w5 ⟨rfl, ho5⟩; have HO5 := hid_mk (HOO.out.trans ho5); clear ho5))
      go_ret
      exact ⟨rfl, _, HP.out.kept HO5.out (.inr (Nat.zero_le _)), HTb.out.quiet HO5.out, HO5.out.any _ _⟩
end
end Go.Proofs.YtjbbkeoolodeaacDoor
namespace Go.Proofs.YtjbbkeoolodeaacDoor
open Go.RowKit
set_option linter.unusedVariables false
set_option linter.unusedSimpArgs false

theorem plB_ok {n : Nat} {r : Raw} {T : Nat → Int × Int × Int} {fr fs : Nat → Int} (h : PlOk n fr fs) {c : Nat} (hc : c < 8) : PlOk n (plB n r T fr fs c).2.2.1 (plB n r T fr fs c).2.2.2 := by
  unfold plB
  by_cases h1 : 0 < fs c
  · rw [if_pos h1]
    refine ⟨h.fr, fun d hd => ?_⟩
    show 0 ≤ updI fs c (fs c - 1) d ∧ updI fs c (fs c - 1) d ≤ 32
    unfold updI
    by_cases e : d = c
    · rw [if_pos e]; have := h.fs c hc; omega
    · rw [if_neg e]; exact h.fs d hd
  · rw [if_neg h1]
    rcases nxr_cases (r.F c) (64 * n) (fr c).toNat with ⟨e1, _⟩ | ⟨m, e1, e2, _⟩
    · rw [e1, if_neg (by omega)]
      by_cases h5 : tcE T n (c : Int) = 0
      · rw [if_pos h5]
        refine ⟨h.fr, fun d hd => ?_⟩
        show 0 ≤ updI fs c (blocksV (c : Int) - 1) d ∧ updI fs c (blocksV (c : Int) - 1) d ≤ 32
        unfold updI
        by_cases e : d = c
        · rw [if_pos e]; obtain ⟨x', y', h1, h2, h3, h4⟩ := class_nums hc; omega
        · rw [if_neg e]; exact h.fs d hd
      · rw [if_neg h5]; exact h
    · rw [e1, if_pos (by omega)]
      refine ⟨fun d hd => ?_, h.fs⟩
      show 0 ≤ updI fr c ((m : Int) + 1) d ∧ updI fr c ((m : Int) + 1) d ≤ 64 * (n : Int)
      unfold updI
      by_cases e : d = c
      · rw [if_pos e]; omega
      · rw [if_neg e]; exact h.fr d hd
theorem plT_ok {n : Nat} {r : Raw} {T : Nat → Int × Int × Int} {fr fs : Nat → Int} (h : PlOk n fr fs) (z : Int) : PlOk n (plT n r T fr fs z).2.2.1 (plT n r T fr fs z).2.2.2 := by
  unfold plT
  by_cases h1 : 0 < pagesV z
  · rw [if_pos h1]; exact h
  · rw [if_neg h1]
    by_cases h2 : 0 ≤ ofV z
    · rw [if_pos h2]
      obtain ⟨c, hc, hc8⟩ := of_lt z h1 h2
      rw [hc, show ((c : Int)).toNat = c from by omega]
      exact plB_ok h hc8
    · rw [if_neg h2]; exact h
/-- the sizes, one behind the other, from a plan on -/
def plAll (n : Nat) (r : Raw) : (Nat → Int × Int × Int) → (Nat → Int) → (Nat → Int) → List Int → Bool
  | _, _, _, [] => true
  | T, fr, fs, z :: l => (plT n r T fr fs z).1 && plAll n r (plT n r T fr fs z).2.1 (plT n r T fr fs z).2.2.1 (plT n r T fr fs z).2.2.2 l
section
variable {w : World} {lo hi n cap : Nat} {s : Nat → Nat} {r : Raw}
set_option maxRecDepth 100000 in
set_option maxHeartbeats 4000000 in
theorem spFits_any (h : RawAt w lo hi s n cap r) {l : List Int} {p : Option Addr} {cp : Nat} (hl : IntsIs w p l) (hll : (l.length : Int) < 9223372036854775807) :
    Calls Tryd.prog 10 #[.pointer (some ⟨s 14, 0, none⟩), .slice p l.length cp] w fun e w' => e = .returned (.bool (plAll n r r.S (fun _ => 0) (fun _ => 0) l)) ∧ Out 0 0 w w' := by
  have HR := hid_mk h
  have HLi := hid_mk hl
  have HT : Hid (hi ≤ w.heap.size ∧ 4 ≤ w.heap.size) := ⟨h.top, h.tab.lt⟩
  clear h hl
  go_enter Tryd.func10, Tryd.ntmps10
  go_wp2_with (go_at_call 25; refine calls_same (self_any _ _) ?_)
  obtain ⟨W1, hW1⟩ : ∃ W1, w.alloc (.cells #[.pointer (some ⟨s 14, 0, none⟩), .pointer none, .int .i64 0, .int .i64 0, .int .i64 0, .int .i64 0, .int .i64 0, .int .i64 0, .int .i64 0, .int .i64 0, .int .i64 0, .int .i64 0, .int .i64 0, .int .i64 0, .int .i64 0, .int .i64 0, .int .i64 0, .int .i64 0] 80) = W1 := ⟨_, rfl⟩
  obtain ⟨G, hG⟩ : ∃ G, w.heap.size = G := ⟨_, rfl⟩
  have HO1 : Hid (Out 0 0 w W1) := by rw [← hW1]; exact (Out.refl 0 0 w).alloc _
  have HP1 : Hid (Row W1 G 80 18 (plF (s 14) (.pointer none) (fun _ => 0) (fun _ => 0))) := by
    rw [← hW1, ← hG]
    refine ⟨_, heap_alloc_new _ _, by simp, fun i hi => ?_⟩
    have : i = 0 ∨ i = 1 ∨ i = 2 ∨ i = 3 ∨ i = 4 ∨ i = 5 ∨ i = 6 ∨ i = 7 ∨ i = 8 ∨ i = 9 ∨ i = 10 ∨ i = 11 ∨ i = 12 ∨ i = 13 ∨ i = 14 ∨ i = 15 ∨ i = 16 ∨ i = 17 := by omega
    rcases this with rfl | rfl | rfl | rfl | rfl | rfl | rfl | rfl | rfl | rfl | rfl | rfl | rfl | rfl | rfl | rfl | rfl | rfl <;> rfl
  rw [hW1, hG]
  rw [hG] at HT
  have HGw := hid_mk hG
  clear hW1 hG
  go_loopw [13] (fun u wr => ∃ (i : Nat) (T : Nat → Int × Int × Int) (fr fs : Nat → Int) (tb : Value), u = .int .i64 (i : Int) ∧ i ≤ l.length ∧ PlOk n fr fs ∧ RawAt wr lo hi s n cap r ∧ Row wr G 80 18 (plF (s 14) tb fr fs) ∧ TbAt wr G G n r.S T tb ∧ plAll n r r.S (fun _ => 0) (fun _ => 0) l = plAll n r T fr fs (l.drop i) ∧ Out 0 0 w wr) (fun u _ => ((l.length : Int) - intOf u).toNat)
  case atStart => exact ⟨0, r.S, fun _ => 0, fun _ => 0, .pointer none, rfl, Nat.zero_le _, ⟨fun c _ => ⟨Int.le_refl _, by omega⟩, fun c _ => ⟨Int.le_refl _, by omega⟩⟩, HR.out.quiet HO1.out, HP1.out, .inl ⟨rfl, rfl⟩, rfl, HO1.out⟩
  case round =>
    clear HP1 HO1
    obtain ⟨i, T, fr, fs, tb, rfl, i1, i2, i3, i4, i5, i6, i7⟩ := hrel
    have j0 : (0 : Int) ≤ (i : Int) := by omega
    by_cases hlt : (i : Int) < (l.length : Int)
    · obtain ⟨g, rfl, hg, hgc⟩ : ∃ g, p = some ⟨g, 0, none⟩ ∧ g < w.heap.size ∧ ∀ j, j < l.length → w.cell? ⟨g, j, none⟩ = some (.int .i64 (l[j]?.getD 0)) := by
        rcases HLi.out with e | e
        · rw [e] at hlt; simp at hlt; omega
        · exact e
      have q0 := i7.cell (hgc i (by omega)) (.inr (Nat.zero_le _))
      obtain ⟨z, hz⟩ : ∃ z, l[i]?.getD 0 = z := ⟨_, rfl⟩
      rw [hz] at q0
      have hdr : l.drop i = z :: l.drop (i + 1) := by
        rw [List.drop_eq_getElem_cons (by omega)]
        rw [List.getElem?_eq_getElem (by omega)] at hz
        simp at hz
        rw [hz]
      rw [hdr] at i6
      have hpk := plT_ok (r := r) (T := T) i2 z
      have HTk := hid_mk (planTake_any i3 HT.out.1 (Nat.le_refl G) i4 i5 i2 z)
      rw [show plAll n r T fr fs (z :: l.drop (i + 1)) = ((plT n r T fr fs z).1 && plAll n r (plT n r T fr fs z).2.1 (plT n r T fr fs z).2.2.1 (plT n r T fr fs z).2.2.2 (l.drop (i + 1))) from rfl] at i6
      obtain ⟨⟨ok, T', fr', fs'⟩, hq⟩ : ∃ q, plT n r T fr fs z = q := ⟨_, rfl⟩
      rw [hq] at HTk hpk i6
      dsimp only at HTk hpk i6
      have A := hid_mk (And.intro i3 (And.intro i7 (And.intro hpk i6)))
      clear i2 i3 i4 i5 i6 i7 hz hdr hq hpk hg hgc
      cases ok with
      | true =>
        go_wp2_with (go_at_call 30; refine HTk.out.mono ?_; rintro e w6 ⟨tb', rfl, hp6, ht6, ho6⟩; have HP6 := hid_mk hp6; have HT6 := hid_mk ht6; have HO6 := hid_mk ho6; clear hp6 ht6 ho6)
        have hgw := HGw.out
        have hT := HT.out
        exact ⟨⟨i + 1, T', fr', fs', tb', by congr 1, by omega, A.out.2.2.1, A.out.1.kept HO6.out (.inl (by omega)) (.inl (by omega)), HP6.out, HT6.out, by rw [A.out.2.2.2]; rfl, A.out.2.1.past HO6.out (by omega)⟩, by simp [intOf]; omega⟩
      | false =>
        go_wp2_with (go_at_call 30; refine HTk.out.mono ?_; rintro e w6 ⟨tb', rfl, hp6, ht6, ho6⟩; have HO6 := hid_mk ho6; clear hp6 ht6 ho6)
        go_ret
        have hgw := HGw.out
        exact ⟨ret_bool (by rw [A.out.2.2.2]; rfl), A.out.2.1.past HO6.out (by omega)⟩
    · have e : i = l.length := by omega
      subst e
      rw [List.drop_length] at i6
      have A := hid_mk (And.intro i6 i7)
      clear i2 i3 i4 i5 i6 i7
      go_wp2
      go_ret
      exact ⟨ret_bool (by rw [A.out.1]; rfl), A.out.2⟩
end
end Go.Proofs.YtjbbkeoolodeaacDoor
