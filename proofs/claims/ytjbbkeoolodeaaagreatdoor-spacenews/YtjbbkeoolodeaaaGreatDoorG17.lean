import Derived.Test.YtjbbkeoolodeaaaGreatDoorG14
namespace Go.Proofs.YtjbbkeoolodeaaaGreatDoor
open Go.RowKit
set_option linter.unusedVariables false
set_option linter.unusedSimpArgs false

theorem none_any (n : Nat) (h : n ≤ 262144) (w : World) (hT : Tab w) : Calls Tryz.prog 43 #[.int .i64 n] w fun e w' => e = .returned (.pointer (some ⟨w.heap.size + 1, 0, none⟩)) ∧ MapAt w' w.heap.size (w.heap.size + 2) (w.heap.size + 1) n (fun _ => false) ∧ Out 0 0 w w' ∧ w'.heap.size = w.heap.size + 2 := by
  have HB : Hid (Calls Tryz.prog 90 #[.int .i64 n] w fun e w' => e = .returned (.tuple #[.pointer (some ⟨w.heap.size + 1, 0, none⟩), .int .i64 0]) ∧ MapAt w' w.heap.size (w.heap.size + 2) (w.heap.size + 1) n (fun _ => false) ∧ Out 0 0 w w' ∧ w'.heap.size = w.heap.size + 2) := by
    show Calls _ _ _ _ _
    have h0 : (0 : Int) ≤ (n : Int) := by omega
    have h1 : (n : Int) ≤ 262144 := by omega
    have hn : nw n ≤ 4096 := by unfold nw; omega
    have hmk := run_make_row' (P := Tryz.prog) 159 158 (.int .u64 0) 8 Tryz.underlying159 info_u64 rfl .i64 .i64 (nw n) (by omega) (by omega)
    have he : ((n : Int) + 64 - 1) / 64 = ((nw n : Nat) : Int) := by unfold nw; omega
    have HM := hid_mk (mapAt_new n w h hT)
    rw [World.size_alloc, World.size_alloc] at HM
    clear hT hn
    go_enter Tryz.func90, Tryz.ntmps90
    go_wp2
    go_ret2
    exact ⟨rfl, HM.out, ((Out.refl _ _ _).alloc _).alloc _, by simp⟩
  clear hT h
  go_enter Tryz.func43, Tryz.ntmps43
  go_wp2_with (go_at_call 90; refine HB.out.mono ?_; rintro e w1 ⟨rfl, h1, h2, h3⟩)
  go_ret
  exact ⟨rfl, h1, h2, h3⟩
/-- the parts that New has laid -/
def NewLay (w W : World) (n tb bA bO l bS bs : Nat) : Prop :=
  Out 0 0 w W ∧ W.heap[bA]? = some (.cells (madeCells #[.int .i64 0] (64 * n)) 3) ∧ W.heap[bO]? = some (.map #[] 0) ∧ W.heap[bS]? = some (.map #[] 0) ∧ MapAt W l (l + 2) (l + 1) (64 * n) (fun _ => false) ∧
    W.heap[bs]? = some (.cells #[.slice (some ⟨bA, 0, none⟩) (64 * n) (64 * n), .pointer (some ⟨tb, 0, none⟩), .map (some bO), .pointer (some ⟨l + 1, 0, none⟩), .pointer none, .pointer none, .pointer none, .pointer none, .pointer none, .pointer none, .pointer none, .pointer none, .map (some bS), .int .i64 0] 85) ∧
    (w.heap.size ≤ bA ∧ w.heap.size ≤ bO ∧ w.heap.size ≤ l ∧ w.heap.size ≤ bS ∧ W.heap.size = bs + 1) ∧ (bA < bs ∧ bO < bs ∧ bS < bs ∧ l + 2 ≤ bs) ∧
    (bA ≠ bO ∧ bA ≠ bS ∧ bO ≠ bS ∧ (bA < l ∨ l + 2 ≤ bA) ∧ (bO < l ∨ l + 2 ≤ bO) ∧ (bS < l ∨ l + 2 ≤ bS))
theorem wp_post {P : Program} {c : Code} {Q : Exit → Act → World → Prop} {Post : Act → World → Prop} {a : Act} {w : World} (h : c.wp P (onlyN Post) a w) (hq : ∀ a w, Post a w → Q .normal a w) : c.wp P Q a w :=
  wp_mono h fun e a w he => by
    cases e with
    | normal => exact hq a w he
    | ret => exact he.elim
    | exit _ => exact he.elim
    | goto _ => exact he.elim
    | panic _ => exact he.elim
    | outgrown => exact he.elim
theorem made1 {i k : Nat} (h : i < k) : (madeCells #[Value.int .i64 0] k)[i]? = some (.int .i64 0) := by
  simp [madeCells, h, Nat.mod_one]
def baseN (bA tb bO l bS n : Nat) : Nat → Value := fun j => if j = 0 then .slice (some ⟨bA, 0, none⟩) (64 * n) (64 * n) else if j = 1 then .pointer (some ⟨tb, 0, none⟩) else if j = 2 then .map (some bO) else if j = 3 then .pointer (some ⟨l + 1, 0, none⟩) else if j < 12 then .pointer none else if j = 12 then .map (some bS) else .int .i64 0
def cellN (bA tb bO l bS n i : Nat) (f : Nat → Nat) (j : Nat) : Value := if 4 ≤ j ∧ j < 4 + i then .pointer (some ⟨f (j - 4) + 1, 0, none⟩) else baseN bA tb bO l bS n j
theorem base_at {bA tb bO l bS n j : Nat} (hj : j < 14) : (#[.slice (some ⟨bA, 0, none⟩) (64 * n) (64 * n), .pointer (some ⟨tb, 0, none⟩), .map (some bO), .pointer (some ⟨l + 1, 0, none⟩), .pointer none, .pointer none, .pointer none, .pointer none, .pointer none, .pointer none, .pointer none, .pointer none, .map (some bS), .int .i64 0] : Array Value)[j]? = some (baseN bA tb bO l bS n j) := by
  have : j = 0 ∨ j = 1 ∨ j = 2 ∨ j = 3 ∨ j = 4 ∨ j = 5 ∨ j = 6 ∨ j = 7 ∨ j = 8 ∨ j = 9 ∨ j = 10 ∨ j = 11 ∨ j = 12 ∨ j = 13 := by omega
  rcases this with rfl | rfl | rfl | rfl | rfl | rfl | rfl | rfl | rfl | rfl | rfl | rfl | rfl | rfl <;> rfl
set_option maxRecDepth 100000 in
set_option maxHeartbeats 8000000 in
theorem spNew_yes {w : World} (hT : Tab w) (n : Nat) (h1 : 1 ≤ n) (h2 : n ≤ 4096) :
    Calls Tryz.prog 14 #[.int .i64 n] w fun e w' => ∃ s cap, e = .returned (.tuple #[.pointer (some ⟨s 14, 0, none⟩), .int .i64 0]) ∧ RawAt w' w.heap.size w'.heap.size s n cap ⟨fun _ => 0, fun _ => (0, 0, 0), fun _ _ => false, fun _ => false, fun _ => none, fun _ => none, 0⟩ ∧ Out 0 0 w w' := by
  have HP := hid_mk (new_yes hT n h1 h2)
  have HNone := hid_mk (fun w' (hT' : Tab w') => none_any (64 * n) (by omega) w' hT')
  rw [show ((64 * n : Nat) : Int) = 64 * (n : Int) from by omega] at HNone
  have hmm := @run_makeMap Tryz.prog
  have hmk := run_make_row' (P := Tryz.prog) 27 3 (.int .i64 0) 8 Tryz.underlying27 (by kernel_rfl) rfl .i64 .i64 (64 * n) (by omega) (by omega)
  rw [show ((64 * n : Nat) : Int) = 64 * (n : Int) from by omega] at hmk
  have b0 : (1 : Int) ≤ (n : Int) := by omega
  have b1 : (n : Int) ≤ 4096 := by omega
  have e4 : ((0 : Int) != 0) = false := rfl
  have HT0 := hid_mk hT
  have HN := hid_mk (And.intro h1 h2)
  have hcm : (n : Int) * 64 = 64 * (n : Int) := by omega
  clear hT h1 h2
  go_enter Tryz.func14, Tryz.ntmps14
  go_wp2_with (first | (go_at_call 42; refine HP.out.mono ?_; rintro e w1 ⟨rfl, ht, ho, hs⟩; have HTb := hid_mk ht; have HO1 := hid_mk ho; have HS1 := hid_mk hs; clear ht ho hs))
  obtain ⟨tb, htb⟩ : ∃ tb, w.heap.size + 1 = tb := ⟨_, rfl⟩
  rw [htb] at HTb ⊢
  have HTB := hid_mk htb
  have HTab : Hid (∀ w', Out 0 0 w1 w' → Tab w') := fun w' o => HT0.out.quiet (HO1.out.trans o)
  clear htb
  refine wp_post (Post := fun a W => ∃ bA bO l bS bs, a = { tmps := #[.int .i64 (n : Int), undef, .pointer none, .int .i64 0, .pointer (some ⟨tb, 0, none⟩), .int .i64 0, .int .i64 (64 * (n : Int)), .pointer (some ⟨bs, 0, none⟩), undef, .tuple #[.pointer (some ⟨tb, 0, none⟩), .int .i64 0], .int .i64 (n : Int), .tuple #[.pointer (some ⟨tb, 0, none⟩), .int .i64 0], .pointer (some ⟨tb, 0, none⟩), .int .i64 0, .int .i64 0, .bool false, undef, .int .i64 (n : Int), .int .i64 (64 * (n : Int)), .int .i64 (64 * (n : Int)), .slice (some ⟨bA, 0, none⟩) (64 * n) (64 * n), .pointer (some ⟨tb, 0, none⟩), .map (some bO), .int .i64 (64 * (n : Int)), .pointer (some ⟨l + 1, 0, none⟩), .map (some bS), .agg #[.slice (some ⟨bA, 0, none⟩) (64 * n) (64 * n), .pointer (some ⟨tb, 0, none⟩), .map (some bO), .pointer (some ⟨l + 1, 0, none⟩), .pointer none, .pointer none, .pointer none, .pointer none, .pointer none, .pointer none, .pointer none, .pointer none, .map (some bS), .int .i64 0], .pointer (some ⟨bs, 0, none⟩), undef, undef, undef, undef, undef, undef, undef, undef, undef, undef, undef, undef], defers := [] } ∧ NewLay w1 W n tb bA bO l bS bs) ?_ ?_
  · refine wp_region_held_drew (S := fun _ => True) (by kernel_rfl) ?hS1 (fun hHeld => ?rest1)
    case hS1 => trivial
    clear hHeld
    obtain ⟨Z, hZ⟩ : ∃ Z, w1.drew = Z := ⟨_, rfl⟩
    have OZ : Out 0 0 w1 Z := by rw [← hZ]; exact (Out.refl 0 0 w1).drew
    rw [hZ]
    clear hZ
    have hHeld : (fun (_ : World) => True) Z := trivial
    refine wpAnyH_take (i := 0) (v := ?v2) rfl (by kernel_rfl) (by kernel_rfl) (by kernel_rfl) (fun _ _ _ h => h) (Or.inl ⟨by rfl, ?hy2⟩) (by assumption) ?rest2
    case hy2 => (intro w hSw; (try dsimp only at hSw); simp only [List.getElem_toArray, List.getElem_cons_zero, List.getElem_cons_succ]; go_simp; (try with_reducible rfl))
    (try simp only [Act.put, List.getElem_toArray, List.getElem_cons_zero, List.getElem_cons_succ, List.setIfInBounds_toArray, List.set_cons_zero, List.set_cons_succ])
    refine wpAnyH_take (i := 2) (v := ?v3) rfl (by kernel_rfl) (by kernel_rfl) (by kernel_rfl) (fun _ _ _ h => h) (Or.inl ⟨by rfl, ?hy3⟩) (by assumption) ?rest3
    case hy3 => (intro w hSw; (try dsimp only at hSw); simp only [List.getElem_toArray, List.getElem_cons_zero, List.getElem_cons_succ]; go_simp; (try with_reducible rfl))
    (try simp only [Act.put, List.getElem_toArray, List.getElem_cons_zero, List.getElem_cons_succ, List.setIfInBounds_toArray, List.set_cons_zero, List.set_cons_succ])
    refine wpAnyH_take (i := 4) (v := ?v4) rfl (by kernel_rfl) (by kernel_rfl) (by kernel_rfl) (fun _ _ _ h => h) (Or.inl ⟨by rfl, ?hy4⟩) (by assumption) ?rest4
    case hy4 => (intro w hSw; (try dsimp only at hSw); simp only [List.getElem_toArray, List.getElem_cons_zero, List.getElem_cons_succ]; go_simp; (try with_reducible rfl))
    (try simp only [Act.put, List.getElem_toArray, List.getElem_cons_zero, List.getElem_cons_succ, List.setIfInBounds_toArray, List.set_cons_zero, List.set_cons_succ])
    refine wpAnyH_ready (rs := [1, 3, 5, 6]) (by kernel_rfl) (by simp) ?_
    refine AllReadyH.cons rfl (fun KK hK => ?_) ?_
    · simp only [List.getElem_toArray, List.getElem_cons_zero, List.getElem_cons_succ]
      go_simp
      obtain ⟨bA, hbA⟩ : ∃ b, Z.heap.size = b := ⟨_, rfl⟩
      have gBA : w1.heap.size ≤ bA := by rw [← hbA]; exact OZ.size
      obtain ⟨WA, hW⟩ : ∃ W, Z.alloc (.cells (madeCells #[.int .i64 0] (64 * n)) 3) = W := ⟨_, rfl⟩
      have o1 : Out 0 0 Z WA := by rw [← hW]; exact (Out.refl 0 0 _).alloc _
      have s1 : WA.heap.size = bA + 1 := by rw [← hW, ← hbA]; exact World.size_alloc _ _
      have fA : WA.heap[bA]? = some (.cells (madeCells #[.int .i64 0] (64 * n)) 3) := by rw [← hW, ← hbA]; exact heap_alloc_new _ _
      have zA : bA < WA.heap.size := by omega
      have O2 : Out 0 0 w1 WA := OZ.trans o1
      (try rw [hW])
      (try rw [hbA])
      (try clear O1)
      have O1 := O2
      clear O2 hW o1 s1 hbA
      refine hK.out _ _ ?hS5 (fun hHeld2 => ?rest5)
      case hS5 => trivial
      clear hK KK
      (try clear hHeld)
      have hHeld := hHeld2
      clear hHeld2
      (try simp only [Act.put, List.getElem_toArray, List.getElem_cons_zero, List.getElem_cons_succ, List.setIfInBounds_toArray, List.set_cons_zero, List.set_cons_succ])
      refine wpAnyH_ready (rs := [3, 5, 6]) (by kernel_rfl) (by simp) ?_
      refine AllReadyH.cons rfl (fun KK hK => ?_) ?_
      · simp only [List.getElem_toArray, List.getElem_cons_zero, List.getElem_cons_succ]
        go_simp
        obtain ⟨bO, hbO⟩ : ∃ b, WA.heap.size = b := ⟨_, rfl⟩
        have gBO : w1.heap.size ≤ bO := by rw [← hbO]; exact O1.size
        have pAbO : bA < bO := by rw [← hbO]; exact zA
        obtain ⟨WAO, hW⟩ : ∃ W, WA.alloc (.map #[] 0) = W := ⟨_, rfl⟩
        have o1 : Out 0 0 WA WAO := by rw [← hW]; exact (Out.refl 0 0 _).alloc _
        have s1 : WAO.heap.size = bO + 1 := by rw [← hW, ← hbO]; exact World.size_alloc _ _
        have fO : WAO.heap[bO]? = some (.map #[] 0) := by rw [← hW, ← hbO]; exact heap_alloc_new _ _
        have zO : bO < WAO.heap.size := by omega
        replace fA := o1.heap fA (.inr (Nat.zero_le _))
        replace zA := Nat.lt_of_lt_of_le zA o1.size
        have O2 : Out 0 0 w1 WAO := O1.trans o1
        (try rw [hW])
        (try rw [hbO])
        (try clear O1)
        have O1 := O2
        clear O2 hW o1 s1 hbO
        refine hK.out _ _ ?hS6 (fun hHeld2 => ?rest6)
        case hS6 => trivial
        clear hK KK
        (try clear hHeld)
        have hHeld := hHeld2
        clear hHeld2
        (try simp only [Act.put, List.getElem_toArray, List.getElem_cons_zero, List.getElem_cons_succ, List.setIfInBounds_toArray, List.set_cons_zero, List.set_cons_succ])
        refine wpAnyH_ready (rs := [5, 6]) (by kernel_rfl) (by simp) ?_
        refine AllReadyH.cons rfl (fun KK hK => ?_) ?_
        · simp only [List.getElem_toArray, List.getElem_cons_zero, List.getElem_cons_succ]
          go_simp
          refine (HNone.out _ (HTab.out _ O1)).mono ?_
          rintro e WAOL ⟨rfl, fL, o1, s1⟩
          obtain ⟨l, hl⟩ : ∃ l, WAO.heap.size = l := ⟨_, rfl⟩
          rw [hl] at fL s1
          have gL : w1.heap.size ≤ l := by rw [← hl]; exact O1.size
          have pAl : bA < l := by rw [← hl]; exact zA
          have pOl : bO < l := by rw [← hl]; exact zO
          have zL : l + 2 ≤ WAOL.heap.size := by omega
          replace fA := o1.heap fA (.inr (Nat.zero_le _))
          replace zA := Nat.lt_of_lt_of_le zA o1.size
          replace fO := o1.heap fO (.inr (Nat.zero_le _))
          replace zO := Nat.lt_of_lt_of_le zO o1.size
          have O2 : Out 0 0 w1 WAOL := O1.trans o1
          (try rw [hl])
          (try clear O1)
          have O1 := O2
          clear O2 o1 s1 hl
          refine hK.out _ _ ?hS7 (fun hHeld2 => ?rest7)
          case hS7 => trivial
          clear hK KK
          (try clear hHeld)
          have hHeld := hHeld2
          clear hHeld2
          (try simp only [Act.put, List.getElem_toArray, List.getElem_cons_zero, List.getElem_cons_succ, List.setIfInBounds_toArray, List.set_cons_zero, List.set_cons_succ])
          refine wpAnyH_ready (rs := [6]) (by kernel_rfl) (by simp) ?_
          refine AllReadyH.cons rfl (fun KK hK => ?_) ?_
          · simp only [List.getElem_toArray, List.getElem_cons_zero, List.getElem_cons_succ]
            go_simp
            obtain ⟨bS, hbS⟩ : ∃ b, WAOL.heap.size = b := ⟨_, rfl⟩
            have gBS : w1.heap.size ≤ bS := by rw [← hbS]; exact O1.size
            have pAbS : bA < bS := by rw [← hbS]; exact zA
            have pObS : bO < bS := by rw [← hbS]; exact zO
            have pLbS : l + 2 ≤ bS := by rw [← hbS]; exact zL
            obtain ⟨WAOLS, hW⟩ : ∃ W, WAOL.alloc (.map #[] 0) = W := ⟨_, rfl⟩
            have o1 : Out 0 0 WAOL WAOLS := by rw [← hW]; exact (Out.refl 0 0 _).alloc _
            have s1 : WAOLS.heap.size = bS + 1 := by rw [← hW, ← hbS]; exact World.size_alloc _ _
            have fS : WAOLS.heap[bS]? = some (.map #[] 0) := by rw [← hW, ← hbS]; exact heap_alloc_new _ _
            have zS : bS < WAOLS.heap.size := by omega
            replace fA := o1.heap fA (.inr (Nat.zero_le _))
            replace zA := Nat.lt_of_lt_of_le zA o1.size
            replace fO := o1.heap fO (.inr (Nat.zero_le _))
            replace zO := Nat.lt_of_lt_of_le zO o1.size
            replace fL := fL.quiet o1
            replace zL := Nat.le_trans zL o1.size
            have O2 : Out 0 0 w1 WAOLS := O1.trans o1
            (try rw [hW])
            (try rw [hbS])
            (try clear O1)
            have O1 := O2
            clear O2 hW o1 s1 hbS
            refine hK.out _ _ ?hS8 (fun hHeld2 => ?rest8)
            case hS8 => trivial
            clear hK KK
            (try clear hHeld)
            have hHeld := hHeld2
            clear hHeld2
            (try simp only [Act.put, List.getElem_toArray, List.getElem_cons_zero, List.getElem_cons_succ, List.setIfInBounds_toArray, List.set_cons_zero, List.set_cons_succ])
            refine wpAnyH_take (i := 7) (v := ?v9) rfl (by kernel_rfl) (by kernel_rfl) (by kernel_rfl) (fun _ _ _ h => h) (Or.inl ⟨by rfl, ?hy9⟩) (by assumption) ?rest9
            case hy9 => (intro w hSw; (try dsimp only at hSw); simp only [List.getElem_toArray, List.getElem_cons_zero, List.getElem_cons_succ]; go_simp; (try with_reducible rfl))
            (try simp only [Act.put, List.getElem_toArray, List.getElem_cons_zero, List.getElem_cons_succ, List.setIfInBounds_toArray, List.set_cons_zero, List.set_cons_succ])
            refine wpAnyH_ready (rs := [8]) (by kernel_rfl) (by simp) ?_
            refine AllReadyH.cons rfl (fun KK hK => ?_) ?_
            · simp only [List.getElem_toArray, List.getElem_cons_zero, List.getElem_cons_succ]
              go_simp
              obtain ⟨bs, hbs⟩ : ∃ b, WAOLS.heap.size = b := ⟨_, rfl⟩
              obtain ⟨WAOLSB, hW⟩ : ∃ W, WAOLS.alloc (.cells #[.slice (some ⟨bA, 0, none⟩) (64 * n) (64 * n), .pointer (some ⟨tb, 0, none⟩), .map (some bO), .pointer (some ⟨l + 1, 0, none⟩), .pointer none, .pointer none, .pointer none, .pointer none, .pointer none, .pointer none, .pointer none, .pointer none, .map (some bS), .int .i64 0] 85) = W := ⟨_, rfl⟩
              have o1 : Out 0 0 WAOLS WAOLSB := by rw [← hW]; exact (Out.refl 0 0 _).alloc _
              have fB : WAOLSB.heap[bs]? = some (.cells #[.slice (some ⟨bA, 0, none⟩) (64 * n) (64 * n), .pointer (some ⟨tb, 0, none⟩), .map (some bO), .pointer (some ⟨l + 1, 0, none⟩), .pointer none, .pointer none, .pointer none, .pointer none, .pointer none, .pointer none, .pointer none, .pointer none, .map (some bS), .int .i64 0] 85) := by rw [← hW, ← hbs]; exact heap_alloc_new _ _
              have s1b : WAOLSB.heap.size = bs + 1 := by rw [← hW, ← hbs]; exact World.size_alloc _ _
              have zz : bA < bs ∧ bO < bs ∧ bS < bs ∧ l + 2 ≤ bs := by rw [← hbs]; exact ⟨zA, zO, zS, zL⟩
              replace fA := o1.heap fA (.inr (Nat.zero_le _))
              replace zA := Nat.lt_of_lt_of_le zA o1.size
              replace fO := o1.heap fO (.inr (Nat.zero_le _))
              replace zO := Nat.lt_of_lt_of_le zO o1.size
              replace fL := fL.quiet o1
              replace zL := Nat.le_trans zL o1.size
              replace fS := o1.heap fS (.inr (Nat.zero_le _))
              replace zS := Nat.lt_of_lt_of_le zS o1.size
              have O2 := O1.trans o1
              (try rw [hW])
              (try rw [hbs])
              refine hK.out _ _ ?hS10 (fun hHeld2 => ?rest10)
              case hS10 => trivial
              clear hK KK
              (try clear hHeld)
              have hHeld := hHeld2
              clear hHeld2
              (try simp only [Act.put, List.getElem_toArray, List.getElem_cons_zero, List.getElem_cons_succ, List.setIfInBounds_toArray, List.set_cons_zero, List.set_cons_succ])
              refine wpAnyH_take (i := 9) (v := ?v11) rfl (by kernel_rfl) (by kernel_rfl) (by kernel_rfl) (fun _ _ _ h => h) (Or.inl ⟨by rfl, ?hy11⟩) (by assumption) ?rest11
              case hy11 => (intro w hSw; (try dsimp only at hSw); simp only [List.getElem_toArray, List.getElem_cons_zero, List.getElem_cons_succ]; go_simp; (try with_reducible rfl))
              (try simp only [Act.put, List.getElem_toArray, List.getElem_cons_zero, List.getElem_cons_succ, List.setIfInBounds_toArray, List.set_cons_zero, List.set_cons_succ])
              refine wpAnyH_done (by kernel_rfl) ?_ _
              have hap : (bA ≠ bO ∧ bA ≠ bS ∧ bO ≠ bS ∧ (bA < l ∨ l + 2 ≤ bA) ∧ (bO < l ∨ l + 2 ≤ bO) ∧ (bS < l ∨ l + 2 ≤ bS)) := by omega
              exact ⟨bA, bO, l, bS, bs, rfl, O2, fA, fO, fS, fL, fB, by have := O2.size; omega, zz, hap⟩
            · exact AllReadyH.nil
          · exact AllReadyH.nil
        · refine AllReadyH.cons rfl (fun KK hK => ?_) ?_
          · simp only [List.getElem_toArray, List.getElem_cons_zero, List.getElem_cons_succ]
            go_simp
            obtain ⟨bS, hbS⟩ : ∃ b, WAO.heap.size = b := ⟨_, rfl⟩
            have gBS : w1.heap.size ≤ bS := by rw [← hbS]; exact O1.size
            have pAbS : bA < bS := by rw [← hbS]; exact zA
            have pObS : bO < bS := by rw [← hbS]; exact zO
            obtain ⟨WAOS, hW⟩ : ∃ W, WAO.alloc (.map #[] 0) = W := ⟨_, rfl⟩
            have o1 : Out 0 0 WAO WAOS := by rw [← hW]; exact (Out.refl 0 0 _).alloc _
            have s1 : WAOS.heap.size = bS + 1 := by rw [← hW, ← hbS]; exact World.size_alloc _ _
            have fS : WAOS.heap[bS]? = some (.map #[] 0) := by rw [← hW, ← hbS]; exact heap_alloc_new _ _
            have zS : bS < WAOS.heap.size := by omega
            replace fA := o1.heap fA (.inr (Nat.zero_le _))
            replace zA := Nat.lt_of_lt_of_le zA o1.size
            replace fO := o1.heap fO (.inr (Nat.zero_le _))
            replace zO := Nat.lt_of_lt_of_le zO o1.size
            have O2 : Out 0 0 w1 WAOS := O1.trans o1
            (try rw [hW])
            (try rw [hbS])
            (try clear O1)
            have O1 := O2
            clear O2 hW o1 s1 hbS
            refine hK.out _ _ ?hS12 (fun hHeld2 => ?rest12)
            case hS12 => trivial
            clear hK KK
            (try clear hHeld)
            have hHeld := hHeld2
            clear hHeld2
            (try simp only [Act.put, List.getElem_toArray, List.getElem_cons_zero, List.getElem_cons_succ, List.setIfInBounds_toArray, List.set_cons_zero, List.set_cons_succ])
            refine wpAnyH_ready (rs := [5]) (by kernel_rfl) (by simp) ?_
            refine AllReadyH.cons rfl (fun KK hK => ?_) ?_
            · simp only [List.getElem_toArray, List.getElem_cons_zero, List.getElem_cons_succ]
              go_simp
              refine (HNone.out _ (HTab.out _ O1)).mono ?_
              rintro e WAOSL ⟨rfl, fL, o1, s1⟩
              obtain ⟨l, hl⟩ : ∃ l, WAOS.heap.size = l := ⟨_, rfl⟩
              rw [hl] at fL s1
              have gL : w1.heap.size ≤ l := by rw [← hl]; exact O1.size
              have pAl : bA < l := by rw [← hl]; exact zA
              have pOl : bO < l := by rw [← hl]; exact zO
              have pSl : bS < l := by rw [← hl]; exact zS
              have zL : l + 2 ≤ WAOSL.heap.size := by omega
              replace fA := o1.heap fA (.inr (Nat.zero_le _))
              replace zA := Nat.lt_of_lt_of_le zA o1.size
              replace fO := o1.heap fO (.inr (Nat.zero_le _))
              replace zO := Nat.lt_of_lt_of_le zO o1.size
              replace fS := o1.heap fS (.inr (Nat.zero_le _))
              replace zS := Nat.lt_of_lt_of_le zS o1.size
              have O2 : Out 0 0 w1 WAOSL := O1.trans o1
              (try rw [hl])
              (try clear O1)
              have O1 := O2
              clear O2 o1 s1 hl
              refine hK.out _ _ ?hS13 (fun hHeld2 => ?rest13)
              case hS13 => trivial
              clear hK KK
              (try clear hHeld)
              have hHeld := hHeld2
              clear hHeld2
              (try simp only [Act.put, List.getElem_toArray, List.getElem_cons_zero, List.getElem_cons_succ, List.setIfInBounds_toArray, List.set_cons_zero, List.set_cons_succ])
              refine wpAnyH_take (i := 7) (v := ?v14) rfl (by kernel_rfl) (by kernel_rfl) (by kernel_rfl) (fun _ _ _ h => h) (Or.inl ⟨by rfl, ?hy14⟩) (by assumption) ?rest14
              case hy14 => (intro w hSw; (try dsimp only at hSw); simp only [List.getElem_toArray, List.getElem_cons_zero, List.getElem_cons_succ]; go_simp; (try with_reducible rfl))
              (try simp only [Act.put, List.getElem_toArray, List.getElem_cons_zero, List.getElem_cons_succ, List.setIfInBounds_toArray, List.set_cons_zero, List.set_cons_succ])
              refine wpAnyH_ready (rs := [8]) (by kernel_rfl) (by simp) ?_
              refine AllReadyH.cons rfl (fun KK hK => ?_) ?_
              · simp only [List.getElem_toArray, List.getElem_cons_zero, List.getElem_cons_succ]
                go_simp
                obtain ⟨bs, hbs⟩ : ∃ b, WAOSL.heap.size = b := ⟨_, rfl⟩
                obtain ⟨WAOSLB, hW⟩ : ∃ W, WAOSL.alloc (.cells #[.slice (some ⟨bA, 0, none⟩) (64 * n) (64 * n), .pointer (some ⟨tb, 0, none⟩), .map (some bO), .pointer (some ⟨l + 1, 0, none⟩), .pointer none, .pointer none, .pointer none, .pointer none, .pointer none, .pointer none, .pointer none, .pointer none, .map (some bS), .int .i64 0] 85) = W := ⟨_, rfl⟩
                have o1 : Out 0 0 WAOSL WAOSLB := by rw [← hW]; exact (Out.refl 0 0 _).alloc _
                have fB : WAOSLB.heap[bs]? = some (.cells #[.slice (some ⟨bA, 0, none⟩) (64 * n) (64 * n), .pointer (some ⟨tb, 0, none⟩), .map (some bO), .pointer (some ⟨l + 1, 0, none⟩), .pointer none, .pointer none, .pointer none, .pointer none, .pointer none, .pointer none, .pointer none, .pointer none, .map (some bS), .int .i64 0] 85) := by rw [← hW, ← hbs]; exact heap_alloc_new _ _
                have s1b : WAOSLB.heap.size = bs + 1 := by rw [← hW, ← hbs]; exact World.size_alloc _ _
                have zz : bA < bs ∧ bO < bs ∧ bS < bs ∧ l + 2 ≤ bs := by rw [← hbs]; exact ⟨zA, zO, zS, zL⟩
                replace fA := o1.heap fA (.inr (Nat.zero_le _))
                replace zA := Nat.lt_of_lt_of_le zA o1.size
                replace fO := o1.heap fO (.inr (Nat.zero_le _))
                replace zO := Nat.lt_of_lt_of_le zO o1.size
                replace fS := o1.heap fS (.inr (Nat.zero_le _))
                replace zS := Nat.lt_of_lt_of_le zS o1.size
                replace fL := fL.quiet o1
                replace zL := Nat.le_trans zL o1.size
                have O2 := O1.trans o1
                (try rw [hW])
                (try rw [hbs])
                refine hK.out _ _ ?hS15 (fun hHeld2 => ?rest15)
                case hS15 => trivial
                clear hK KK
                (try clear hHeld)
                have hHeld := hHeld2
                clear hHeld2
                (try simp only [Act.put, List.getElem_toArray, List.getElem_cons_zero, List.getElem_cons_succ, List.setIfInBounds_toArray, List.set_cons_zero, List.set_cons_succ])
                refine wpAnyH_take (i := 9) (v := ?v16) rfl (by kernel_rfl) (by kernel_rfl) (by kernel_rfl) (fun _ _ _ h => h) (Or.inl ⟨by rfl, ?hy16⟩) (by assumption) ?rest16
                case hy16 => (intro w hSw; (try dsimp only at hSw); simp only [List.getElem_toArray, List.getElem_cons_zero, List.getElem_cons_succ]; go_simp; (try with_reducible rfl))
                (try simp only [Act.put, List.getElem_toArray, List.getElem_cons_zero, List.getElem_cons_succ, List.setIfInBounds_toArray, List.set_cons_zero, List.set_cons_succ])
                refine wpAnyH_done (by kernel_rfl) ?_ _
                have hap : (bA ≠ bO ∧ bA ≠ bS ∧ bO ≠ bS ∧ (bA < l ∨ l + 2 ≤ bA) ∧ (bO < l ∨ l + 2 ≤ bO) ∧ (bS < l ∨ l + 2 ≤ bS)) := by omega
                exact ⟨bA, bO, l, bS, bs, rfl, O2, fA, fO, fS, fL, fB, by have := O2.size; omega, zz, hap⟩
              · exact AllReadyH.nil
            · exact AllReadyH.nil
          · exact AllReadyH.nil
      · refine AllReadyH.cons rfl (fun KK hK => ?_) ?_
        · simp only [List.getElem_toArray, List.getElem_cons_zero, List.getElem_cons_succ]
          go_simp
          refine (HNone.out _ (HTab.out _ O1)).mono ?_
          rintro e WAL ⟨rfl, fL, o1, s1⟩
          obtain ⟨l, hl⟩ : ∃ l, WA.heap.size = l := ⟨_, rfl⟩
          rw [hl] at fL s1
          have gL : w1.heap.size ≤ l := by rw [← hl]; exact O1.size
          have pAl : bA < l := by rw [← hl]; exact zA
          have zL : l + 2 ≤ WAL.heap.size := by omega
          replace fA := o1.heap fA (.inr (Nat.zero_le _))
          replace zA := Nat.lt_of_lt_of_le zA o1.size
          have O2 : Out 0 0 w1 WAL := O1.trans o1
          (try rw [hl])
          (try clear O1)
          have O1 := O2
          clear O2 o1 s1 hl
          refine hK.out _ _ ?hS17 (fun hHeld2 => ?rest17)
          case hS17 => trivial
          clear hK KK
          (try clear hHeld)
          have hHeld := hHeld2
          clear hHeld2
          (try simp only [Act.put, List.getElem_toArray, List.getElem_cons_zero, List.getElem_cons_succ, List.setIfInBounds_toArray, List.set_cons_zero, List.set_cons_succ])
          refine wpAnyH_ready (rs := [3, 6]) (by kernel_rfl) (by simp) ?_
          refine AllReadyH.cons rfl (fun KK hK => ?_) ?_
          · simp only [List.getElem_toArray, List.getElem_cons_zero, List.getElem_cons_succ]
            go_simp
            obtain ⟨bO, hbO⟩ : ∃ b, WAL.heap.size = b := ⟨_, rfl⟩
            have gBO : w1.heap.size ≤ bO := by rw [← hbO]; exact O1.size
            have pAbO : bA < bO := by rw [← hbO]; exact zA
            have pLbO : l + 2 ≤ bO := by rw [← hbO]; exact zL
            obtain ⟨WALO, hW⟩ : ∃ W, WAL.alloc (.map #[] 0) = W := ⟨_, rfl⟩
            have o1 : Out 0 0 WAL WALO := by rw [← hW]; exact (Out.refl 0 0 _).alloc _
            have s1 : WALO.heap.size = bO + 1 := by rw [← hW, ← hbO]; exact World.size_alloc _ _
            have fO : WALO.heap[bO]? = some (.map #[] 0) := by rw [← hW, ← hbO]; exact heap_alloc_new _ _
            have zO : bO < WALO.heap.size := by omega
            replace fA := o1.heap fA (.inr (Nat.zero_le _))
            replace zA := Nat.lt_of_lt_of_le zA o1.size
            replace fL := fL.quiet o1
            replace zL := Nat.le_trans zL o1.size
            have O2 : Out 0 0 w1 WALO := O1.trans o1
            (try rw [hW])
            (try rw [hbO])
            (try clear O1)
            have O1 := O2
            clear O2 hW o1 s1 hbO
            refine hK.out _ _ ?hS18 (fun hHeld2 => ?rest18)
            case hS18 => trivial
            clear hK KK
            (try clear hHeld)
            have hHeld := hHeld2
            clear hHeld2
            (try simp only [Act.put, List.getElem_toArray, List.getElem_cons_zero, List.getElem_cons_succ, List.setIfInBounds_toArray, List.set_cons_zero, List.set_cons_succ])
            refine wpAnyH_ready (rs := [6]) (by kernel_rfl) (by simp) ?_
            refine AllReadyH.cons rfl (fun KK hK => ?_) ?_
            · simp only [List.getElem_toArray, List.getElem_cons_zero, List.getElem_cons_succ]
              go_simp
              obtain ⟨bS, hbS⟩ : ∃ b, WALO.heap.size = b := ⟨_, rfl⟩
              have gBS : w1.heap.size ≤ bS := by rw [← hbS]; exact O1.size
              have pAbS : bA < bS := by rw [← hbS]; exact zA
              have pLbS : l + 2 ≤ bS := by rw [← hbS]; exact zL
              have pObS : bO < bS := by rw [← hbS]; exact zO
              obtain ⟨WALOS, hW⟩ : ∃ W, WALO.alloc (.map #[] 0) = W := ⟨_, rfl⟩
              have o1 : Out 0 0 WALO WALOS := by rw [← hW]; exact (Out.refl 0 0 _).alloc _
              have s1 : WALOS.heap.size = bS + 1 := by rw [← hW, ← hbS]; exact World.size_alloc _ _
              have fS : WALOS.heap[bS]? = some (.map #[] 0) := by rw [← hW, ← hbS]; exact heap_alloc_new _ _
              have zS : bS < WALOS.heap.size := by omega
              replace fA := o1.heap fA (.inr (Nat.zero_le _))
              replace zA := Nat.lt_of_lt_of_le zA o1.size
              replace fL := fL.quiet o1
              replace zL := Nat.le_trans zL o1.size
              replace fO := o1.heap fO (.inr (Nat.zero_le _))
              replace zO := Nat.lt_of_lt_of_le zO o1.size
              have O2 : Out 0 0 w1 WALOS := O1.trans o1
              (try rw [hW])
              (try rw [hbS])
              (try clear O1)
              have O1 := O2
              clear O2 hW o1 s1 hbS
              refine hK.out _ _ ?hS19 (fun hHeld2 => ?rest19)
              case hS19 => trivial
              clear hK KK
              (try clear hHeld)
              have hHeld := hHeld2
              clear hHeld2
              (try simp only [Act.put, List.getElem_toArray, List.getElem_cons_zero, List.getElem_cons_succ, List.setIfInBounds_toArray, List.set_cons_zero, List.set_cons_succ])
              refine wpAnyH_take (i := 7) (v := ?v20) rfl (by kernel_rfl) (by kernel_rfl) (by kernel_rfl) (fun _ _ _ h => h) (Or.inl ⟨by rfl, ?hy20⟩) (by assumption) ?rest20
              case hy20 => (intro w hSw; (try dsimp only at hSw); simp only [List.getElem_toArray, List.getElem_cons_zero, List.getElem_cons_succ]; go_simp; (try with_reducible rfl))
              (try simp only [Act.put, List.getElem_toArray, List.getElem_cons_zero, List.getElem_cons_succ, List.setIfInBounds_toArray, List.set_cons_zero, List.set_cons_succ])
              refine wpAnyH_ready (rs := [8]) (by kernel_rfl) (by simp) ?_
              refine AllReadyH.cons rfl (fun KK hK => ?_) ?_
              · simp only [List.getElem_toArray, List.getElem_cons_zero, List.getElem_cons_succ]
                go_simp
                obtain ⟨bs, hbs⟩ : ∃ b, WALOS.heap.size = b := ⟨_, rfl⟩
                obtain ⟨WALOSB, hW⟩ : ∃ W, WALOS.alloc (.cells #[.slice (some ⟨bA, 0, none⟩) (64 * n) (64 * n), .pointer (some ⟨tb, 0, none⟩), .map (some bO), .pointer (some ⟨l + 1, 0, none⟩), .pointer none, .pointer none, .pointer none, .pointer none, .pointer none, .pointer none, .pointer none, .pointer none, .map (some bS), .int .i64 0] 85) = W := ⟨_, rfl⟩
                have o1 : Out 0 0 WALOS WALOSB := by rw [← hW]; exact (Out.refl 0 0 _).alloc _
                have fB : WALOSB.heap[bs]? = some (.cells #[.slice (some ⟨bA, 0, none⟩) (64 * n) (64 * n), .pointer (some ⟨tb, 0, none⟩), .map (some bO), .pointer (some ⟨l + 1, 0, none⟩), .pointer none, .pointer none, .pointer none, .pointer none, .pointer none, .pointer none, .pointer none, .pointer none, .map (some bS), .int .i64 0] 85) := by rw [← hW, ← hbs]; exact heap_alloc_new _ _
                have s1b : WALOSB.heap.size = bs + 1 := by rw [← hW, ← hbs]; exact World.size_alloc _ _
                have zz : bA < bs ∧ bO < bs ∧ bS < bs ∧ l + 2 ≤ bs := by rw [← hbs]; exact ⟨zA, zO, zS, zL⟩
                replace fA := o1.heap fA (.inr (Nat.zero_le _))
                replace zA := Nat.lt_of_lt_of_le zA o1.size
                replace fL := fL.quiet o1
                replace zL := Nat.le_trans zL o1.size
                replace fO := o1.heap fO (.inr (Nat.zero_le _))
                replace zO := Nat.lt_of_lt_of_le zO o1.size
                replace fS := o1.heap fS (.inr (Nat.zero_le _))
                replace zS := Nat.lt_of_lt_of_le zS o1.size
                have O2 := O1.trans o1
                (try rw [hW])
                (try rw [hbs])
                refine hK.out _ _ ?hS21 (fun hHeld2 => ?rest21)
                case hS21 => trivial
                clear hK KK
                (try clear hHeld)
                have hHeld := hHeld2
                clear hHeld2
                (try simp only [Act.put, List.getElem_toArray, List.getElem_cons_zero, List.getElem_cons_succ, List.setIfInBounds_toArray, List.set_cons_zero, List.set_cons_succ])
                refine wpAnyH_take (i := 9) (v := ?v22) rfl (by kernel_rfl) (by kernel_rfl) (by kernel_rfl) (fun _ _ _ h => h) (Or.inl ⟨by rfl, ?hy22⟩) (by assumption) ?rest22
                case hy22 => (intro w hSw; (try dsimp only at hSw); simp only [List.getElem_toArray, List.getElem_cons_zero, List.getElem_cons_succ]; go_simp; (try with_reducible rfl))
                (try simp only [Act.put, List.getElem_toArray, List.getElem_cons_zero, List.getElem_cons_succ, List.setIfInBounds_toArray, List.set_cons_zero, List.set_cons_succ])
                refine wpAnyH_done (by kernel_rfl) ?_ _
                have hap : (bA ≠ bO ∧ bA ≠ bS ∧ bO ≠ bS ∧ (bA < l ∨ l + 2 ≤ bA) ∧ (bO < l ∨ l + 2 ≤ bO) ∧ (bS < l ∨ l + 2 ≤ bS)) := by omega
                exact ⟨bA, bO, l, bS, bs, rfl, O2, fA, fO, fS, fL, fB, by have := O2.size; omega, zz, hap⟩
              · exact AllReadyH.nil
            · exact AllReadyH.nil
          · refine AllReadyH.cons rfl (fun KK hK => ?_) ?_
            · simp only [List.getElem_toArray, List.getElem_cons_zero, List.getElem_cons_succ]
              go_simp
              obtain ⟨bS, hbS⟩ : ∃ b, WAL.heap.size = b := ⟨_, rfl⟩
              have gBS : w1.heap.size ≤ bS := by rw [← hbS]; exact O1.size
              have pAbS : bA < bS := by rw [← hbS]; exact zA
              have pLbS : l + 2 ≤ bS := by rw [← hbS]; exact zL
              obtain ⟨WALS, hW⟩ : ∃ W, WAL.alloc (.map #[] 0) = W := ⟨_, rfl⟩
              have o1 : Out 0 0 WAL WALS := by rw [← hW]; exact (Out.refl 0 0 _).alloc _
              have s1 : WALS.heap.size = bS + 1 := by rw [← hW, ← hbS]; exact World.size_alloc _ _
              have fS : WALS.heap[bS]? = some (.map #[] 0) := by rw [← hW, ← hbS]; exact heap_alloc_new _ _
              have zS : bS < WALS.heap.size := by omega
              replace fA := o1.heap fA (.inr (Nat.zero_le _))
              replace zA := Nat.lt_of_lt_of_le zA o1.size
              replace fL := fL.quiet o1
              replace zL := Nat.le_trans zL o1.size
              have O2 : Out 0 0 w1 WALS := O1.trans o1
              (try rw [hW])
              (try rw [hbS])
              (try clear O1)
              have O1 := O2
              clear O2 hW o1 s1 hbS
              refine hK.out _ _ ?hS23 (fun hHeld2 => ?rest23)
              case hS23 => trivial
              clear hK KK
              (try clear hHeld)
              have hHeld := hHeld2
              clear hHeld2
              (try simp only [Act.put, List.getElem_toArray, List.getElem_cons_zero, List.getElem_cons_succ, List.setIfInBounds_toArray, List.set_cons_zero, List.set_cons_succ])
              refine wpAnyH_ready (rs := [3]) (by kernel_rfl) (by simp) ?_
              refine AllReadyH.cons rfl (fun KK hK => ?_) ?_
              · simp only [List.getElem_toArray, List.getElem_cons_zero, List.getElem_cons_succ]
                go_simp
                obtain ⟨bO, hbO⟩ : ∃ b, WALS.heap.size = b := ⟨_, rfl⟩
                have gBO : w1.heap.size ≤ bO := by rw [← hbO]; exact O1.size
                have pAbO : bA < bO := by rw [← hbO]; exact zA
                have pLbO : l + 2 ≤ bO := by rw [← hbO]; exact zL
                have pSbO : bS < bO := by rw [← hbO]; exact zS
                obtain ⟨WALSO, hW⟩ : ∃ W, WALS.alloc (.map #[] 0) = W := ⟨_, rfl⟩
                have o1 : Out 0 0 WALS WALSO := by rw [← hW]; exact (Out.refl 0 0 _).alloc _
                have s1 : WALSO.heap.size = bO + 1 := by rw [← hW, ← hbO]; exact World.size_alloc _ _
                have fO : WALSO.heap[bO]? = some (.map #[] 0) := by rw [← hW, ← hbO]; exact heap_alloc_new _ _
                have zO : bO < WALSO.heap.size := by omega
                replace fA := o1.heap fA (.inr (Nat.zero_le _))
                replace zA := Nat.lt_of_lt_of_le zA o1.size
                replace fL := fL.quiet o1
                replace zL := Nat.le_trans zL o1.size
                replace fS := o1.heap fS (.inr (Nat.zero_le _))
                replace zS := Nat.lt_of_lt_of_le zS o1.size
                have O2 : Out 0 0 w1 WALSO := O1.trans o1
                (try rw [hW])
                (try rw [hbO])
                (try clear O1)
                have O1 := O2
                clear O2 hW o1 s1 hbO
                refine hK.out _ _ ?hS24 (fun hHeld2 => ?rest24)
                case hS24 => trivial
                clear hK KK
                (try clear hHeld)
                have hHeld := hHeld2
                clear hHeld2
                (try simp only [Act.put, List.getElem_toArray, List.getElem_cons_zero, List.getElem_cons_succ, List.setIfInBounds_toArray, List.set_cons_zero, List.set_cons_succ])
                refine wpAnyH_take (i := 7) (v := ?v25) rfl (by kernel_rfl) (by kernel_rfl) (by kernel_rfl) (fun _ _ _ h => h) (Or.inl ⟨by rfl, ?hy25⟩) (by assumption) ?rest25
                case hy25 => (intro w hSw; (try dsimp only at hSw); simp only [List.getElem_toArray, List.getElem_cons_zero, List.getElem_cons_succ]; go_simp; (try with_reducible rfl))
                (try simp only [Act.put, List.getElem_toArray, List.getElem_cons_zero, List.getElem_cons_succ, List.setIfInBounds_toArray, List.set_cons_zero, List.set_cons_succ])
                refine wpAnyH_ready (rs := [8]) (by kernel_rfl) (by simp) ?_
                refine AllReadyH.cons rfl (fun KK hK => ?_) ?_
                · simp only [List.getElem_toArray, List.getElem_cons_zero, List.getElem_cons_succ]
                  go_simp
                  obtain ⟨bs, hbs⟩ : ∃ b, WALSO.heap.size = b := ⟨_, rfl⟩
                  obtain ⟨WALSOB, hW⟩ : ∃ W, WALSO.alloc (.cells #[.slice (some ⟨bA, 0, none⟩) (64 * n) (64 * n), .pointer (some ⟨tb, 0, none⟩), .map (some bO), .pointer (some ⟨l + 1, 0, none⟩), .pointer none, .pointer none, .pointer none, .pointer none, .pointer none, .pointer none, .pointer none, .pointer none, .map (some bS), .int .i64 0] 85) = W := ⟨_, rfl⟩
                  have o1 : Out 0 0 WALSO WALSOB := by rw [← hW]; exact (Out.refl 0 0 _).alloc _
                  have fB : WALSOB.heap[bs]? = some (.cells #[.slice (some ⟨bA, 0, none⟩) (64 * n) (64 * n), .pointer (some ⟨tb, 0, none⟩), .map (some bO), .pointer (some ⟨l + 1, 0, none⟩), .pointer none, .pointer none, .pointer none, .pointer none, .pointer none, .pointer none, .pointer none, .pointer none, .map (some bS), .int .i64 0] 85) := by rw [← hW, ← hbs]; exact heap_alloc_new _ _
                  have s1b : WALSOB.heap.size = bs + 1 := by rw [← hW, ← hbs]; exact World.size_alloc _ _
                  have zz : bA < bs ∧ bO < bs ∧ bS < bs ∧ l + 2 ≤ bs := by rw [← hbs]; exact ⟨zA, zO, zS, zL⟩
                  replace fA := o1.heap fA (.inr (Nat.zero_le _))
                  replace zA := Nat.lt_of_lt_of_le zA o1.size
                  replace fL := fL.quiet o1
                  replace zL := Nat.le_trans zL o1.size
                  replace fS := o1.heap fS (.inr (Nat.zero_le _))
                  replace zS := Nat.lt_of_lt_of_le zS o1.size
                  replace fO := o1.heap fO (.inr (Nat.zero_le _))
                  replace zO := Nat.lt_of_lt_of_le zO o1.size
                  have O2 := O1.trans o1
                  (try rw [hW])
                  (try rw [hbs])
                  refine hK.out _ _ ?hS26 (fun hHeld2 => ?rest26)
                  case hS26 => trivial
                  clear hK KK
                  (try clear hHeld)
                  have hHeld := hHeld2
                  clear hHeld2
                  (try simp only [Act.put, List.getElem_toArray, List.getElem_cons_zero, List.getElem_cons_succ, List.setIfInBounds_toArray, List.set_cons_zero, List.set_cons_succ])
                  refine wpAnyH_take (i := 9) (v := ?v27) rfl (by kernel_rfl) (by kernel_rfl) (by kernel_rfl) (fun _ _ _ h => h) (Or.inl ⟨by rfl, ?hy27⟩) (by assumption) ?rest27
                  case hy27 => (intro w hSw; (try dsimp only at hSw); simp only [List.getElem_toArray, List.getElem_cons_zero, List.getElem_cons_succ]; go_simp; (try with_reducible rfl))
                  (try simp only [Act.put, List.getElem_toArray, List.getElem_cons_zero, List.getElem_cons_succ, List.setIfInBounds_toArray, List.set_cons_zero, List.set_cons_succ])
                  refine wpAnyH_done (by kernel_rfl) ?_ _
                  have hap : (bA ≠ bO ∧ bA ≠ bS ∧ bO ≠ bS ∧ (bA < l ∨ l + 2 ≤ bA) ∧ (bO < l ∨ l + 2 ≤ bO) ∧ (bS < l ∨ l + 2 ≤ bS)) := by omega
                  exact ⟨bA, bO, l, bS, bs, rfl, O2, fA, fO, fS, fL, fB, by have := O2.size; omega, zz, hap⟩
                · exact AllReadyH.nil
              · exact AllReadyH.nil
            · exact AllReadyH.nil
        · refine AllReadyH.cons rfl (fun KK hK => ?_) ?_
          · simp only [List.getElem_toArray, List.getElem_cons_zero, List.getElem_cons_succ]
            go_simp
            obtain ⟨bS, hbS⟩ : ∃ b, WA.heap.size = b := ⟨_, rfl⟩
            have gBS : w1.heap.size ≤ bS := by rw [← hbS]; exact O1.size
            have pAbS : bA < bS := by rw [← hbS]; exact zA
            obtain ⟨WAS, hW⟩ : ∃ W, WA.alloc (.map #[] 0) = W := ⟨_, rfl⟩
            have o1 : Out 0 0 WA WAS := by rw [← hW]; exact (Out.refl 0 0 _).alloc _
            have s1 : WAS.heap.size = bS + 1 := by rw [← hW, ← hbS]; exact World.size_alloc _ _
            have fS : WAS.heap[bS]? = some (.map #[] 0) := by rw [← hW, ← hbS]; exact heap_alloc_new _ _
            have zS : bS < WAS.heap.size := by omega
            replace fA := o1.heap fA (.inr (Nat.zero_le _))
            replace zA := Nat.lt_of_lt_of_le zA o1.size
            have O2 : Out 0 0 w1 WAS := O1.trans o1
            (try rw [hW])
            (try rw [hbS])
            (try clear O1)
            have O1 := O2
            clear O2 hW o1 s1 hbS
            refine hK.out _ _ ?hS28 (fun hHeld2 => ?rest28)
            case hS28 => trivial
            clear hK KK
            (try clear hHeld)
            have hHeld := hHeld2
            clear hHeld2
            (try simp only [Act.put, List.getElem_toArray, List.getElem_cons_zero, List.getElem_cons_succ, List.setIfInBounds_toArray, List.set_cons_zero, List.set_cons_succ])
            refine wpAnyH_ready (rs := [3, 5]) (by kernel_rfl) (by simp) ?_
            refine AllReadyH.cons rfl (fun KK hK => ?_) ?_
            · simp only [List.getElem_toArray, List.getElem_cons_zero, List.getElem_cons_succ]
              go_simp
              obtain ⟨bO, hbO⟩ : ∃ b, WAS.heap.size = b := ⟨_, rfl⟩
              have gBO : w1.heap.size ≤ bO := by rw [← hbO]; exact O1.size
              have pAbO : bA < bO := by rw [← hbO]; exact zA
              have pSbO : bS < bO := by rw [← hbO]; exact zS
              obtain ⟨WASO, hW⟩ : ∃ W, WAS.alloc (.map #[] 0) = W := ⟨_, rfl⟩
              have o1 : Out 0 0 WAS WASO := by rw [← hW]; exact (Out.refl 0 0 _).alloc _
              have s1 : WASO.heap.size = bO + 1 := by rw [← hW, ← hbO]; exact World.size_alloc _ _
              have fO : WASO.heap[bO]? = some (.map #[] 0) := by rw [← hW, ← hbO]; exact heap_alloc_new _ _
              have zO : bO < WASO.heap.size := by omega
              replace fA := o1.heap fA (.inr (Nat.zero_le _))
              replace zA := Nat.lt_of_lt_of_le zA o1.size
              replace fS := o1.heap fS (.inr (Nat.zero_le _))
              replace zS := Nat.lt_of_lt_of_le zS o1.size
              have O2 : Out 0 0 w1 WASO := O1.trans o1
              (try rw [hW])
              (try rw [hbO])
              (try clear O1)
              have O1 := O2
              clear O2 hW o1 s1 hbO
              refine hK.out _ _ ?hS29 (fun hHeld2 => ?rest29)
              case hS29 => trivial
              clear hK KK
              (try clear hHeld)
              have hHeld := hHeld2
              clear hHeld2
              (try simp only [Act.put, List.getElem_toArray, List.getElem_cons_zero, List.getElem_cons_succ, List.setIfInBounds_toArray, List.set_cons_zero, List.set_cons_succ])
              refine wpAnyH_ready (rs := [5]) (by kernel_rfl) (by simp) ?_
              refine AllReadyH.cons rfl (fun KK hK => ?_) ?_
              · simp only [List.getElem_toArray, List.getElem_cons_zero, List.getElem_cons_succ]
                go_simp
                refine (HNone.out _ (HTab.out _ O1)).mono ?_
                rintro e WASOL ⟨rfl, fL, o1, s1⟩
                obtain ⟨l, hl⟩ : ∃ l, WASO.heap.size = l := ⟨_, rfl⟩
                rw [hl] at fL s1
                have gL : w1.heap.size ≤ l := by rw [← hl]; exact O1.size
                have pAl : bA < l := by rw [← hl]; exact zA
                have pSl : bS < l := by rw [← hl]; exact zS
                have pOl : bO < l := by rw [← hl]; exact zO
                have zL : l + 2 ≤ WASOL.heap.size := by omega
                replace fA := o1.heap fA (.inr (Nat.zero_le _))
                replace zA := Nat.lt_of_lt_of_le zA o1.size
                replace fS := o1.heap fS (.inr (Nat.zero_le _))
                replace zS := Nat.lt_of_lt_of_le zS o1.size
                replace fO := o1.heap fO (.inr (Nat.zero_le _))
                replace zO := Nat.lt_of_lt_of_le zO o1.size
                have O2 : Out 0 0 w1 WASOL := O1.trans o1
                (try rw [hl])
                (try clear O1)
                have O1 := O2
                clear O2 o1 s1 hl
                refine hK.out _ _ ?hS30 (fun hHeld2 => ?rest30)
                case hS30 => trivial
                clear hK KK
                (try clear hHeld)
                have hHeld := hHeld2
                clear hHeld2
                (try simp only [Act.put, List.getElem_toArray, List.getElem_cons_zero, List.getElem_cons_succ, List.setIfInBounds_toArray, List.set_cons_zero, List.set_cons_succ])
                refine wpAnyH_take (i := 7) (v := ?v31) rfl (by kernel_rfl) (by kernel_rfl) (by kernel_rfl) (fun _ _ _ h => h) (Or.inl ⟨by rfl, ?hy31⟩) (by assumption) ?rest31
                case hy31 => (intro w hSw; (try dsimp only at hSw); simp only [List.getElem_toArray, List.getElem_cons_zero, List.getElem_cons_succ]; go_simp; (try with_reducible rfl))
                (try simp only [Act.put, List.getElem_toArray, List.getElem_cons_zero, List.getElem_cons_succ, List.setIfInBounds_toArray, List.set_cons_zero, List.set_cons_succ])
                refine wpAnyH_ready (rs := [8]) (by kernel_rfl) (by simp) ?_
                refine AllReadyH.cons rfl (fun KK hK => ?_) ?_
                · simp only [List.getElem_toArray, List.getElem_cons_zero, List.getElem_cons_succ]
                  go_simp
                  obtain ⟨bs, hbs⟩ : ∃ b, WASOL.heap.size = b := ⟨_, rfl⟩
                  obtain ⟨WASOLB, hW⟩ : ∃ W, WASOL.alloc (.cells #[.slice (some ⟨bA, 0, none⟩) (64 * n) (64 * n), .pointer (some ⟨tb, 0, none⟩), .map (some bO), .pointer (some ⟨l + 1, 0, none⟩), .pointer none, .pointer none, .pointer none, .pointer none, .pointer none, .pointer none, .pointer none, .pointer none, .map (some bS), .int .i64 0] 85) = W := ⟨_, rfl⟩
                  have o1 : Out 0 0 WASOL WASOLB := by rw [← hW]; exact (Out.refl 0 0 _).alloc _
                  have fB : WASOLB.heap[bs]? = some (.cells #[.slice (some ⟨bA, 0, none⟩) (64 * n) (64 * n), .pointer (some ⟨tb, 0, none⟩), .map (some bO), .pointer (some ⟨l + 1, 0, none⟩), .pointer none, .pointer none, .pointer none, .pointer none, .pointer none, .pointer none, .pointer none, .pointer none, .map (some bS), .int .i64 0] 85) := by rw [← hW, ← hbs]; exact heap_alloc_new _ _
                  have s1b : WASOLB.heap.size = bs + 1 := by rw [← hW, ← hbs]; exact World.size_alloc _ _
                  have zz : bA < bs ∧ bO < bs ∧ bS < bs ∧ l + 2 ≤ bs := by rw [← hbs]; exact ⟨zA, zO, zS, zL⟩
                  replace fA := o1.heap fA (.inr (Nat.zero_le _))
                  replace zA := Nat.lt_of_lt_of_le zA o1.size
                  replace fS := o1.heap fS (.inr (Nat.zero_le _))
                  replace zS := Nat.lt_of_lt_of_le zS o1.size
                  replace fO := o1.heap fO (.inr (Nat.zero_le _))
                  replace zO := Nat.lt_of_lt_of_le zO o1.size
                  replace fL := fL.quiet o1
                  replace zL := Nat.le_trans zL o1.size
                  have O2 := O1.trans o1
                  (try rw [hW])
                  (try rw [hbs])
                  refine hK.out _ _ ?hS32 (fun hHeld2 => ?rest32)
                  case hS32 => trivial
                  clear hK KK
                  (try clear hHeld)
                  have hHeld := hHeld2
                  clear hHeld2
                  (try simp only [Act.put, List.getElem_toArray, List.getElem_cons_zero, List.getElem_cons_succ, List.setIfInBounds_toArray, List.set_cons_zero, List.set_cons_succ])
                  refine wpAnyH_take (i := 9) (v := ?v33) rfl (by kernel_rfl) (by kernel_rfl) (by kernel_rfl) (fun _ _ _ h => h) (Or.inl ⟨by rfl, ?hy33⟩) (by assumption) ?rest33
                  case hy33 => (intro w hSw; (try dsimp only at hSw); simp only [List.getElem_toArray, List.getElem_cons_zero, List.getElem_cons_succ]; go_simp; (try with_reducible rfl))
                  (try simp only [Act.put, List.getElem_toArray, List.getElem_cons_zero, List.getElem_cons_succ, List.setIfInBounds_toArray, List.set_cons_zero, List.set_cons_succ])
                  refine wpAnyH_done (by kernel_rfl) ?_ _
                  have hap : (bA ≠ bO ∧ bA ≠ bS ∧ bO ≠ bS ∧ (bA < l ∨ l + 2 ≤ bA) ∧ (bO < l ∨ l + 2 ≤ bO) ∧ (bS < l ∨ l + 2 ≤ bS)) := by omega
                  exact ⟨bA, bO, l, bS, bs, rfl, O2, fA, fO, fS, fL, fB, by have := O2.size; omega, zz, hap⟩
                · exact AllReadyH.nil
              · exact AllReadyH.nil
            · refine AllReadyH.cons rfl (fun KK hK => ?_) ?_
              · simp only [List.getElem_toArray, List.getElem_cons_zero, List.getElem_cons_succ]
                go_simp
                refine (HNone.out _ (HTab.out _ O1)).mono ?_
                rintro e WASL ⟨rfl, fL, o1, s1⟩
                obtain ⟨l, hl⟩ : ∃ l, WAS.heap.size = l := ⟨_, rfl⟩
                rw [hl] at fL s1
                have gL : w1.heap.size ≤ l := by rw [← hl]; exact O1.size
                have pAl : bA < l := by rw [← hl]; exact zA
                have pSl : bS < l := by rw [← hl]; exact zS
                have zL : l + 2 ≤ WASL.heap.size := by omega
                replace fA := o1.heap fA (.inr (Nat.zero_le _))
                replace zA := Nat.lt_of_lt_of_le zA o1.size
                replace fS := o1.heap fS (.inr (Nat.zero_le _))
                replace zS := Nat.lt_of_lt_of_le zS o1.size
                have O2 : Out 0 0 w1 WASL := O1.trans o1
                (try rw [hl])
                (try clear O1)
                have O1 := O2
                clear O2 o1 s1 hl
                refine hK.out _ _ ?hS34 (fun hHeld2 => ?rest34)
                case hS34 => trivial
                clear hK KK
                (try clear hHeld)
                have hHeld := hHeld2
                clear hHeld2
                (try simp only [Act.put, List.getElem_toArray, List.getElem_cons_zero, List.getElem_cons_succ, List.setIfInBounds_toArray, List.set_cons_zero, List.set_cons_succ])
                refine wpAnyH_ready (rs := [3]) (by kernel_rfl) (by simp) ?_
                refine AllReadyH.cons rfl (fun KK hK => ?_) ?_
                · simp only [List.getElem_toArray, List.getElem_cons_zero, List.getElem_cons_succ]
                  go_simp
                  obtain ⟨bO, hbO⟩ : ∃ b, WASL.heap.size = b := ⟨_, rfl⟩
                  have gBO : w1.heap.size ≤ bO := by rw [← hbO]; exact O1.size
                  have pAbO : bA < bO := by rw [← hbO]; exact zA
                  have pSbO : bS < bO := by rw [← hbO]; exact zS
                  have pLbO : l + 2 ≤ bO := by rw [← hbO]; exact zL
                  obtain ⟨WASLO, hW⟩ : ∃ W, WASL.alloc (.map #[] 0) = W := ⟨_, rfl⟩
                  have o1 : Out 0 0 WASL WASLO := by rw [← hW]; exact (Out.refl 0 0 _).alloc _
                  have s1 : WASLO.heap.size = bO + 1 := by rw [← hW, ← hbO]; exact World.size_alloc _ _
                  have fO : WASLO.heap[bO]? = some (.map #[] 0) := by rw [← hW, ← hbO]; exact heap_alloc_new _ _
                  have zO : bO < WASLO.heap.size := by omega
                  replace fA := o1.heap fA (.inr (Nat.zero_le _))
                  replace zA := Nat.lt_of_lt_of_le zA o1.size
                  replace fS := o1.heap fS (.inr (Nat.zero_le _))
                  replace zS := Nat.lt_of_lt_of_le zS o1.size
                  replace fL := fL.quiet o1
                  replace zL := Nat.le_trans zL o1.size
                  have O2 : Out 0 0 w1 WASLO := O1.trans o1
                  (try rw [hW])
                  (try rw [hbO])
                  (try clear O1)
                  have O1 := O2
                  clear O2 hW o1 s1 hbO
                  refine hK.out _ _ ?hS35 (fun hHeld2 => ?rest35)
                  case hS35 => trivial
                  clear hK KK
                  (try clear hHeld)
                  have hHeld := hHeld2
                  clear hHeld2
                  (try simp only [Act.put, List.getElem_toArray, List.getElem_cons_zero, List.getElem_cons_succ, List.setIfInBounds_toArray, List.set_cons_zero, List.set_cons_succ])
                  refine wpAnyH_take (i := 7) (v := ?v36) rfl (by kernel_rfl) (by kernel_rfl) (by kernel_rfl) (fun _ _ _ h => h) (Or.inl ⟨by rfl, ?hy36⟩) (by assumption) ?rest36
                  case hy36 => (intro w hSw; (try dsimp only at hSw); simp only [List.getElem_toArray, List.getElem_cons_zero, List.getElem_cons_succ]; go_simp; (try with_reducible rfl))
                  (try simp only [Act.put, List.getElem_toArray, List.getElem_cons_zero, List.getElem_cons_succ, List.setIfInBounds_toArray, List.set_cons_zero, List.set_cons_succ])
                  refine wpAnyH_ready (rs := [8]) (by kernel_rfl) (by simp) ?_
                  refine AllReadyH.cons rfl (fun KK hK => ?_) ?_
                  · simp only [List.getElem_toArray, List.getElem_cons_zero, List.getElem_cons_succ]
                    go_simp
                    obtain ⟨bs, hbs⟩ : ∃ b, WASLO.heap.size = b := ⟨_, rfl⟩
                    obtain ⟨WASLOB, hW⟩ : ∃ W, WASLO.alloc (.cells #[.slice (some ⟨bA, 0, none⟩) (64 * n) (64 * n), .pointer (some ⟨tb, 0, none⟩), .map (some bO), .pointer (some ⟨l + 1, 0, none⟩), .pointer none, .pointer none, .pointer none, .pointer none, .pointer none, .pointer none, .pointer none, .pointer none, .map (some bS), .int .i64 0] 85) = W := ⟨_, rfl⟩
                    have o1 : Out 0 0 WASLO WASLOB := by rw [← hW]; exact (Out.refl 0 0 _).alloc _
                    have fB : WASLOB.heap[bs]? = some (.cells #[.slice (some ⟨bA, 0, none⟩) (64 * n) (64 * n), .pointer (some ⟨tb, 0, none⟩), .map (some bO), .pointer (some ⟨l + 1, 0, none⟩), .pointer none, .pointer none, .pointer none, .pointer none, .pointer none, .pointer none, .pointer none, .pointer none, .map (some bS), .int .i64 0] 85) := by rw [← hW, ← hbs]; exact heap_alloc_new _ _
                    have s1b : WASLOB.heap.size = bs + 1 := by rw [← hW, ← hbs]; exact World.size_alloc _ _
                    have zz : bA < bs ∧ bO < bs ∧ bS < bs ∧ l + 2 ≤ bs := by rw [← hbs]; exact ⟨zA, zO, zS, zL⟩
                    replace fA := o1.heap fA (.inr (Nat.zero_le _))
                    replace zA := Nat.lt_of_lt_of_le zA o1.size
                    replace fS := o1.heap fS (.inr (Nat.zero_le _))
                    replace zS := Nat.lt_of_lt_of_le zS o1.size
                    replace fL := fL.quiet o1
                    replace zL := Nat.le_trans zL o1.size
                    replace fO := o1.heap fO (.inr (Nat.zero_le _))
                    replace zO := Nat.lt_of_lt_of_le zO o1.size
                    have O2 := O1.trans o1
                    (try rw [hW])
                    (try rw [hbs])
                    refine hK.out _ _ ?hS37 (fun hHeld2 => ?rest37)
                    case hS37 => trivial
                    clear hK KK
                    (try clear hHeld)
                    have hHeld := hHeld2
                    clear hHeld2
                    (try simp only [Act.put, List.getElem_toArray, List.getElem_cons_zero, List.getElem_cons_succ, List.setIfInBounds_toArray, List.set_cons_zero, List.set_cons_succ])
                    refine wpAnyH_take (i := 9) (v := ?v38) rfl (by kernel_rfl) (by kernel_rfl) (by kernel_rfl) (fun _ _ _ h => h) (Or.inl ⟨by rfl, ?hy38⟩) (by assumption) ?rest38
                    case hy38 => (intro w hSw; (try dsimp only at hSw); simp only [List.getElem_toArray, List.getElem_cons_zero, List.getElem_cons_succ]; go_simp; (try with_reducible rfl))
                    (try simp only [Act.put, List.getElem_toArray, List.getElem_cons_zero, List.getElem_cons_succ, List.setIfInBounds_toArray, List.set_cons_zero, List.set_cons_succ])
                    refine wpAnyH_done (by kernel_rfl) ?_ _
                    have hap : (bA ≠ bO ∧ bA ≠ bS ∧ bO ≠ bS ∧ (bA < l ∨ l + 2 ≤ bA) ∧ (bO < l ∨ l + 2 ≤ bO) ∧ (bS < l ∨ l + 2 ≤ bS)) := by omega
                    exact ⟨bA, bO, l, bS, bs, rfl, O2, fA, fO, fS, fL, fB, by have := O2.size; omega, zz, hap⟩
                  · exact AllReadyH.nil
                · exact AllReadyH.nil
              · exact AllReadyH.nil
          · exact AllReadyH.nil
    · refine AllReadyH.cons rfl (fun KK hK => ?_) ?_
      · simp only [List.getElem_toArray, List.getElem_cons_zero, List.getElem_cons_succ]
        go_simp
        obtain ⟨bO, hbO⟩ : ∃ b, Z.heap.size = b := ⟨_, rfl⟩
        have gBO : w1.heap.size ≤ bO := by rw [← hbO]; exact OZ.size
        obtain ⟨WO, hW⟩ : ∃ W, Z.alloc (.map #[] 0) = W := ⟨_, rfl⟩
        have o1 : Out 0 0 Z WO := by rw [← hW]; exact (Out.refl 0 0 _).alloc _
        have s1 : WO.heap.size = bO + 1 := by rw [← hW, ← hbO]; exact World.size_alloc _ _
        have fO : WO.heap[bO]? = some (.map #[] 0) := by rw [← hW, ← hbO]; exact heap_alloc_new _ _
        have zO : bO < WO.heap.size := by omega
        have O2 : Out 0 0 w1 WO := OZ.trans o1
        (try rw [hW])
        (try rw [hbO])
        (try clear O1)
        have O1 := O2
        clear O2 hW o1 s1 hbO
        refine hK.out _ _ ?hS39 (fun hHeld2 => ?rest39)
        case hS39 => trivial
        clear hK KK
        (try clear hHeld)
        have hHeld := hHeld2
        clear hHeld2
        (try simp only [Act.put, List.getElem_toArray, List.getElem_cons_zero, List.getElem_cons_succ, List.setIfInBounds_toArray, List.set_cons_zero, List.set_cons_succ])
        refine wpAnyH_ready (rs := [1, 5, 6]) (by kernel_rfl) (by simp) ?_
        refine AllReadyH.cons rfl (fun KK hK => ?_) ?_
        · simp only [List.getElem_toArray, List.getElem_cons_zero, List.getElem_cons_succ]
          go_simp
          obtain ⟨bA, hbA⟩ : ∃ b, WO.heap.size = b := ⟨_, rfl⟩
          have gBA : w1.heap.size ≤ bA := by rw [← hbA]; exact O1.size
          have pObA : bO < bA := by rw [← hbA]; exact zO
          obtain ⟨WOA, hW⟩ : ∃ W, WO.alloc (.cells (madeCells #[.int .i64 0] (64 * n)) 3) = W := ⟨_, rfl⟩
          have o1 : Out 0 0 WO WOA := by rw [← hW]; exact (Out.refl 0 0 _).alloc _
          have s1 : WOA.heap.size = bA + 1 := by rw [← hW, ← hbA]; exact World.size_alloc _ _
          have fA : WOA.heap[bA]? = some (.cells (madeCells #[.int .i64 0] (64 * n)) 3) := by rw [← hW, ← hbA]; exact heap_alloc_new _ _
          have zA : bA < WOA.heap.size := by omega
          replace fO := o1.heap fO (.inr (Nat.zero_le _))
          replace zO := Nat.lt_of_lt_of_le zO o1.size
          have O2 : Out 0 0 w1 WOA := O1.trans o1
          (try rw [hW])
          (try rw [hbA])
          (try clear O1)
          have O1 := O2
          clear O2 hW o1 s1 hbA
          refine hK.out _ _ ?hS40 (fun hHeld2 => ?rest40)
          case hS40 => trivial
          clear hK KK
          (try clear hHeld)
          have hHeld := hHeld2
          clear hHeld2
          (try simp only [Act.put, List.getElem_toArray, List.getElem_cons_zero, List.getElem_cons_succ, List.setIfInBounds_toArray, List.set_cons_zero, List.set_cons_succ])
          refine wpAnyH_ready (rs := [5, 6]) (by kernel_rfl) (by simp) ?_
          refine AllReadyH.cons rfl (fun KK hK => ?_) ?_
          · simp only [List.getElem_toArray, List.getElem_cons_zero, List.getElem_cons_succ]
            go_simp
            refine (HNone.out _ (HTab.out _ O1)).mono ?_
            rintro e WOAL ⟨rfl, fL, o1, s1⟩
            obtain ⟨l, hl⟩ : ∃ l, WOA.heap.size = l := ⟨_, rfl⟩
            rw [hl] at fL s1
            have gL : w1.heap.size ≤ l := by rw [← hl]; exact O1.size
            have pOl : bO < l := by rw [← hl]; exact zO
            have pAl : bA < l := by rw [← hl]; exact zA
            have zL : l + 2 ≤ WOAL.heap.size := by omega
            replace fO := o1.heap fO (.inr (Nat.zero_le _))
            replace zO := Nat.lt_of_lt_of_le zO o1.size
            replace fA := o1.heap fA (.inr (Nat.zero_le _))
            replace zA := Nat.lt_of_lt_of_le zA o1.size
            have O2 : Out 0 0 w1 WOAL := O1.trans o1
            (try rw [hl])
            (try clear O1)
            have O1 := O2
            clear O2 o1 s1 hl
            refine hK.out _ _ ?hS41 (fun hHeld2 => ?rest41)
            case hS41 => trivial
            clear hK KK
            (try clear hHeld)
            have hHeld := hHeld2
            clear hHeld2
            (try simp only [Act.put, List.getElem_toArray, List.getElem_cons_zero, List.getElem_cons_succ, List.setIfInBounds_toArray, List.set_cons_zero, List.set_cons_succ])
            refine wpAnyH_ready (rs := [6]) (by kernel_rfl) (by simp) ?_
            refine AllReadyH.cons rfl (fun KK hK => ?_) ?_
            · simp only [List.getElem_toArray, List.getElem_cons_zero, List.getElem_cons_succ]
              go_simp
              obtain ⟨bS, hbS⟩ : ∃ b, WOAL.heap.size = b := ⟨_, rfl⟩
              have gBS : w1.heap.size ≤ bS := by rw [← hbS]; exact O1.size
              have pObS : bO < bS := by rw [← hbS]; exact zO
              have pAbS : bA < bS := by rw [← hbS]; exact zA
              have pLbS : l + 2 ≤ bS := by rw [← hbS]; exact zL
              obtain ⟨WOALS, hW⟩ : ∃ W, WOAL.alloc (.map #[] 0) = W := ⟨_, rfl⟩
              have o1 : Out 0 0 WOAL WOALS := by rw [← hW]; exact (Out.refl 0 0 _).alloc _
              have s1 : WOALS.heap.size = bS + 1 := by rw [← hW, ← hbS]; exact World.size_alloc _ _
              have fS : WOALS.heap[bS]? = some (.map #[] 0) := by rw [← hW, ← hbS]; exact heap_alloc_new _ _
              have zS : bS < WOALS.heap.size := by omega
              replace fO := o1.heap fO (.inr (Nat.zero_le _))
              replace zO := Nat.lt_of_lt_of_le zO o1.size
              replace fA := o1.heap fA (.inr (Nat.zero_le _))
              replace zA := Nat.lt_of_lt_of_le zA o1.size
              replace fL := fL.quiet o1
              replace zL := Nat.le_trans zL o1.size
              have O2 : Out 0 0 w1 WOALS := O1.trans o1
              (try rw [hW])
              (try rw [hbS])
              (try clear O1)
              have O1 := O2
              clear O2 hW o1 s1 hbS
              refine hK.out _ _ ?hS42 (fun hHeld2 => ?rest42)
              case hS42 => trivial
              clear hK KK
              (try clear hHeld)
              have hHeld := hHeld2
              clear hHeld2
              (try simp only [Act.put, List.getElem_toArray, List.getElem_cons_zero, List.getElem_cons_succ, List.setIfInBounds_toArray, List.set_cons_zero, List.set_cons_succ])
              refine wpAnyH_take (i := 7) (v := ?v43) rfl (by kernel_rfl) (by kernel_rfl) (by kernel_rfl) (fun _ _ _ h => h) (Or.inl ⟨by rfl, ?hy43⟩) (by assumption) ?rest43
              case hy43 => (intro w hSw; (try dsimp only at hSw); simp only [List.getElem_toArray, List.getElem_cons_zero, List.getElem_cons_succ]; go_simp; (try with_reducible rfl))
              (try simp only [Act.put, List.getElem_toArray, List.getElem_cons_zero, List.getElem_cons_succ, List.setIfInBounds_toArray, List.set_cons_zero, List.set_cons_succ])
              refine wpAnyH_ready (rs := [8]) (by kernel_rfl) (by simp) ?_
              refine AllReadyH.cons rfl (fun KK hK => ?_) ?_
              · simp only [List.getElem_toArray, List.getElem_cons_zero, List.getElem_cons_succ]
                go_simp
                obtain ⟨bs, hbs⟩ : ∃ b, WOALS.heap.size = b := ⟨_, rfl⟩
                obtain ⟨WOALSB, hW⟩ : ∃ W, WOALS.alloc (.cells #[.slice (some ⟨bA, 0, none⟩) (64 * n) (64 * n), .pointer (some ⟨tb, 0, none⟩), .map (some bO), .pointer (some ⟨l + 1, 0, none⟩), .pointer none, .pointer none, .pointer none, .pointer none, .pointer none, .pointer none, .pointer none, .pointer none, .map (some bS), .int .i64 0] 85) = W := ⟨_, rfl⟩
                have o1 : Out 0 0 WOALS WOALSB := by rw [← hW]; exact (Out.refl 0 0 _).alloc _
                have fB : WOALSB.heap[bs]? = some (.cells #[.slice (some ⟨bA, 0, none⟩) (64 * n) (64 * n), .pointer (some ⟨tb, 0, none⟩), .map (some bO), .pointer (some ⟨l + 1, 0, none⟩), .pointer none, .pointer none, .pointer none, .pointer none, .pointer none, .pointer none, .pointer none, .pointer none, .map (some bS), .int .i64 0] 85) := by rw [← hW, ← hbs]; exact heap_alloc_new _ _
                have s1b : WOALSB.heap.size = bs + 1 := by rw [← hW, ← hbs]; exact World.size_alloc _ _
                have zz : bA < bs ∧ bO < bs ∧ bS < bs ∧ l + 2 ≤ bs := by rw [← hbs]; exact ⟨zA, zO, zS, zL⟩
                replace fO := o1.heap fO (.inr (Nat.zero_le _))
                replace zO := Nat.lt_of_lt_of_le zO o1.size
                replace fA := o1.heap fA (.inr (Nat.zero_le _))
                replace zA := Nat.lt_of_lt_of_le zA o1.size
                replace fL := fL.quiet o1
                replace zL := Nat.le_trans zL o1.size
                replace fS := o1.heap fS (.inr (Nat.zero_le _))
                replace zS := Nat.lt_of_lt_of_le zS o1.size
                have O2 := O1.trans o1
                (try rw [hW])
                (try rw [hbs])
                refine hK.out _ _ ?hS44 (fun hHeld2 => ?rest44)
                case hS44 => trivial
                clear hK KK
                (try clear hHeld)
                have hHeld := hHeld2
                clear hHeld2
                (try simp only [Act.put, List.getElem_toArray, List.getElem_cons_zero, List.getElem_cons_succ, List.setIfInBounds_toArray, List.set_cons_zero, List.set_cons_succ])
                refine wpAnyH_take (i := 9) (v := ?v45) rfl (by kernel_rfl) (by kernel_rfl) (by kernel_rfl) (fun _ _ _ h => h) (Or.inl ⟨by rfl, ?hy45⟩) (by assumption) ?rest45
                case hy45 => (intro w hSw; (try dsimp only at hSw); simp only [List.getElem_toArray, List.getElem_cons_zero, List.getElem_cons_succ]; go_simp; (try with_reducible rfl))
                (try simp only [Act.put, List.getElem_toArray, List.getElem_cons_zero, List.getElem_cons_succ, List.setIfInBounds_toArray, List.set_cons_zero, List.set_cons_succ])
                refine wpAnyH_done (by kernel_rfl) ?_ _
                have hap : (bA ≠ bO ∧ bA ≠ bS ∧ bO ≠ bS ∧ (bA < l ∨ l + 2 ≤ bA) ∧ (bO < l ∨ l + 2 ≤ bO) ∧ (bS < l ∨ l + 2 ≤ bS)) := by omega
                exact ⟨bA, bO, l, bS, bs, rfl, O2, fA, fO, fS, fL, fB, by have := O2.size; omega, zz, hap⟩
              · exact AllReadyH.nil
            · exact AllReadyH.nil
          · refine AllReadyH.cons rfl (fun KK hK => ?_) ?_
            · simp only [List.getElem_toArray, List.getElem_cons_zero, List.getElem_cons_succ]
              go_simp
              obtain ⟨bS, hbS⟩ : ∃ b, WOA.heap.size = b := ⟨_, rfl⟩
              have gBS : w1.heap.size ≤ bS := by rw [← hbS]; exact O1.size
              have pObS : bO < bS := by rw [← hbS]; exact zO
              have pAbS : bA < bS := by rw [← hbS]; exact zA
              obtain ⟨WOAS, hW⟩ : ∃ W, WOA.alloc (.map #[] 0) = W := ⟨_, rfl⟩
              have o1 : Out 0 0 WOA WOAS := by rw [← hW]; exact (Out.refl 0 0 _).alloc _
              have s1 : WOAS.heap.size = bS + 1 := by rw [← hW, ← hbS]; exact World.size_alloc _ _
              have fS : WOAS.heap[bS]? = some (.map #[] 0) := by rw [← hW, ← hbS]; exact heap_alloc_new _ _
              have zS : bS < WOAS.heap.size := by omega
              replace fO := o1.heap fO (.inr (Nat.zero_le _))
              replace zO := Nat.lt_of_lt_of_le zO o1.size
              replace fA := o1.heap fA (.inr (Nat.zero_le _))
              replace zA := Nat.lt_of_lt_of_le zA o1.size
              have O2 : Out 0 0 w1 WOAS := O1.trans o1
              (try rw [hW])
              (try rw [hbS])
              (try clear O1)
              have O1 := O2
              clear O2 hW o1 s1 hbS
              refine hK.out _ _ ?hS46 (fun hHeld2 => ?rest46)
              case hS46 => trivial
              clear hK KK
              (try clear hHeld)
              have hHeld := hHeld2
              clear hHeld2
              (try simp only [Act.put, List.getElem_toArray, List.getElem_cons_zero, List.getElem_cons_succ, List.setIfInBounds_toArray, List.set_cons_zero, List.set_cons_succ])
              refine wpAnyH_ready (rs := [5]) (by kernel_rfl) (by simp) ?_
              refine AllReadyH.cons rfl (fun KK hK => ?_) ?_
              · simp only [List.getElem_toArray, List.getElem_cons_zero, List.getElem_cons_succ]
                go_simp
                refine (HNone.out _ (HTab.out _ O1)).mono ?_
                rintro e WOASL ⟨rfl, fL, o1, s1⟩
                obtain ⟨l, hl⟩ : ∃ l, WOAS.heap.size = l := ⟨_, rfl⟩
                rw [hl] at fL s1
                have gL : w1.heap.size ≤ l := by rw [← hl]; exact O1.size
                have pOl : bO < l := by rw [← hl]; exact zO
                have pAl : bA < l := by rw [← hl]; exact zA
                have pSl : bS < l := by rw [← hl]; exact zS
                have zL : l + 2 ≤ WOASL.heap.size := by omega
                replace fO := o1.heap fO (.inr (Nat.zero_le _))
                replace zO := Nat.lt_of_lt_of_le zO o1.size
                replace fA := o1.heap fA (.inr (Nat.zero_le _))
                replace zA := Nat.lt_of_lt_of_le zA o1.size
                replace fS := o1.heap fS (.inr (Nat.zero_le _))
                replace zS := Nat.lt_of_lt_of_le zS o1.size
                have O2 : Out 0 0 w1 WOASL := O1.trans o1
                (try rw [hl])
                (try clear O1)
                have O1 := O2
                clear O2 o1 s1 hl
                refine hK.out _ _ ?hS47 (fun hHeld2 => ?rest47)
                case hS47 => trivial
                clear hK KK
                (try clear hHeld)
                have hHeld := hHeld2
                clear hHeld2
                (try simp only [Act.put, List.getElem_toArray, List.getElem_cons_zero, List.getElem_cons_succ, List.setIfInBounds_toArray, List.set_cons_zero, List.set_cons_succ])
                refine wpAnyH_take (i := 7) (v := ?v48) rfl (by kernel_rfl) (by kernel_rfl) (by kernel_rfl) (fun _ _ _ h => h) (Or.inl ⟨by rfl, ?hy48⟩) (by assumption) ?rest48
                case hy48 => (intro w hSw; (try dsimp only at hSw); simp only [List.getElem_toArray, List.getElem_cons_zero, List.getElem_cons_succ]; go_simp; (try with_reducible rfl))
                (try simp only [Act.put, List.getElem_toArray, List.getElem_cons_zero, List.getElem_cons_succ, List.setIfInBounds_toArray, List.set_cons_zero, List.set_cons_succ])
                refine wpAnyH_ready (rs := [8]) (by kernel_rfl) (by simp) ?_
                refine AllReadyH.cons rfl (fun KK hK => ?_) ?_
                · simp only [List.getElem_toArray, List.getElem_cons_zero, List.getElem_cons_succ]
                  go_simp
                  obtain ⟨bs, hbs⟩ : ∃ b, WOASL.heap.size = b := ⟨_, rfl⟩
                  obtain ⟨WOASLB, hW⟩ : ∃ W, WOASL.alloc (.cells #[.slice (some ⟨bA, 0, none⟩) (64 * n) (64 * n), .pointer (some ⟨tb, 0, none⟩), .map (some bO), .pointer (some ⟨l + 1, 0, none⟩), .pointer none, .pointer none, .pointer none, .pointer none, .pointer none, .pointer none, .pointer none, .pointer none, .map (some bS), .int .i64 0] 85) = W := ⟨_, rfl⟩
                  have o1 : Out 0 0 WOASL WOASLB := by rw [← hW]; exact (Out.refl 0 0 _).alloc _
                  have fB : WOASLB.heap[bs]? = some (.cells #[.slice (some ⟨bA, 0, none⟩) (64 * n) (64 * n), .pointer (some ⟨tb, 0, none⟩), .map (some bO), .pointer (some ⟨l + 1, 0, none⟩), .pointer none, .pointer none, .pointer none, .pointer none, .pointer none, .pointer none, .pointer none, .pointer none, .map (some bS), .int .i64 0] 85) := by rw [← hW, ← hbs]; exact heap_alloc_new _ _
                  have s1b : WOASLB.heap.size = bs + 1 := by rw [← hW, ← hbs]; exact World.size_alloc _ _
                  have zz : bA < bs ∧ bO < bs ∧ bS < bs ∧ l + 2 ≤ bs := by rw [← hbs]; exact ⟨zA, zO, zS, zL⟩
                  replace fO := o1.heap fO (.inr (Nat.zero_le _))
                  replace zO := Nat.lt_of_lt_of_le zO o1.size
                  replace fA := o1.heap fA (.inr (Nat.zero_le _))
                  replace zA := Nat.lt_of_lt_of_le zA o1.size
                  replace fS := o1.heap fS (.inr (Nat.zero_le _))
                  replace zS := Nat.lt_of_lt_of_le zS o1.size
                  replace fL := fL.quiet o1
                  replace zL := Nat.le_trans zL o1.size
                  have O2 := O1.trans o1
                  (try rw [hW])
                  (try rw [hbs])
                  refine hK.out _ _ ?hS49 (fun hHeld2 => ?rest49)
                  case hS49 => trivial
                  clear hK KK
                  (try clear hHeld)
                  have hHeld := hHeld2
                  clear hHeld2
                  (try simp only [Act.put, List.getElem_toArray, List.getElem_cons_zero, List.getElem_cons_succ, List.setIfInBounds_toArray, List.set_cons_zero, List.set_cons_succ])
                  refine wpAnyH_take (i := 9) (v := ?v50) rfl (by kernel_rfl) (by kernel_rfl) (by kernel_rfl) (fun _ _ _ h => h) (Or.inl ⟨by rfl, ?hy50⟩) (by assumption) ?rest50
                  case hy50 => (intro w hSw; (try dsimp only at hSw); simp only [List.getElem_toArray, List.getElem_cons_zero, List.getElem_cons_succ]; go_simp; (try with_reducible rfl))
                  (try simp only [Act.put, List.getElem_toArray, List.getElem_cons_zero, List.getElem_cons_succ, List.setIfInBounds_toArray, List.set_cons_zero, List.set_cons_succ])
                  refine wpAnyH_done (by kernel_rfl) ?_ _
                  have hap : (bA ≠ bO ∧ bA ≠ bS ∧ bO ≠ bS ∧ (bA < l ∨ l + 2 ≤ bA) ∧ (bO < l ∨ l + 2 ≤ bO) ∧ (bS < l ∨ l + 2 ≤ bS)) := by omega
                  exact ⟨bA, bO, l, bS, bs, rfl, O2, fA, fO, fS, fL, fB, by have := O2.size; omega, zz, hap⟩
                · exact AllReadyH.nil
              · exact AllReadyH.nil
            · exact AllReadyH.nil
        · refine AllReadyH.cons rfl (fun KK hK => ?_) ?_
          · simp only [List.getElem_toArray, List.getElem_cons_zero, List.getElem_cons_succ]
            go_simp
            refine (HNone.out _ (HTab.out _ O1)).mono ?_
            rintro e WOL ⟨rfl, fL, o1, s1⟩
            obtain ⟨l, hl⟩ : ∃ l, WO.heap.size = l := ⟨_, rfl⟩
            rw [hl] at fL s1
            have gL : w1.heap.size ≤ l := by rw [← hl]; exact O1.size
            have pOl : bO < l := by rw [← hl]; exact zO
            have zL : l + 2 ≤ WOL.heap.size := by omega
            replace fO := o1.heap fO (.inr (Nat.zero_le _))
            replace zO := Nat.lt_of_lt_of_le zO o1.size
            have O2 : Out 0 0 w1 WOL := O1.trans o1
            (try rw [hl])
            (try clear O1)
            have O1 := O2
            clear O2 o1 s1 hl
            refine hK.out _ _ ?hS51 (fun hHeld2 => ?rest51)
            case hS51 => trivial
            clear hK KK
            (try clear hHeld)
            have hHeld := hHeld2
            clear hHeld2
            (try simp only [Act.put, List.getElem_toArray, List.getElem_cons_zero, List.getElem_cons_succ, List.setIfInBounds_toArray, List.set_cons_zero, List.set_cons_succ])
            refine wpAnyH_ready (rs := [1, 6]) (by kernel_rfl) (by simp) ?_
            refine AllReadyH.cons rfl (fun KK hK => ?_) ?_
            · simp only [List.getElem_toArray, List.getElem_cons_zero, List.getElem_cons_succ]
              go_simp
              obtain ⟨bA, hbA⟩ : ∃ b, WOL.heap.size = b := ⟨_, rfl⟩
              have gBA : w1.heap.size ≤ bA := by rw [← hbA]; exact O1.size
              have pObA : bO < bA := by rw [← hbA]; exact zO
              have pLbA : l + 2 ≤ bA := by rw [← hbA]; exact zL
              obtain ⟨WOLA, hW⟩ : ∃ W, WOL.alloc (.cells (madeCells #[.int .i64 0] (64 * n)) 3) = W := ⟨_, rfl⟩
              have o1 : Out 0 0 WOL WOLA := by rw [← hW]; exact (Out.refl 0 0 _).alloc _
              have s1 : WOLA.heap.size = bA + 1 := by rw [← hW, ← hbA]; exact World.size_alloc _ _
              have fA : WOLA.heap[bA]? = some (.cells (madeCells #[.int .i64 0] (64 * n)) 3) := by rw [← hW, ← hbA]; exact heap_alloc_new _ _
              have zA : bA < WOLA.heap.size := by omega
              replace fO := o1.heap fO (.inr (Nat.zero_le _))
              replace zO := Nat.lt_of_lt_of_le zO o1.size
              replace fL := fL.quiet o1
              replace zL := Nat.le_trans zL o1.size
              have O2 : Out 0 0 w1 WOLA := O1.trans o1
              (try rw [hW])
              (try rw [hbA])
              (try clear O1)
              have O1 := O2
              clear O2 hW o1 s1 hbA
              refine hK.out _ _ ?hS52 (fun hHeld2 => ?rest52)
              case hS52 => trivial
              clear hK KK
              (try clear hHeld)
              have hHeld := hHeld2
              clear hHeld2
              (try simp only [Act.put, List.getElem_toArray, List.getElem_cons_zero, List.getElem_cons_succ, List.setIfInBounds_toArray, List.set_cons_zero, List.set_cons_succ])
              refine wpAnyH_ready (rs := [6]) (by kernel_rfl) (by simp) ?_
              refine AllReadyH.cons rfl (fun KK hK => ?_) ?_
              · simp only [List.getElem_toArray, List.getElem_cons_zero, List.getElem_cons_succ]
                go_simp
                obtain ⟨bS, hbS⟩ : ∃ b, WOLA.heap.size = b := ⟨_, rfl⟩
                have gBS : w1.heap.size ≤ bS := by rw [← hbS]; exact O1.size
                have pObS : bO < bS := by rw [← hbS]; exact zO
                have pLbS : l + 2 ≤ bS := by rw [← hbS]; exact zL
                have pAbS : bA < bS := by rw [← hbS]; exact zA
                obtain ⟨WOLAS, hW⟩ : ∃ W, WOLA.alloc (.map #[] 0) = W := ⟨_, rfl⟩
                have o1 : Out 0 0 WOLA WOLAS := by rw [← hW]; exact (Out.refl 0 0 _).alloc _
                have s1 : WOLAS.heap.size = bS + 1 := by rw [← hW, ← hbS]; exact World.size_alloc _ _
                have fS : WOLAS.heap[bS]? = some (.map #[] 0) := by rw [← hW, ← hbS]; exact heap_alloc_new _ _
                have zS : bS < WOLAS.heap.size := by omega
                replace fO := o1.heap fO (.inr (Nat.zero_le _))
                replace zO := Nat.lt_of_lt_of_le zO o1.size
                replace fL := fL.quiet o1
                replace zL := Nat.le_trans zL o1.size
                replace fA := o1.heap fA (.inr (Nat.zero_le _))
                replace zA := Nat.lt_of_lt_of_le zA o1.size
                have O2 : Out 0 0 w1 WOLAS := O1.trans o1
                (try rw [hW])
                (try rw [hbS])
                (try clear O1)
                have O1 := O2
                clear O2 hW o1 s1 hbS
                refine hK.out _ _ ?hS53 (fun hHeld2 => ?rest53)
                case hS53 => trivial
                clear hK KK
                (try clear hHeld)
                have hHeld := hHeld2
                clear hHeld2
                (try simp only [Act.put, List.getElem_toArray, List.getElem_cons_zero, List.getElem_cons_succ, List.setIfInBounds_toArray, List.set_cons_zero, List.set_cons_succ])
                refine wpAnyH_take (i := 7) (v := ?v54) rfl (by kernel_rfl) (by kernel_rfl) (by kernel_rfl) (fun _ _ _ h => h) (Or.inl ⟨by rfl, ?hy54⟩) (by assumption) ?rest54
                case hy54 => (intro w hSw; (try dsimp only at hSw); simp only [List.getElem_toArray, List.getElem_cons_zero, List.getElem_cons_succ]; go_simp; (try with_reducible rfl))
                (try simp only [Act.put, List.getElem_toArray, List.getElem_cons_zero, List.getElem_cons_succ, List.setIfInBounds_toArray, List.set_cons_zero, List.set_cons_succ])
                refine wpAnyH_ready (rs := [8]) (by kernel_rfl) (by simp) ?_
                refine AllReadyH.cons rfl (fun KK hK => ?_) ?_
                · simp only [List.getElem_toArray, List.getElem_cons_zero, List.getElem_cons_succ]
                  go_simp
                  obtain ⟨bs, hbs⟩ : ∃ b, WOLAS.heap.size = b := ⟨_, rfl⟩
                  obtain ⟨WOLASB, hW⟩ : ∃ W, WOLAS.alloc (.cells #[.slice (some ⟨bA, 0, none⟩) (64 * n) (64 * n), .pointer (some ⟨tb, 0, none⟩), .map (some bO), .pointer (some ⟨l + 1, 0, none⟩), .pointer none, .pointer none, .pointer none, .pointer none, .pointer none, .pointer none, .pointer none, .pointer none, .map (some bS), .int .i64 0] 85) = W := ⟨_, rfl⟩
                  have o1 : Out 0 0 WOLAS WOLASB := by rw [← hW]; exact (Out.refl 0 0 _).alloc _
                  have fB : WOLASB.heap[bs]? = some (.cells #[.slice (some ⟨bA, 0, none⟩) (64 * n) (64 * n), .pointer (some ⟨tb, 0, none⟩), .map (some bO), .pointer (some ⟨l + 1, 0, none⟩), .pointer none, .pointer none, .pointer none, .pointer none, .pointer none, .pointer none, .pointer none, .pointer none, .map (some bS), .int .i64 0] 85) := by rw [← hW, ← hbs]; exact heap_alloc_new _ _
                  have s1b : WOLASB.heap.size = bs + 1 := by rw [← hW, ← hbs]; exact World.size_alloc _ _
                  have zz : bA < bs ∧ bO < bs ∧ bS < bs ∧ l + 2 ≤ bs := by rw [← hbs]; exact ⟨zA, zO, zS, zL⟩
                  replace fO := o1.heap fO (.inr (Nat.zero_le _))
                  replace zO := Nat.lt_of_lt_of_le zO o1.size
                  replace fL := fL.quiet o1
                  replace zL := Nat.le_trans zL o1.size
                  replace fA := o1.heap fA (.inr (Nat.zero_le _))
                  replace zA := Nat.lt_of_lt_of_le zA o1.size
                  replace fS := o1.heap fS (.inr (Nat.zero_le _))
                  replace zS := Nat.lt_of_lt_of_le zS o1.size
                  have O2 := O1.trans o1
                  (try rw [hW])
                  (try rw [hbs])
                  refine hK.out _ _ ?hS55 (fun hHeld2 => ?rest55)
                  case hS55 => trivial
                  clear hK KK
                  (try clear hHeld)
                  have hHeld := hHeld2
                  clear hHeld2
                  (try simp only [Act.put, List.getElem_toArray, List.getElem_cons_zero, List.getElem_cons_succ, List.setIfInBounds_toArray, List.set_cons_zero, List.set_cons_succ])
                  refine wpAnyH_take (i := 9) (v := ?v56) rfl (by kernel_rfl) (by kernel_rfl) (by kernel_rfl) (fun _ _ _ h => h) (Or.inl ⟨by rfl, ?hy56⟩) (by assumption) ?rest56
                  case hy56 => (intro w hSw; (try dsimp only at hSw); simp only [List.getElem_toArray, List.getElem_cons_zero, List.getElem_cons_succ]; go_simp; (try with_reducible rfl))
                  (try simp only [Act.put, List.getElem_toArray, List.getElem_cons_zero, List.getElem_cons_succ, List.setIfInBounds_toArray, List.set_cons_zero, List.set_cons_succ])
                  refine wpAnyH_done (by kernel_rfl) ?_ _
                  have hap : (bA ≠ bO ∧ bA ≠ bS ∧ bO ≠ bS ∧ (bA < l ∨ l + 2 ≤ bA) ∧ (bO < l ∨ l + 2 ≤ bO) ∧ (bS < l ∨ l + 2 ≤ bS)) := by omega
                  exact ⟨bA, bO, l, bS, bs, rfl, O2, fA, fO, fS, fL, fB, by have := O2.size; omega, zz, hap⟩
                · exact AllReadyH.nil
              · exact AllReadyH.nil
            · refine AllReadyH.cons rfl (fun KK hK => ?_) ?_
              · simp only [List.getElem_toArray, List.getElem_cons_zero, List.getElem_cons_succ]
                go_simp
                obtain ⟨bS, hbS⟩ : ∃ b, WOL.heap.size = b := ⟨_, rfl⟩
                have gBS : w1.heap.size ≤ bS := by rw [← hbS]; exact O1.size
                have pObS : bO < bS := by rw [← hbS]; exact zO
                have pLbS : l + 2 ≤ bS := by rw [← hbS]; exact zL
                obtain ⟨WOLS, hW⟩ : ∃ W, WOL.alloc (.map #[] 0) = W := ⟨_, rfl⟩
                have o1 : Out 0 0 WOL WOLS := by rw [← hW]; exact (Out.refl 0 0 _).alloc _
                have s1 : WOLS.heap.size = bS + 1 := by rw [← hW, ← hbS]; exact World.size_alloc _ _
                have fS : WOLS.heap[bS]? = some (.map #[] 0) := by rw [← hW, ← hbS]; exact heap_alloc_new _ _
                have zS : bS < WOLS.heap.size := by omega
                replace fO := o1.heap fO (.inr (Nat.zero_le _))
                replace zO := Nat.lt_of_lt_of_le zO o1.size
                replace fL := fL.quiet o1
                replace zL := Nat.le_trans zL o1.size
                have O2 : Out 0 0 w1 WOLS := O1.trans o1
                (try rw [hW])
                (try rw [hbS])
                (try clear O1)
                have O1 := O2
                clear O2 hW o1 s1 hbS
                refine hK.out _ _ ?hS57 (fun hHeld2 => ?rest57)
                case hS57 => trivial
                clear hK KK
                (try clear hHeld)
                have hHeld := hHeld2
                clear hHeld2
                (try simp only [Act.put, List.getElem_toArray, List.getElem_cons_zero, List.getElem_cons_succ, List.setIfInBounds_toArray, List.set_cons_zero, List.set_cons_succ])
                refine wpAnyH_ready (rs := [1]) (by kernel_rfl) (by simp) ?_
                refine AllReadyH.cons rfl (fun KK hK => ?_) ?_
                · simp only [List.getElem_toArray, List.getElem_cons_zero, List.getElem_cons_succ]
                  go_simp
                  obtain ⟨bA, hbA⟩ : ∃ b, WOLS.heap.size = b := ⟨_, rfl⟩
                  have gBA : w1.heap.size ≤ bA := by rw [← hbA]; exact O1.size
                  have pObA : bO < bA := by rw [← hbA]; exact zO
                  have pLbA : l + 2 ≤ bA := by rw [← hbA]; exact zL
                  have pSbA : bS < bA := by rw [← hbA]; exact zS
                  obtain ⟨WOLSA, hW⟩ : ∃ W, WOLS.alloc (.cells (madeCells #[.int .i64 0] (64 * n)) 3) = W := ⟨_, rfl⟩
                  have o1 : Out 0 0 WOLS WOLSA := by rw [← hW]; exact (Out.refl 0 0 _).alloc _
                  have s1 : WOLSA.heap.size = bA + 1 := by rw [← hW, ← hbA]; exact World.size_alloc _ _
                  have fA : WOLSA.heap[bA]? = some (.cells (madeCells #[.int .i64 0] (64 * n)) 3) := by rw [← hW, ← hbA]; exact heap_alloc_new _ _
                  have zA : bA < WOLSA.heap.size := by omega
                  replace fO := o1.heap fO (.inr (Nat.zero_le _))
                  replace zO := Nat.lt_of_lt_of_le zO o1.size
                  replace fL := fL.quiet o1
                  replace zL := Nat.le_trans zL o1.size
                  replace fS := o1.heap fS (.inr (Nat.zero_le _))
                  replace zS := Nat.lt_of_lt_of_le zS o1.size
                  have O2 : Out 0 0 w1 WOLSA := O1.trans o1
                  (try rw [hW])
                  (try rw [hbA])
                  (try clear O1)
                  have O1 := O2
                  clear O2 hW o1 s1 hbA
                  refine hK.out _ _ ?hS58 (fun hHeld2 => ?rest58)
                  case hS58 => trivial
                  clear hK KK
                  (try clear hHeld)
                  have hHeld := hHeld2
                  clear hHeld2
                  (try simp only [Act.put, List.getElem_toArray, List.getElem_cons_zero, List.getElem_cons_succ, List.setIfInBounds_toArray, List.set_cons_zero, List.set_cons_succ])
                  refine wpAnyH_take (i := 7) (v := ?v59) rfl (by kernel_rfl) (by kernel_rfl) (by kernel_rfl) (fun _ _ _ h => h) (Or.inl ⟨by rfl, ?hy59⟩) (by assumption) ?rest59
                  case hy59 => (intro w hSw; (try dsimp only at hSw); simp only [List.getElem_toArray, List.getElem_cons_zero, List.getElem_cons_succ]; go_simp; (try with_reducible rfl))
                  (try simp only [Act.put, List.getElem_toArray, List.getElem_cons_zero, List.getElem_cons_succ, List.setIfInBounds_toArray, List.set_cons_zero, List.set_cons_succ])
                  refine wpAnyH_ready (rs := [8]) (by kernel_rfl) (by simp) ?_
                  refine AllReadyH.cons rfl (fun KK hK => ?_) ?_
                  · simp only [List.getElem_toArray, List.getElem_cons_zero, List.getElem_cons_succ]
                    go_simp
                    obtain ⟨bs, hbs⟩ : ∃ b, WOLSA.heap.size = b := ⟨_, rfl⟩
                    obtain ⟨WOLSAB, hW⟩ : ∃ W, WOLSA.alloc (.cells #[.slice (some ⟨bA, 0, none⟩) (64 * n) (64 * n), .pointer (some ⟨tb, 0, none⟩), .map (some bO), .pointer (some ⟨l + 1, 0, none⟩), .pointer none, .pointer none, .pointer none, .pointer none, .pointer none, .pointer none, .pointer none, .pointer none, .map (some bS), .int .i64 0] 85) = W := ⟨_, rfl⟩
                    have o1 : Out 0 0 WOLSA WOLSAB := by rw [← hW]; exact (Out.refl 0 0 _).alloc _
                    have fB : WOLSAB.heap[bs]? = some (.cells #[.slice (some ⟨bA, 0, none⟩) (64 * n) (64 * n), .pointer (some ⟨tb, 0, none⟩), .map (some bO), .pointer (some ⟨l + 1, 0, none⟩), .pointer none, .pointer none, .pointer none, .pointer none, .pointer none, .pointer none, .pointer none, .pointer none, .map (some bS), .int .i64 0] 85) := by rw [← hW, ← hbs]; exact heap_alloc_new _ _
                    have s1b : WOLSAB.heap.size = bs + 1 := by rw [← hW, ← hbs]; exact World.size_alloc _ _
                    have zz : bA < bs ∧ bO < bs ∧ bS < bs ∧ l + 2 ≤ bs := by rw [← hbs]; exact ⟨zA, zO, zS, zL⟩
                    replace fO := o1.heap fO (.inr (Nat.zero_le _))
                    replace zO := Nat.lt_of_lt_of_le zO o1.size
                    replace fL := fL.quiet o1
                    replace zL := Nat.le_trans zL o1.size
                    replace fS := o1.heap fS (.inr (Nat.zero_le _))
                    replace zS := Nat.lt_of_lt_of_le zS o1.size
                    replace fA := o1.heap fA (.inr (Nat.zero_le _))
                    replace zA := Nat.lt_of_lt_of_le zA o1.size
                    have O2 := O1.trans o1
                    (try rw [hW])
                    (try rw [hbs])
                    refine hK.out _ _ ?hS60 (fun hHeld2 => ?rest60)
                    case hS60 => trivial
                    clear hK KK
                    (try clear hHeld)
                    have hHeld := hHeld2
                    clear hHeld2
                    (try simp only [Act.put, List.getElem_toArray, List.getElem_cons_zero, List.getElem_cons_succ, List.setIfInBounds_toArray, List.set_cons_zero, List.set_cons_succ])
                    refine wpAnyH_take (i := 9) (v := ?v61) rfl (by kernel_rfl) (by kernel_rfl) (by kernel_rfl) (fun _ _ _ h => h) (Or.inl ⟨by rfl, ?hy61⟩) (by assumption) ?rest61
                    case hy61 => (intro w hSw; (try dsimp only at hSw); simp only [List.getElem_toArray, List.getElem_cons_zero, List.getElem_cons_succ]; go_simp; (try with_reducible rfl))
                    (try simp only [Act.put, List.getElem_toArray, List.getElem_cons_zero, List.getElem_cons_succ, List.setIfInBounds_toArray, List.set_cons_zero, List.set_cons_succ])
                    refine wpAnyH_done (by kernel_rfl) ?_ _
                    have hap : (bA ≠ bO ∧ bA ≠ bS ∧ bO ≠ bS ∧ (bA < l ∨ l + 2 ≤ bA) ∧ (bO < l ∨ l + 2 ≤ bO) ∧ (bS < l ∨ l + 2 ≤ bS)) := by omega
                    exact ⟨bA, bO, l, bS, bs, rfl, O2, fA, fO, fS, fL, fB, by have := O2.size; omega, zz, hap⟩
                  · exact AllReadyH.nil
                · exact AllReadyH.nil
              · exact AllReadyH.nil
          · refine AllReadyH.cons rfl (fun KK hK => ?_) ?_
            · simp only [List.getElem_toArray, List.getElem_cons_zero, List.getElem_cons_succ]
              go_simp
              obtain ⟨bS, hbS⟩ : ∃ b, WO.heap.size = b := ⟨_, rfl⟩
              have gBS : w1.heap.size ≤ bS := by rw [← hbS]; exact O1.size
              have pObS : bO < bS := by rw [← hbS]; exact zO
              obtain ⟨WOS, hW⟩ : ∃ W, WO.alloc (.map #[] 0) = W := ⟨_, rfl⟩
              have o1 : Out 0 0 WO WOS := by rw [← hW]; exact (Out.refl 0 0 _).alloc _
              have s1 : WOS.heap.size = bS + 1 := by rw [← hW, ← hbS]; exact World.size_alloc _ _
              have fS : WOS.heap[bS]? = some (.map #[] 0) := by rw [← hW, ← hbS]; exact heap_alloc_new _ _
              have zS : bS < WOS.heap.size := by omega
              replace fO := o1.heap fO (.inr (Nat.zero_le _))
              replace zO := Nat.lt_of_lt_of_le zO o1.size
              have O2 : Out 0 0 w1 WOS := O1.trans o1
              (try rw [hW])
              (try rw [hbS])
              (try clear O1)
              have O1 := O2
              clear O2 hW o1 s1 hbS
              refine hK.out _ _ ?hS62 (fun hHeld2 => ?rest62)
              case hS62 => trivial
              clear hK KK
              (try clear hHeld)
              have hHeld := hHeld2
              clear hHeld2
              (try simp only [Act.put, List.getElem_toArray, List.getElem_cons_zero, List.getElem_cons_succ, List.setIfInBounds_toArray, List.set_cons_zero, List.set_cons_succ])
              refine wpAnyH_ready (rs := [1, 5]) (by kernel_rfl) (by simp) ?_
              refine AllReadyH.cons rfl (fun KK hK => ?_) ?_
              · simp only [List.getElem_toArray, List.getElem_cons_zero, List.getElem_cons_succ]
                go_simp
                obtain ⟨bA, hbA⟩ : ∃ b, WOS.heap.size = b := ⟨_, rfl⟩
                have gBA : w1.heap.size ≤ bA := by rw [← hbA]; exact O1.size
                have pObA : bO < bA := by rw [← hbA]; exact zO
                have pSbA : bS < bA := by rw [← hbA]; exact zS
                obtain ⟨WOSA, hW⟩ : ∃ W, WOS.alloc (.cells (madeCells #[.int .i64 0] (64 * n)) 3) = W := ⟨_, rfl⟩
                have o1 : Out 0 0 WOS WOSA := by rw [← hW]; exact (Out.refl 0 0 _).alloc _
                have s1 : WOSA.heap.size = bA + 1 := by rw [← hW, ← hbA]; exact World.size_alloc _ _
                have fA : WOSA.heap[bA]? = some (.cells (madeCells #[.int .i64 0] (64 * n)) 3) := by rw [← hW, ← hbA]; exact heap_alloc_new _ _
                have zA : bA < WOSA.heap.size := by omega
                replace fO := o1.heap fO (.inr (Nat.zero_le _))
                replace zO := Nat.lt_of_lt_of_le zO o1.size
                replace fS := o1.heap fS (.inr (Nat.zero_le _))
                replace zS := Nat.lt_of_lt_of_le zS o1.size
                have O2 : Out 0 0 w1 WOSA := O1.trans o1
                (try rw [hW])
                (try rw [hbA])
                (try clear O1)
                have O1 := O2
                clear O2 hW o1 s1 hbA
                refine hK.out _ _ ?hS63 (fun hHeld2 => ?rest63)
                case hS63 => trivial
                clear hK KK
                (try clear hHeld)
                have hHeld := hHeld2
                clear hHeld2
                (try simp only [Act.put, List.getElem_toArray, List.getElem_cons_zero, List.getElem_cons_succ, List.setIfInBounds_toArray, List.set_cons_zero, List.set_cons_succ])
                refine wpAnyH_ready (rs := [5]) (by kernel_rfl) (by simp) ?_
                refine AllReadyH.cons rfl (fun KK hK => ?_) ?_
                · simp only [List.getElem_toArray, List.getElem_cons_zero, List.getElem_cons_succ]
                  go_simp
                  refine (HNone.out _ (HTab.out _ O1)).mono ?_
                  rintro e WOSAL ⟨rfl, fL, o1, s1⟩
                  obtain ⟨l, hl⟩ : ∃ l, WOSA.heap.size = l := ⟨_, rfl⟩
                  rw [hl] at fL s1
                  have gL : w1.heap.size ≤ l := by rw [← hl]; exact O1.size
                  have pOl : bO < l := by rw [← hl]; exact zO
                  have pSl : bS < l := by rw [← hl]; exact zS
                  have pAl : bA < l := by rw [← hl]; exact zA
                  have zL : l + 2 ≤ WOSAL.heap.size := by omega
                  replace fO := o1.heap fO (.inr (Nat.zero_le _))
                  replace zO := Nat.lt_of_lt_of_le zO o1.size
                  replace fS := o1.heap fS (.inr (Nat.zero_le _))
                  replace zS := Nat.lt_of_lt_of_le zS o1.size
                  replace fA := o1.heap fA (.inr (Nat.zero_le _))
                  replace zA := Nat.lt_of_lt_of_le zA o1.size
                  have O2 : Out 0 0 w1 WOSAL := O1.trans o1
                  (try rw [hl])
                  (try clear O1)
                  have O1 := O2
                  clear O2 o1 s1 hl
                  refine hK.out _ _ ?hS64 (fun hHeld2 => ?rest64)
                  case hS64 => trivial
                  clear hK KK
                  (try clear hHeld)
                  have hHeld := hHeld2
                  clear hHeld2
                  (try simp only [Act.put, List.getElem_toArray, List.getElem_cons_zero, List.getElem_cons_succ, List.setIfInBounds_toArray, List.set_cons_zero, List.set_cons_succ])
                  refine wpAnyH_take (i := 7) (v := ?v65) rfl (by kernel_rfl) (by kernel_rfl) (by kernel_rfl) (fun _ _ _ h => h) (Or.inl ⟨by rfl, ?hy65⟩) (by assumption) ?rest65
                  case hy65 => (intro w hSw; (try dsimp only at hSw); simp only [List.getElem_toArray, List.getElem_cons_zero, List.getElem_cons_succ]; go_simp; (try with_reducible rfl))
                  (try simp only [Act.put, List.getElem_toArray, List.getElem_cons_zero, List.getElem_cons_succ, List.setIfInBounds_toArray, List.set_cons_zero, List.set_cons_succ])
                  refine wpAnyH_ready (rs := [8]) (by kernel_rfl) (by simp) ?_
                  refine AllReadyH.cons rfl (fun KK hK => ?_) ?_
                  · simp only [List.getElem_toArray, List.getElem_cons_zero, List.getElem_cons_succ]
                    go_simp
                    obtain ⟨bs, hbs⟩ : ∃ b, WOSAL.heap.size = b := ⟨_, rfl⟩
                    obtain ⟨WOSALB, hW⟩ : ∃ W, WOSAL.alloc (.cells #[.slice (some ⟨bA, 0, none⟩) (64 * n) (64 * n), .pointer (some ⟨tb, 0, none⟩), .map (some bO), .pointer (some ⟨l + 1, 0, none⟩), .pointer none, .pointer none, .pointer none, .pointer none, .pointer none, .pointer none, .pointer none, .pointer none, .map (some bS), .int .i64 0] 85) = W := ⟨_, rfl⟩
                    have o1 : Out 0 0 WOSAL WOSALB := by rw [← hW]; exact (Out.refl 0 0 _).alloc _
                    have fB : WOSALB.heap[bs]? = some (.cells #[.slice (some ⟨bA, 0, none⟩) (64 * n) (64 * n), .pointer (some ⟨tb, 0, none⟩), .map (some bO), .pointer (some ⟨l + 1, 0, none⟩), .pointer none, .pointer none, .pointer none, .pointer none, .pointer none, .pointer none, .pointer none, .pointer none, .map (some bS), .int .i64 0] 85) := by rw [← hW, ← hbs]; exact heap_alloc_new _ _
                    have s1b : WOSALB.heap.size = bs + 1 := by rw [← hW, ← hbs]; exact World.size_alloc _ _
                    have zz : bA < bs ∧ bO < bs ∧ bS < bs ∧ l + 2 ≤ bs := by rw [← hbs]; exact ⟨zA, zO, zS, zL⟩
                    replace fO := o1.heap fO (.inr (Nat.zero_le _))
                    replace zO := Nat.lt_of_lt_of_le zO o1.size
                    replace fS := o1.heap fS (.inr (Nat.zero_le _))
                    replace zS := Nat.lt_of_lt_of_le zS o1.size
                    replace fA := o1.heap fA (.inr (Nat.zero_le _))
                    replace zA := Nat.lt_of_lt_of_le zA o1.size
                    replace fL := fL.quiet o1
                    replace zL := Nat.le_trans zL o1.size
                    have O2 := O1.trans o1
                    (try rw [hW])
                    (try rw [hbs])
                    refine hK.out _ _ ?hS66 (fun hHeld2 => ?rest66)
                    case hS66 => trivial
                    clear hK KK
                    (try clear hHeld)
                    have hHeld := hHeld2
                    clear hHeld2
                    (try simp only [Act.put, List.getElem_toArray, List.getElem_cons_zero, List.getElem_cons_succ, List.setIfInBounds_toArray, List.set_cons_zero, List.set_cons_succ])
                    refine wpAnyH_take (i := 9) (v := ?v67) rfl (by kernel_rfl) (by kernel_rfl) (by kernel_rfl) (fun _ _ _ h => h) (Or.inl ⟨by rfl, ?hy67⟩) (by assumption) ?rest67
                    case hy67 => (intro w hSw; (try dsimp only at hSw); simp only [List.getElem_toArray, List.getElem_cons_zero, List.getElem_cons_succ]; go_simp; (try with_reducible rfl))
                    (try simp only [Act.put, List.getElem_toArray, List.getElem_cons_zero, List.getElem_cons_succ, List.setIfInBounds_toArray, List.set_cons_zero, List.set_cons_succ])
                    refine wpAnyH_done (by kernel_rfl) ?_ _
                    have hap : (bA ≠ bO ∧ bA ≠ bS ∧ bO ≠ bS ∧ (bA < l ∨ l + 2 ≤ bA) ∧ (bO < l ∨ l + 2 ≤ bO) ∧ (bS < l ∨ l + 2 ≤ bS)) := by omega
                    exact ⟨bA, bO, l, bS, bs, rfl, O2, fA, fO, fS, fL, fB, by have := O2.size; omega, zz, hap⟩
                  · exact AllReadyH.nil
                · exact AllReadyH.nil
              · refine AllReadyH.cons rfl (fun KK hK => ?_) ?_
                · simp only [List.getElem_toArray, List.getElem_cons_zero, List.getElem_cons_succ]
                  go_simp
                  refine (HNone.out _ (HTab.out _ O1)).mono ?_
                  rintro e WOSL ⟨rfl, fL, o1, s1⟩
                  obtain ⟨l, hl⟩ : ∃ l, WOS.heap.size = l := ⟨_, rfl⟩
                  rw [hl] at fL s1
                  have gL : w1.heap.size ≤ l := by rw [← hl]; exact O1.size
                  have pOl : bO < l := by rw [← hl]; exact zO
                  have pSl : bS < l := by rw [← hl]; exact zS
                  have zL : l + 2 ≤ WOSL.heap.size := by omega
                  replace fO := o1.heap fO (.inr (Nat.zero_le _))
                  replace zO := Nat.lt_of_lt_of_le zO o1.size
                  replace fS := o1.heap fS (.inr (Nat.zero_le _))
                  replace zS := Nat.lt_of_lt_of_le zS o1.size
                  have O2 : Out 0 0 w1 WOSL := O1.trans o1
                  (try rw [hl])
                  (try clear O1)
                  have O1 := O2
                  clear O2 o1 s1 hl
                  refine hK.out _ _ ?hS68 (fun hHeld2 => ?rest68)
                  case hS68 => trivial
                  clear hK KK
                  (try clear hHeld)
                  have hHeld := hHeld2
                  clear hHeld2
                  (try simp only [Act.put, List.getElem_toArray, List.getElem_cons_zero, List.getElem_cons_succ, List.setIfInBounds_toArray, List.set_cons_zero, List.set_cons_succ])
                  refine wpAnyH_ready (rs := [1]) (by kernel_rfl) (by simp) ?_
                  refine AllReadyH.cons rfl (fun KK hK => ?_) ?_
                  · simp only [List.getElem_toArray, List.getElem_cons_zero, List.getElem_cons_succ]
                    go_simp
                    obtain ⟨bA, hbA⟩ : ∃ b, WOSL.heap.size = b := ⟨_, rfl⟩
                    have gBA : w1.heap.size ≤ bA := by rw [← hbA]; exact O1.size
                    have pObA : bO < bA := by rw [← hbA]; exact zO
                    have pSbA : bS < bA := by rw [← hbA]; exact zS
                    have pLbA : l + 2 ≤ bA := by rw [← hbA]; exact zL
                    obtain ⟨WOSLA, hW⟩ : ∃ W, WOSL.alloc (.cells (madeCells #[.int .i64 0] (64 * n)) 3) = W := ⟨_, rfl⟩
                    have o1 : Out 0 0 WOSL WOSLA := by rw [← hW]; exact (Out.refl 0 0 _).alloc _
                    have s1 : WOSLA.heap.size = bA + 1 := by rw [← hW, ← hbA]; exact World.size_alloc _ _
                    have fA : WOSLA.heap[bA]? = some (.cells (madeCells #[.int .i64 0] (64 * n)) 3) := by rw [← hW, ← hbA]; exact heap_alloc_new _ _
                    have zA : bA < WOSLA.heap.size := by omega
                    replace fO := o1.heap fO (.inr (Nat.zero_le _))
                    replace zO := Nat.lt_of_lt_of_le zO o1.size
                    replace fS := o1.heap fS (.inr (Nat.zero_le _))
                    replace zS := Nat.lt_of_lt_of_le zS o1.size
                    replace fL := fL.quiet o1
                    replace zL := Nat.le_trans zL o1.size
                    have O2 : Out 0 0 w1 WOSLA := O1.trans o1
                    (try rw [hW])
                    (try rw [hbA])
                    (try clear O1)
                    have O1 := O2
                    clear O2 hW o1 s1 hbA
                    refine hK.out _ _ ?hS69 (fun hHeld2 => ?rest69)
                    case hS69 => trivial
                    clear hK KK
                    (try clear hHeld)
                    have hHeld := hHeld2
                    clear hHeld2
                    (try simp only [Act.put, List.getElem_toArray, List.getElem_cons_zero, List.getElem_cons_succ, List.setIfInBounds_toArray, List.set_cons_zero, List.set_cons_succ])
                    refine wpAnyH_take (i := 7) (v := ?v70) rfl (by kernel_rfl) (by kernel_rfl) (by kernel_rfl) (fun _ _ _ h => h) (Or.inl ⟨by rfl, ?hy70⟩) (by assumption) ?rest70
                    case hy70 => (intro w hSw; (try dsimp only at hSw); simp only [List.getElem_toArray, List.getElem_cons_zero, List.getElem_cons_succ]; go_simp; (try with_reducible rfl))
                    (try simp only [Act.put, List.getElem_toArray, List.getElem_cons_zero, List.getElem_cons_succ, List.setIfInBounds_toArray, List.set_cons_zero, List.set_cons_succ])
                    refine wpAnyH_ready (rs := [8]) (by kernel_rfl) (by simp) ?_
                    refine AllReadyH.cons rfl (fun KK hK => ?_) ?_
                    · simp only [List.getElem_toArray, List.getElem_cons_zero, List.getElem_cons_succ]
                      go_simp
                      obtain ⟨bs, hbs⟩ : ∃ b, WOSLA.heap.size = b := ⟨_, rfl⟩
                      obtain ⟨WOSLAB, hW⟩ : ∃ W, WOSLA.alloc (.cells #[.slice (some ⟨bA, 0, none⟩) (64 * n) (64 * n), .pointer (some ⟨tb, 0, none⟩), .map (some bO), .pointer (some ⟨l + 1, 0, none⟩), .pointer none, .pointer none, .pointer none, .pointer none, .pointer none, .pointer none, .pointer none, .pointer none, .map (some bS), .int .i64 0] 85) = W := ⟨_, rfl⟩
                      have o1 : Out 0 0 WOSLA WOSLAB := by rw [← hW]; exact (Out.refl 0 0 _).alloc _
                      have fB : WOSLAB.heap[bs]? = some (.cells #[.slice (some ⟨bA, 0, none⟩) (64 * n) (64 * n), .pointer (some ⟨tb, 0, none⟩), .map (some bO), .pointer (some ⟨l + 1, 0, none⟩), .pointer none, .pointer none, .pointer none, .pointer none, .pointer none, .pointer none, .pointer none, .pointer none, .map (some bS), .int .i64 0] 85) := by rw [← hW, ← hbs]; exact heap_alloc_new _ _
                      have s1b : WOSLAB.heap.size = bs + 1 := by rw [← hW, ← hbs]; exact World.size_alloc _ _
                      have zz : bA < bs ∧ bO < bs ∧ bS < bs ∧ l + 2 ≤ bs := by rw [← hbs]; exact ⟨zA, zO, zS, zL⟩
                      replace fO := o1.heap fO (.inr (Nat.zero_le _))
                      replace zO := Nat.lt_of_lt_of_le zO o1.size
                      replace fS := o1.heap fS (.inr (Nat.zero_le _))
                      replace zS := Nat.lt_of_lt_of_le zS o1.size
                      replace fL := fL.quiet o1
                      replace zL := Nat.le_trans zL o1.size
                      replace fA := o1.heap fA (.inr (Nat.zero_le _))
                      replace zA := Nat.lt_of_lt_of_le zA o1.size
                      have O2 := O1.trans o1
                      (try rw [hW])
                      (try rw [hbs])
                      refine hK.out _ _ ?hS71 (fun hHeld2 => ?rest71)
                      case hS71 => trivial
                      clear hK KK
                      (try clear hHeld)
                      have hHeld := hHeld2
                      clear hHeld2
                      (try simp only [Act.put, List.getElem_toArray, List.getElem_cons_zero, List.getElem_cons_succ, List.setIfInBounds_toArray, List.set_cons_zero, List.set_cons_succ])
                      refine wpAnyH_take (i := 9) (v := ?v72) rfl (by kernel_rfl) (by kernel_rfl) (by kernel_rfl) (fun _ _ _ h => h) (Or.inl ⟨by rfl, ?hy72⟩) (by assumption) ?rest72
                      case hy72 => (intro w hSw; (try dsimp only at hSw); simp only [List.getElem_toArray, List.getElem_cons_zero, List.getElem_cons_succ]; go_simp; (try with_reducible rfl))
                      (try simp only [Act.put, List.getElem_toArray, List.getElem_cons_zero, List.getElem_cons_succ, List.setIfInBounds_toArray, List.set_cons_zero, List.set_cons_succ])
                      refine wpAnyH_done (by kernel_rfl) ?_ _
                      have hap : (bA ≠ bO ∧ bA ≠ bS ∧ bO ≠ bS ∧ (bA < l ∨ l + 2 ≤ bA) ∧ (bO < l ∨ l + 2 ≤ bO) ∧ (bS < l ∨ l + 2 ≤ bS)) := by omega
                      exact ⟨bA, bO, l, bS, bs, rfl, O2, fA, fO, fS, fL, fB, by have := O2.size; omega, zz, hap⟩
                    · exact AllReadyH.nil
                  · exact AllReadyH.nil
                · exact AllReadyH.nil
            · exact AllReadyH.nil
      · refine AllReadyH.cons rfl (fun KK hK => ?_) ?_
        · simp only [List.getElem_toArray, List.getElem_cons_zero, List.getElem_cons_succ]
          go_simp
          refine (HNone.out _ (HTab.out _ OZ)).mono ?_
          rintro e WL ⟨rfl, fL, o1, s1⟩
          obtain ⟨l, hl⟩ : ∃ l, Z.heap.size = l := ⟨_, rfl⟩
          rw [hl] at fL s1
          have gL : w1.heap.size ≤ l := by rw [← hl]; exact OZ.size
          have zL : l + 2 ≤ WL.heap.size := by omega
          have O2 : Out 0 0 w1 WL := OZ.trans o1
          (try rw [hl])
          (try clear O1)
          have O1 := O2
          clear O2 o1 s1 hl
          refine hK.out _ _ ?hS73 (fun hHeld2 => ?rest73)
          case hS73 => trivial
          clear hK KK
          (try clear hHeld)
          have hHeld := hHeld2
          clear hHeld2
          (try simp only [Act.put, List.getElem_toArray, List.getElem_cons_zero, List.getElem_cons_succ, List.setIfInBounds_toArray, List.set_cons_zero, List.set_cons_succ])
          refine wpAnyH_ready (rs := [1, 3, 6]) (by kernel_rfl) (by simp) ?_
          refine AllReadyH.cons rfl (fun KK hK => ?_) ?_
          · simp only [List.getElem_toArray, List.getElem_cons_zero, List.getElem_cons_succ]
            go_simp
            obtain ⟨bA, hbA⟩ : ∃ b, WL.heap.size = b := ⟨_, rfl⟩
            have gBA : w1.heap.size ≤ bA := by rw [← hbA]; exact O1.size
            have pLbA : l + 2 ≤ bA := by rw [← hbA]; exact zL
            obtain ⟨WLA, hW⟩ : ∃ W, WL.alloc (.cells (madeCells #[.int .i64 0] (64 * n)) 3) = W := ⟨_, rfl⟩
            have o1 : Out 0 0 WL WLA := by rw [← hW]; exact (Out.refl 0 0 _).alloc _
            have s1 : WLA.heap.size = bA + 1 := by rw [← hW, ← hbA]; exact World.size_alloc _ _
            have fA : WLA.heap[bA]? = some (.cells (madeCells #[.int .i64 0] (64 * n)) 3) := by rw [← hW, ← hbA]; exact heap_alloc_new _ _
            have zA : bA < WLA.heap.size := by omega
            replace fL := fL.quiet o1
            replace zL := Nat.le_trans zL o1.size
            have O2 : Out 0 0 w1 WLA := O1.trans o1
            (try rw [hW])
            (try rw [hbA])
            (try clear O1)
            have O1 := O2
            clear O2 hW o1 s1 hbA
            refine hK.out _ _ ?hS74 (fun hHeld2 => ?rest74)
            case hS74 => trivial
            clear hK KK
            (try clear hHeld)
            have hHeld := hHeld2
            clear hHeld2
            (try simp only [Act.put, List.getElem_toArray, List.getElem_cons_zero, List.getElem_cons_succ, List.setIfInBounds_toArray, List.set_cons_zero, List.set_cons_succ])
            refine wpAnyH_ready (rs := [3, 6]) (by kernel_rfl) (by simp) ?_
            refine AllReadyH.cons rfl (fun KK hK => ?_) ?_
            · simp only [List.getElem_toArray, List.getElem_cons_zero, List.getElem_cons_succ]
              go_simp
              obtain ⟨bO, hbO⟩ : ∃ b, WLA.heap.size = b := ⟨_, rfl⟩
              have gBO : w1.heap.size ≤ bO := by rw [← hbO]; exact O1.size
              have pLbO : l + 2 ≤ bO := by rw [← hbO]; exact zL
              have pAbO : bA < bO := by rw [← hbO]; exact zA
              obtain ⟨WLAO, hW⟩ : ∃ W, WLA.alloc (.map #[] 0) = W := ⟨_, rfl⟩
              have o1 : Out 0 0 WLA WLAO := by rw [← hW]; exact (Out.refl 0 0 _).alloc _
              have s1 : WLAO.heap.size = bO + 1 := by rw [← hW, ← hbO]; exact World.size_alloc _ _
              have fO : WLAO.heap[bO]? = some (.map #[] 0) := by rw [← hW, ← hbO]; exact heap_alloc_new _ _
              have zO : bO < WLAO.heap.size := by omega
              replace fL := fL.quiet o1
              replace zL := Nat.le_trans zL o1.size
              replace fA := o1.heap fA (.inr (Nat.zero_le _))
              replace zA := Nat.lt_of_lt_of_le zA o1.size
              have O2 : Out 0 0 w1 WLAO := O1.trans o1
              (try rw [hW])
              (try rw [hbO])
              (try clear O1)
              have O1 := O2
              clear O2 hW o1 s1 hbO
              refine hK.out _ _ ?hS75 (fun hHeld2 => ?rest75)
              case hS75 => trivial
              clear hK KK
              (try clear hHeld)
              have hHeld := hHeld2
              clear hHeld2
              (try simp only [Act.put, List.getElem_toArray, List.getElem_cons_zero, List.getElem_cons_succ, List.setIfInBounds_toArray, List.set_cons_zero, List.set_cons_succ])
              refine wpAnyH_ready (rs := [6]) (by kernel_rfl) (by simp) ?_
              refine AllReadyH.cons rfl (fun KK hK => ?_) ?_
              · simp only [List.getElem_toArray, List.getElem_cons_zero, List.getElem_cons_succ]
                go_simp
                obtain ⟨bS, hbS⟩ : ∃ b, WLAO.heap.size = b := ⟨_, rfl⟩
                have gBS : w1.heap.size ≤ bS := by rw [← hbS]; exact O1.size
                have pLbS : l + 2 ≤ bS := by rw [← hbS]; exact zL
                have pAbS : bA < bS := by rw [← hbS]; exact zA
                have pObS : bO < bS := by rw [← hbS]; exact zO
                obtain ⟨WLAOS, hW⟩ : ∃ W, WLAO.alloc (.map #[] 0) = W := ⟨_, rfl⟩
                have o1 : Out 0 0 WLAO WLAOS := by rw [← hW]; exact (Out.refl 0 0 _).alloc _
                have s1 : WLAOS.heap.size = bS + 1 := by rw [← hW, ← hbS]; exact World.size_alloc _ _
                have fS : WLAOS.heap[bS]? = some (.map #[] 0) := by rw [← hW, ← hbS]; exact heap_alloc_new _ _
                have zS : bS < WLAOS.heap.size := by omega
                replace fL := fL.quiet o1
                replace zL := Nat.le_trans zL o1.size
                replace fA := o1.heap fA (.inr (Nat.zero_le _))
                replace zA := Nat.lt_of_lt_of_le zA o1.size
                replace fO := o1.heap fO (.inr (Nat.zero_le _))
                replace zO := Nat.lt_of_lt_of_le zO o1.size
                have O2 : Out 0 0 w1 WLAOS := O1.trans o1
                (try rw [hW])
                (try rw [hbS])
                (try clear O1)
                have O1 := O2
                clear O2 hW o1 s1 hbS
                refine hK.out _ _ ?hS76 (fun hHeld2 => ?rest76)
                case hS76 => trivial
                clear hK KK
                (try clear hHeld)
                have hHeld := hHeld2
                clear hHeld2
                (try simp only [Act.put, List.getElem_toArray, List.getElem_cons_zero, List.getElem_cons_succ, List.setIfInBounds_toArray, List.set_cons_zero, List.set_cons_succ])
                refine wpAnyH_take (i := 7) (v := ?v77) rfl (by kernel_rfl) (by kernel_rfl) (by kernel_rfl) (fun _ _ _ h => h) (Or.inl ⟨by rfl, ?hy77⟩) (by assumption) ?rest77
                case hy77 => (intro w hSw; (try dsimp only at hSw); simp only [List.getElem_toArray, List.getElem_cons_zero, List.getElem_cons_succ]; go_simp; (try with_reducible rfl))
                (try simp only [Act.put, List.getElem_toArray, List.getElem_cons_zero, List.getElem_cons_succ, List.setIfInBounds_toArray, List.set_cons_zero, List.set_cons_succ])
                refine wpAnyH_ready (rs := [8]) (by kernel_rfl) (by simp) ?_
                refine AllReadyH.cons rfl (fun KK hK => ?_) ?_
                · simp only [List.getElem_toArray, List.getElem_cons_zero, List.getElem_cons_succ]
                  go_simp
                  obtain ⟨bs, hbs⟩ : ∃ b, WLAOS.heap.size = b := ⟨_, rfl⟩
                  obtain ⟨WLAOSB, hW⟩ : ∃ W, WLAOS.alloc (.cells #[.slice (some ⟨bA, 0, none⟩) (64 * n) (64 * n), .pointer (some ⟨tb, 0, none⟩), .map (some bO), .pointer (some ⟨l + 1, 0, none⟩), .pointer none, .pointer none, .pointer none, .pointer none, .pointer none, .pointer none, .pointer none, .pointer none, .map (some bS), .int .i64 0] 85) = W := ⟨_, rfl⟩
                  have o1 : Out 0 0 WLAOS WLAOSB := by rw [← hW]; exact (Out.refl 0 0 _).alloc _
                  have fB : WLAOSB.heap[bs]? = some (.cells #[.slice (some ⟨bA, 0, none⟩) (64 * n) (64 * n), .pointer (some ⟨tb, 0, none⟩), .map (some bO), .pointer (some ⟨l + 1, 0, none⟩), .pointer none, .pointer none, .pointer none, .pointer none, .pointer none, .pointer none, .pointer none, .pointer none, .map (some bS), .int .i64 0] 85) := by rw [← hW, ← hbs]; exact heap_alloc_new _ _
                  have s1b : WLAOSB.heap.size = bs + 1 := by rw [← hW, ← hbs]; exact World.size_alloc _ _
                  have zz : bA < bs ∧ bO < bs ∧ bS < bs ∧ l + 2 ≤ bs := by rw [← hbs]; exact ⟨zA, zO, zS, zL⟩
                  replace fL := fL.quiet o1
                  replace zL := Nat.le_trans zL o1.size
                  replace fA := o1.heap fA (.inr (Nat.zero_le _))
                  replace zA := Nat.lt_of_lt_of_le zA o1.size
                  replace fO := o1.heap fO (.inr (Nat.zero_le _))
                  replace zO := Nat.lt_of_lt_of_le zO o1.size
                  replace fS := o1.heap fS (.inr (Nat.zero_le _))
                  replace zS := Nat.lt_of_lt_of_le zS o1.size
                  have O2 := O1.trans o1
                  (try rw [hW])
                  (try rw [hbs])
                  refine hK.out _ _ ?hS78 (fun hHeld2 => ?rest78)
                  case hS78 => trivial
                  clear hK KK
                  (try clear hHeld)
                  have hHeld := hHeld2
                  clear hHeld2
                  (try simp only [Act.put, List.getElem_toArray, List.getElem_cons_zero, List.getElem_cons_succ, List.setIfInBounds_toArray, List.set_cons_zero, List.set_cons_succ])
                  refine wpAnyH_take (i := 9) (v := ?v79) rfl (by kernel_rfl) (by kernel_rfl) (by kernel_rfl) (fun _ _ _ h => h) (Or.inl ⟨by rfl, ?hy79⟩) (by assumption) ?rest79
                  case hy79 => (intro w hSw; (try dsimp only at hSw); simp only [List.getElem_toArray, List.getElem_cons_zero, List.getElem_cons_succ]; go_simp; (try with_reducible rfl))
                  (try simp only [Act.put, List.getElem_toArray, List.getElem_cons_zero, List.getElem_cons_succ, List.setIfInBounds_toArray, List.set_cons_zero, List.set_cons_succ])
                  refine wpAnyH_done (by kernel_rfl) ?_ _
                  have hap : (bA ≠ bO ∧ bA ≠ bS ∧ bO ≠ bS ∧ (bA < l ∨ l + 2 ≤ bA) ∧ (bO < l ∨ l + 2 ≤ bO) ∧ (bS < l ∨ l + 2 ≤ bS)) := by omega
                  exact ⟨bA, bO, l, bS, bs, rfl, O2, fA, fO, fS, fL, fB, by have := O2.size; omega, zz, hap⟩
                · exact AllReadyH.nil
              · exact AllReadyH.nil
            · refine AllReadyH.cons rfl (fun KK hK => ?_) ?_
              · simp only [List.getElem_toArray, List.getElem_cons_zero, List.getElem_cons_succ]
                go_simp
                obtain ⟨bS, hbS⟩ : ∃ b, WLA.heap.size = b := ⟨_, rfl⟩
                have gBS : w1.heap.size ≤ bS := by rw [← hbS]; exact O1.size
                have pLbS : l + 2 ≤ bS := by rw [← hbS]; exact zL
                have pAbS : bA < bS := by rw [← hbS]; exact zA
                obtain ⟨WLAS, hW⟩ : ∃ W, WLA.alloc (.map #[] 0) = W := ⟨_, rfl⟩
                have o1 : Out 0 0 WLA WLAS := by rw [← hW]; exact (Out.refl 0 0 _).alloc _
                have s1 : WLAS.heap.size = bS + 1 := by rw [← hW, ← hbS]; exact World.size_alloc _ _
                have fS : WLAS.heap[bS]? = some (.map #[] 0) := by rw [← hW, ← hbS]; exact heap_alloc_new _ _
                have zS : bS < WLAS.heap.size := by omega
                replace fL := fL.quiet o1
                replace zL := Nat.le_trans zL o1.size
                replace fA := o1.heap fA (.inr (Nat.zero_le _))
                replace zA := Nat.lt_of_lt_of_le zA o1.size
                have O2 : Out 0 0 w1 WLAS := O1.trans o1
                (try rw [hW])
                (try rw [hbS])
                (try clear O1)
                have O1 := O2
                clear O2 hW o1 s1 hbS
                refine hK.out _ _ ?hS80 (fun hHeld2 => ?rest80)
                case hS80 => trivial
                clear hK KK
                (try clear hHeld)
                have hHeld := hHeld2
                clear hHeld2
                (try simp only [Act.put, List.getElem_toArray, List.getElem_cons_zero, List.getElem_cons_succ, List.setIfInBounds_toArray, List.set_cons_zero, List.set_cons_succ])
                refine wpAnyH_ready (rs := [3]) (by kernel_rfl) (by simp) ?_
                refine AllReadyH.cons rfl (fun KK hK => ?_) ?_
                · simp only [List.getElem_toArray, List.getElem_cons_zero, List.getElem_cons_succ]
                  go_simp
                  obtain ⟨bO, hbO⟩ : ∃ b, WLAS.heap.size = b := ⟨_, rfl⟩
                  have gBO : w1.heap.size ≤ bO := by rw [← hbO]; exact O1.size
                  have pLbO : l + 2 ≤ bO := by rw [← hbO]; exact zL
                  have pAbO : bA < bO := by rw [← hbO]; exact zA
                  have pSbO : bS < bO := by rw [← hbO]; exact zS
                  obtain ⟨WLASO, hW⟩ : ∃ W, WLAS.alloc (.map #[] 0) = W := ⟨_, rfl⟩
                  have o1 : Out 0 0 WLAS WLASO := by rw [← hW]; exact (Out.refl 0 0 _).alloc _
                  have s1 : WLASO.heap.size = bO + 1 := by rw [← hW, ← hbO]; exact World.size_alloc _ _
                  have fO : WLASO.heap[bO]? = some (.map #[] 0) := by rw [← hW, ← hbO]; exact heap_alloc_new _ _
                  have zO : bO < WLASO.heap.size := by omega
                  replace fL := fL.quiet o1
                  replace zL := Nat.le_trans zL o1.size
                  replace fA := o1.heap fA (.inr (Nat.zero_le _))
                  replace zA := Nat.lt_of_lt_of_le zA o1.size
                  replace fS := o1.heap fS (.inr (Nat.zero_le _))
                  replace zS := Nat.lt_of_lt_of_le zS o1.size
                  have O2 : Out 0 0 w1 WLASO := O1.trans o1
                  (try rw [hW])
                  (try rw [hbO])
                  (try clear O1)
                  have O1 := O2
                  clear O2 hW o1 s1 hbO
                  refine hK.out _ _ ?hS81 (fun hHeld2 => ?rest81)
                  case hS81 => trivial
                  clear hK KK
                  (try clear hHeld)
                  have hHeld := hHeld2
                  clear hHeld2
                  (try simp only [Act.put, List.getElem_toArray, List.getElem_cons_zero, List.getElem_cons_succ, List.setIfInBounds_toArray, List.set_cons_zero, List.set_cons_succ])
                  refine wpAnyH_take (i := 7) (v := ?v82) rfl (by kernel_rfl) (by kernel_rfl) (by kernel_rfl) (fun _ _ _ h => h) (Or.inl ⟨by rfl, ?hy82⟩) (by assumption) ?rest82
                  case hy82 => (intro w hSw; (try dsimp only at hSw); simp only [List.getElem_toArray, List.getElem_cons_zero, List.getElem_cons_succ]; go_simp; (try with_reducible rfl))
                  (try simp only [Act.put, List.getElem_toArray, List.getElem_cons_zero, List.getElem_cons_succ, List.setIfInBounds_toArray, List.set_cons_zero, List.set_cons_succ])
                  refine wpAnyH_ready (rs := [8]) (by kernel_rfl) (by simp) ?_
                  refine AllReadyH.cons rfl (fun KK hK => ?_) ?_
                  · simp only [List.getElem_toArray, List.getElem_cons_zero, List.getElem_cons_succ]
                    go_simp
                    obtain ⟨bs, hbs⟩ : ∃ b, WLASO.heap.size = b := ⟨_, rfl⟩
                    obtain ⟨WLASOB, hW⟩ : ∃ W, WLASO.alloc (.cells #[.slice (some ⟨bA, 0, none⟩) (64 * n) (64 * n), .pointer (some ⟨tb, 0, none⟩), .map (some bO), .pointer (some ⟨l + 1, 0, none⟩), .pointer none, .pointer none, .pointer none, .pointer none, .pointer none, .pointer none, .pointer none, .pointer none, .map (some bS), .int .i64 0] 85) = W := ⟨_, rfl⟩
                    have o1 : Out 0 0 WLASO WLASOB := by rw [← hW]; exact (Out.refl 0 0 _).alloc _
                    have fB : WLASOB.heap[bs]? = some (.cells #[.slice (some ⟨bA, 0, none⟩) (64 * n) (64 * n), .pointer (some ⟨tb, 0, none⟩), .map (some bO), .pointer (some ⟨l + 1, 0, none⟩), .pointer none, .pointer none, .pointer none, .pointer none, .pointer none, .pointer none, .pointer none, .pointer none, .map (some bS), .int .i64 0] 85) := by rw [← hW, ← hbs]; exact heap_alloc_new _ _
                    have s1b : WLASOB.heap.size = bs + 1 := by rw [← hW, ← hbs]; exact World.size_alloc _ _
                    have zz : bA < bs ∧ bO < bs ∧ bS < bs ∧ l + 2 ≤ bs := by rw [← hbs]; exact ⟨zA, zO, zS, zL⟩
                    replace fL := fL.quiet o1
                    replace zL := Nat.le_trans zL o1.size
                    replace fA := o1.heap fA (.inr (Nat.zero_le _))
                    replace zA := Nat.lt_of_lt_of_le zA o1.size
                    replace fS := o1.heap fS (.inr (Nat.zero_le _))
                    replace zS := Nat.lt_of_lt_of_le zS o1.size
                    replace fO := o1.heap fO (.inr (Nat.zero_le _))
                    replace zO := Nat.lt_of_lt_of_le zO o1.size
                    have O2 := O1.trans o1
                    (try rw [hW])
                    (try rw [hbs])
                    refine hK.out _ _ ?hS83 (fun hHeld2 => ?rest83)
                    case hS83 => trivial
                    clear hK KK
                    (try clear hHeld)
                    have hHeld := hHeld2
                    clear hHeld2
                    (try simp only [Act.put, List.getElem_toArray, List.getElem_cons_zero, List.getElem_cons_succ, List.setIfInBounds_toArray, List.set_cons_zero, List.set_cons_succ])
                    refine wpAnyH_take (i := 9) (v := ?v84) rfl (by kernel_rfl) (by kernel_rfl) (by kernel_rfl) (fun _ _ _ h => h) (Or.inl ⟨by rfl, ?hy84⟩) (by assumption) ?rest84
                    case hy84 => (intro w hSw; (try dsimp only at hSw); simp only [List.getElem_toArray, List.getElem_cons_zero, List.getElem_cons_succ]; go_simp; (try with_reducible rfl))
                    (try simp only [Act.put, List.getElem_toArray, List.getElem_cons_zero, List.getElem_cons_succ, List.setIfInBounds_toArray, List.set_cons_zero, List.set_cons_succ])
                    refine wpAnyH_done (by kernel_rfl) ?_ _
                    have hap : (bA ≠ bO ∧ bA ≠ bS ∧ bO ≠ bS ∧ (bA < l ∨ l + 2 ≤ bA) ∧ (bO < l ∨ l + 2 ≤ bO) ∧ (bS < l ∨ l + 2 ≤ bS)) := by omega
                    exact ⟨bA, bO, l, bS, bs, rfl, O2, fA, fO, fS, fL, fB, by have := O2.size; omega, zz, hap⟩
                  · exact AllReadyH.nil
                · exact AllReadyH.nil
              · exact AllReadyH.nil
          · refine AllReadyH.cons rfl (fun KK hK => ?_) ?_
            · simp only [List.getElem_toArray, List.getElem_cons_zero, List.getElem_cons_succ]
              go_simp
              obtain ⟨bO, hbO⟩ : ∃ b, WL.heap.size = b := ⟨_, rfl⟩
              have gBO : w1.heap.size ≤ bO := by rw [← hbO]; exact O1.size
              have pLbO : l + 2 ≤ bO := by rw [← hbO]; exact zL
              obtain ⟨WLO, hW⟩ : ∃ W, WL.alloc (.map #[] 0) = W := ⟨_, rfl⟩
              have o1 : Out 0 0 WL WLO := by rw [← hW]; exact (Out.refl 0 0 _).alloc _
              have s1 : WLO.heap.size = bO + 1 := by rw [← hW, ← hbO]; exact World.size_alloc _ _
              have fO : WLO.heap[bO]? = some (.map #[] 0) := by rw [← hW, ← hbO]; exact heap_alloc_new _ _
              have zO : bO < WLO.heap.size := by omega
              replace fL := fL.quiet o1
              replace zL := Nat.le_trans zL o1.size
              have O2 : Out 0 0 w1 WLO := O1.trans o1
              (try rw [hW])
              (try rw [hbO])
              (try clear O1)
              have O1 := O2
              clear O2 hW o1 s1 hbO
              refine hK.out _ _ ?hS85 (fun hHeld2 => ?rest85)
              case hS85 => trivial
              clear hK KK
              (try clear hHeld)
              have hHeld := hHeld2
              clear hHeld2
              (try simp only [Act.put, List.getElem_toArray, List.getElem_cons_zero, List.getElem_cons_succ, List.setIfInBounds_toArray, List.set_cons_zero, List.set_cons_succ])
              refine wpAnyH_ready (rs := [1, 6]) (by kernel_rfl) (by simp) ?_
              refine AllReadyH.cons rfl (fun KK hK => ?_) ?_
              · simp only [List.getElem_toArray, List.getElem_cons_zero, List.getElem_cons_succ]
                go_simp
                obtain ⟨bA, hbA⟩ : ∃ b, WLO.heap.size = b := ⟨_, rfl⟩
                have gBA : w1.heap.size ≤ bA := by rw [← hbA]; exact O1.size
                have pLbA : l + 2 ≤ bA := by rw [← hbA]; exact zL
                have pObA : bO < bA := by rw [← hbA]; exact zO
                obtain ⟨WLOA, hW⟩ : ∃ W, WLO.alloc (.cells (madeCells #[.int .i64 0] (64 * n)) 3) = W := ⟨_, rfl⟩
                have o1 : Out 0 0 WLO WLOA := by rw [← hW]; exact (Out.refl 0 0 _).alloc _
                have s1 : WLOA.heap.size = bA + 1 := by rw [← hW, ← hbA]; exact World.size_alloc _ _
                have fA : WLOA.heap[bA]? = some (.cells (madeCells #[.int .i64 0] (64 * n)) 3) := by rw [← hW, ← hbA]; exact heap_alloc_new _ _
                have zA : bA < WLOA.heap.size := by omega
                replace fL := fL.quiet o1
                replace zL := Nat.le_trans zL o1.size
                replace fO := o1.heap fO (.inr (Nat.zero_le _))
                replace zO := Nat.lt_of_lt_of_le zO o1.size
                have O2 : Out 0 0 w1 WLOA := O1.trans o1
                (try rw [hW])
                (try rw [hbA])
                (try clear O1)
                have O1 := O2
                clear O2 hW o1 s1 hbA
                refine hK.out _ _ ?hS86 (fun hHeld2 => ?rest86)
                case hS86 => trivial
                clear hK KK
                (try clear hHeld)
                have hHeld := hHeld2
                clear hHeld2
                (try simp only [Act.put, List.getElem_toArray, List.getElem_cons_zero, List.getElem_cons_succ, List.setIfInBounds_toArray, List.set_cons_zero, List.set_cons_succ])
                refine wpAnyH_ready (rs := [6]) (by kernel_rfl) (by simp) ?_
                refine AllReadyH.cons rfl (fun KK hK => ?_) ?_
                · simp only [List.getElem_toArray, List.getElem_cons_zero, List.getElem_cons_succ]
                  go_simp
                  obtain ⟨bS, hbS⟩ : ∃ b, WLOA.heap.size = b := ⟨_, rfl⟩
                  have gBS : w1.heap.size ≤ bS := by rw [← hbS]; exact O1.size
                  have pLbS : l + 2 ≤ bS := by rw [← hbS]; exact zL
                  have pObS : bO < bS := by rw [← hbS]; exact zO
                  have pAbS : bA < bS := by rw [← hbS]; exact zA
                  obtain ⟨WLOAS, hW⟩ : ∃ W, WLOA.alloc (.map #[] 0) = W := ⟨_, rfl⟩
                  have o1 : Out 0 0 WLOA WLOAS := by rw [← hW]; exact (Out.refl 0 0 _).alloc _
                  have s1 : WLOAS.heap.size = bS + 1 := by rw [← hW, ← hbS]; exact World.size_alloc _ _
                  have fS : WLOAS.heap[bS]? = some (.map #[] 0) := by rw [← hW, ← hbS]; exact heap_alloc_new _ _
                  have zS : bS < WLOAS.heap.size := by omega
                  replace fL := fL.quiet o1
                  replace zL := Nat.le_trans zL o1.size
                  replace fO := o1.heap fO (.inr (Nat.zero_le _))
                  replace zO := Nat.lt_of_lt_of_le zO o1.size
                  replace fA := o1.heap fA (.inr (Nat.zero_le _))
                  replace zA := Nat.lt_of_lt_of_le zA o1.size
                  have O2 : Out 0 0 w1 WLOAS := O1.trans o1
                  (try rw [hW])
                  (try rw [hbS])
                  (try clear O1)
                  have O1 := O2
                  clear O2 hW o1 s1 hbS
                  refine hK.out _ _ ?hS87 (fun hHeld2 => ?rest87)
                  case hS87 => trivial
                  clear hK KK
                  (try clear hHeld)
                  have hHeld := hHeld2
                  clear hHeld2
                  (try simp only [Act.put, List.getElem_toArray, List.getElem_cons_zero, List.getElem_cons_succ, List.setIfInBounds_toArray, List.set_cons_zero, List.set_cons_succ])
                  refine wpAnyH_take (i := 7) (v := ?v88) rfl (by kernel_rfl) (by kernel_rfl) (by kernel_rfl) (fun _ _ _ h => h) (Or.inl ⟨by rfl, ?hy88⟩) (by assumption) ?rest88
                  case hy88 => (intro w hSw; (try dsimp only at hSw); simp only [List.getElem_toArray, List.getElem_cons_zero, List.getElem_cons_succ]; go_simp; (try with_reducible rfl))
                  (try simp only [Act.put, List.getElem_toArray, List.getElem_cons_zero, List.getElem_cons_succ, List.setIfInBounds_toArray, List.set_cons_zero, List.set_cons_succ])
                  refine wpAnyH_ready (rs := [8]) (by kernel_rfl) (by simp) ?_
                  refine AllReadyH.cons rfl (fun KK hK => ?_) ?_
                  · simp only [List.getElem_toArray, List.getElem_cons_zero, List.getElem_cons_succ]
                    go_simp
                    obtain ⟨bs, hbs⟩ : ∃ b, WLOAS.heap.size = b := ⟨_, rfl⟩
                    obtain ⟨WLOASB, hW⟩ : ∃ W, WLOAS.alloc (.cells #[.slice (some ⟨bA, 0, none⟩) (64 * n) (64 * n), .pointer (some ⟨tb, 0, none⟩), .map (some bO), .pointer (some ⟨l + 1, 0, none⟩), .pointer none, .pointer none, .pointer none, .pointer none, .pointer none, .pointer none, .pointer none, .pointer none, .map (some bS), .int .i64 0] 85) = W := ⟨_, rfl⟩
                    have o1 : Out 0 0 WLOAS WLOASB := by rw [← hW]; exact (Out.refl 0 0 _).alloc _
                    have fB : WLOASB.heap[bs]? = some (.cells #[.slice (some ⟨bA, 0, none⟩) (64 * n) (64 * n), .pointer (some ⟨tb, 0, none⟩), .map (some bO), .pointer (some ⟨l + 1, 0, none⟩), .pointer none, .pointer none, .pointer none, .pointer none, .pointer none, .pointer none, .pointer none, .pointer none, .map (some bS), .int .i64 0] 85) := by rw [← hW, ← hbs]; exact heap_alloc_new _ _
                    have s1b : WLOASB.heap.size = bs + 1 := by rw [← hW, ← hbs]; exact World.size_alloc _ _
                    have zz : bA < bs ∧ bO < bs ∧ bS < bs ∧ l + 2 ≤ bs := by rw [← hbs]; exact ⟨zA, zO, zS, zL⟩
                    replace fL := fL.quiet o1
                    replace zL := Nat.le_trans zL o1.size
                    replace fO := o1.heap fO (.inr (Nat.zero_le _))
                    replace zO := Nat.lt_of_lt_of_le zO o1.size
                    replace fA := o1.heap fA (.inr (Nat.zero_le _))
                    replace zA := Nat.lt_of_lt_of_le zA o1.size
                    replace fS := o1.heap fS (.inr (Nat.zero_le _))
                    replace zS := Nat.lt_of_lt_of_le zS o1.size
                    have O2 := O1.trans o1
                    (try rw [hW])
                    (try rw [hbs])
                    refine hK.out _ _ ?hS89 (fun hHeld2 => ?rest89)
                    case hS89 => trivial
                    clear hK KK
                    (try clear hHeld)
                    have hHeld := hHeld2
                    clear hHeld2
                    (try simp only [Act.put, List.getElem_toArray, List.getElem_cons_zero, List.getElem_cons_succ, List.setIfInBounds_toArray, List.set_cons_zero, List.set_cons_succ])
                    refine wpAnyH_take (i := 9) (v := ?v90) rfl (by kernel_rfl) (by kernel_rfl) (by kernel_rfl) (fun _ _ _ h => h) (Or.inl ⟨by rfl, ?hy90⟩) (by assumption) ?rest90
                    case hy90 => (intro w hSw; (try dsimp only at hSw); simp only [List.getElem_toArray, List.getElem_cons_zero, List.getElem_cons_succ]; go_simp; (try with_reducible rfl))
                    (try simp only [Act.put, List.getElem_toArray, List.getElem_cons_zero, List.getElem_cons_succ, List.setIfInBounds_toArray, List.set_cons_zero, List.set_cons_succ])
                    refine wpAnyH_done (by kernel_rfl) ?_ _
                    have hap : (bA ≠ bO ∧ bA ≠ bS ∧ bO ≠ bS ∧ (bA < l ∨ l + 2 ≤ bA) ∧ (bO < l ∨ l + 2 ≤ bO) ∧ (bS < l ∨ l + 2 ≤ bS)) := by omega
                    exact ⟨bA, bO, l, bS, bs, rfl, O2, fA, fO, fS, fL, fB, by have := O2.size; omega, zz, hap⟩
                  · exact AllReadyH.nil
                · exact AllReadyH.nil
              · refine AllReadyH.cons rfl (fun KK hK => ?_) ?_
                · simp only [List.getElem_toArray, List.getElem_cons_zero, List.getElem_cons_succ]
                  go_simp
                  obtain ⟨bS, hbS⟩ : ∃ b, WLO.heap.size = b := ⟨_, rfl⟩
                  have gBS : w1.heap.size ≤ bS := by rw [← hbS]; exact O1.size
                  have pLbS : l + 2 ≤ bS := by rw [← hbS]; exact zL
                  have pObS : bO < bS := by rw [← hbS]; exact zO
                  obtain ⟨WLOS, hW⟩ : ∃ W, WLO.alloc (.map #[] 0) = W := ⟨_, rfl⟩
                  have o1 : Out 0 0 WLO WLOS := by rw [← hW]; exact (Out.refl 0 0 _).alloc _
                  have s1 : WLOS.heap.size = bS + 1 := by rw [← hW, ← hbS]; exact World.size_alloc _ _
                  have fS : WLOS.heap[bS]? = some (.map #[] 0) := by rw [← hW, ← hbS]; exact heap_alloc_new _ _
                  have zS : bS < WLOS.heap.size := by omega
                  replace fL := fL.quiet o1
                  replace zL := Nat.le_trans zL o1.size
                  replace fO := o1.heap fO (.inr (Nat.zero_le _))
                  replace zO := Nat.lt_of_lt_of_le zO o1.size
                  have O2 : Out 0 0 w1 WLOS := O1.trans o1
                  (try rw [hW])
                  (try rw [hbS])
                  (try clear O1)
                  have O1 := O2
                  clear O2 hW o1 s1 hbS
                  refine hK.out _ _ ?hS91 (fun hHeld2 => ?rest91)
                  case hS91 => trivial
                  clear hK KK
                  (try clear hHeld)
                  have hHeld := hHeld2
                  clear hHeld2
                  (try simp only [Act.put, List.getElem_toArray, List.getElem_cons_zero, List.getElem_cons_succ, List.setIfInBounds_toArray, List.set_cons_zero, List.set_cons_succ])
                  refine wpAnyH_ready (rs := [1]) (by kernel_rfl) (by simp) ?_
                  refine AllReadyH.cons rfl (fun KK hK => ?_) ?_
                  · simp only [List.getElem_toArray, List.getElem_cons_zero, List.getElem_cons_succ]
                    go_simp
                    obtain ⟨bA, hbA⟩ : ∃ b, WLOS.heap.size = b := ⟨_, rfl⟩
                    have gBA : w1.heap.size ≤ bA := by rw [← hbA]; exact O1.size
                    have pLbA : l + 2 ≤ bA := by rw [← hbA]; exact zL
                    have pObA : bO < bA := by rw [← hbA]; exact zO
                    have pSbA : bS < bA := by rw [← hbA]; exact zS
                    obtain ⟨WLOSA, hW⟩ : ∃ W, WLOS.alloc (.cells (madeCells #[.int .i64 0] (64 * n)) 3) = W := ⟨_, rfl⟩
                    have o1 : Out 0 0 WLOS WLOSA := by rw [← hW]; exact (Out.refl 0 0 _).alloc _
                    have s1 : WLOSA.heap.size = bA + 1 := by rw [← hW, ← hbA]; exact World.size_alloc _ _
                    have fA : WLOSA.heap[bA]? = some (.cells (madeCells #[.int .i64 0] (64 * n)) 3) := by rw [← hW, ← hbA]; exact heap_alloc_new _ _
                    have zA : bA < WLOSA.heap.size := by omega
                    replace fL := fL.quiet o1
                    replace zL := Nat.le_trans zL o1.size
                    replace fO := o1.heap fO (.inr (Nat.zero_le _))
                    replace zO := Nat.lt_of_lt_of_le zO o1.size
                    replace fS := o1.heap fS (.inr (Nat.zero_le _))
                    replace zS := Nat.lt_of_lt_of_le zS o1.size
                    have O2 : Out 0 0 w1 WLOSA := O1.trans o1
                    (try rw [hW])
                    (try rw [hbA])
                    (try clear O1)
                    have O1 := O2
                    clear O2 hW o1 s1 hbA
                    refine hK.out _ _ ?hS92 (fun hHeld2 => ?rest92)
                    case hS92 => trivial
                    clear hK KK
                    (try clear hHeld)
                    have hHeld := hHeld2
                    clear hHeld2
                    (try simp only [Act.put, List.getElem_toArray, List.getElem_cons_zero, List.getElem_cons_succ, List.setIfInBounds_toArray, List.set_cons_zero, List.set_cons_succ])
                    refine wpAnyH_take (i := 7) (v := ?v93) rfl (by kernel_rfl) (by kernel_rfl) (by kernel_rfl) (fun _ _ _ h => h) (Or.inl ⟨by rfl, ?hy93⟩) (by assumption) ?rest93
                    case hy93 => (intro w hSw; (try dsimp only at hSw); simp only [List.getElem_toArray, List.getElem_cons_zero, List.getElem_cons_succ]; go_simp; (try with_reducible rfl))
                    (try simp only [Act.put, List.getElem_toArray, List.getElem_cons_zero, List.getElem_cons_succ, List.setIfInBounds_toArray, List.set_cons_zero, List.set_cons_succ])
                    refine wpAnyH_ready (rs := [8]) (by kernel_rfl) (by simp) ?_
                    refine AllReadyH.cons rfl (fun KK hK => ?_) ?_
                    · simp only [List.getElem_toArray, List.getElem_cons_zero, List.getElem_cons_succ]
                      go_simp
                      obtain ⟨bs, hbs⟩ : ∃ b, WLOSA.heap.size = b := ⟨_, rfl⟩
                      obtain ⟨WLOSAB, hW⟩ : ∃ W, WLOSA.alloc (.cells #[.slice (some ⟨bA, 0, none⟩) (64 * n) (64 * n), .pointer (some ⟨tb, 0, none⟩), .map (some bO), .pointer (some ⟨l + 1, 0, none⟩), .pointer none, .pointer none, .pointer none, .pointer none, .pointer none, .pointer none, .pointer none, .pointer none, .map (some bS), .int .i64 0] 85) = W := ⟨_, rfl⟩
                      have o1 : Out 0 0 WLOSA WLOSAB := by rw [← hW]; exact (Out.refl 0 0 _).alloc _
                      have fB : WLOSAB.heap[bs]? = some (.cells #[.slice (some ⟨bA, 0, none⟩) (64 * n) (64 * n), .pointer (some ⟨tb, 0, none⟩), .map (some bO), .pointer (some ⟨l + 1, 0, none⟩), .pointer none, .pointer none, .pointer none, .pointer none, .pointer none, .pointer none, .pointer none, .pointer none, .map (some bS), .int .i64 0] 85) := by rw [← hW, ← hbs]; exact heap_alloc_new _ _
                      have s1b : WLOSAB.heap.size = bs + 1 := by rw [← hW, ← hbs]; exact World.size_alloc _ _
                      have zz : bA < bs ∧ bO < bs ∧ bS < bs ∧ l + 2 ≤ bs := by rw [← hbs]; exact ⟨zA, zO, zS, zL⟩
                      replace fL := fL.quiet o1
                      replace zL := Nat.le_trans zL o1.size
                      replace fO := o1.heap fO (.inr (Nat.zero_le _))
                      replace zO := Nat.lt_of_lt_of_le zO o1.size
                      replace fS := o1.heap fS (.inr (Nat.zero_le _))
                      replace zS := Nat.lt_of_lt_of_le zS o1.size
                      replace fA := o1.heap fA (.inr (Nat.zero_le _))
                      replace zA := Nat.lt_of_lt_of_le zA o1.size
                      have O2 := O1.trans o1
                      (try rw [hW])
                      (try rw [hbs])
                      refine hK.out _ _ ?hS94 (fun hHeld2 => ?rest94)
                      case hS94 => trivial
                      clear hK KK
                      (try clear hHeld)
                      have hHeld := hHeld2
                      clear hHeld2
                      (try simp only [Act.put, List.getElem_toArray, List.getElem_cons_zero, List.getElem_cons_succ, List.setIfInBounds_toArray, List.set_cons_zero, List.set_cons_succ])
                      refine wpAnyH_take (i := 9) (v := ?v95) rfl (by kernel_rfl) (by kernel_rfl) (by kernel_rfl) (fun _ _ _ h => h) (Or.inl ⟨by rfl, ?hy95⟩) (by assumption) ?rest95
                      case hy95 => (intro w hSw; (try dsimp only at hSw); simp only [List.getElem_toArray, List.getElem_cons_zero, List.getElem_cons_succ]; go_simp; (try with_reducible rfl))
                      (try simp only [Act.put, List.getElem_toArray, List.getElem_cons_zero, List.getElem_cons_succ, List.setIfInBounds_toArray, List.set_cons_zero, List.set_cons_succ])
                      refine wpAnyH_done (by kernel_rfl) ?_ _
                      have hap : (bA ≠ bO ∧ bA ≠ bS ∧ bO ≠ bS ∧ (bA < l ∨ l + 2 ≤ bA) ∧ (bO < l ∨ l + 2 ≤ bO) ∧ (bS < l ∨ l + 2 ≤ bS)) := by omega
                      exact ⟨bA, bO, l, bS, bs, rfl, O2, fA, fO, fS, fL, fB, by have := O2.size; omega, zz, hap⟩
                    · exact AllReadyH.nil
                  · exact AllReadyH.nil
                · exact AllReadyH.nil
            · refine AllReadyH.cons rfl (fun KK hK => ?_) ?_
              · simp only [List.getElem_toArray, List.getElem_cons_zero, List.getElem_cons_succ]
                go_simp
                obtain ⟨bS, hbS⟩ : ∃ b, WL.heap.size = b := ⟨_, rfl⟩
                have gBS : w1.heap.size ≤ bS := by rw [← hbS]; exact O1.size
                have pLbS : l + 2 ≤ bS := by rw [← hbS]; exact zL
                obtain ⟨WLS, hW⟩ : ∃ W, WL.alloc (.map #[] 0) = W := ⟨_, rfl⟩
                have o1 : Out 0 0 WL WLS := by rw [← hW]; exact (Out.refl 0 0 _).alloc _
                have s1 : WLS.heap.size = bS + 1 := by rw [← hW, ← hbS]; exact World.size_alloc _ _
                have fS : WLS.heap[bS]? = some (.map #[] 0) := by rw [← hW, ← hbS]; exact heap_alloc_new _ _
                have zS : bS < WLS.heap.size := by omega
                replace fL := fL.quiet o1
                replace zL := Nat.le_trans zL o1.size
                have O2 : Out 0 0 w1 WLS := O1.trans o1
                (try rw [hW])
                (try rw [hbS])
                (try clear O1)
                have O1 := O2
                clear O2 hW o1 s1 hbS
                refine hK.out _ _ ?hS96 (fun hHeld2 => ?rest96)
                case hS96 => trivial
                clear hK KK
                (try clear hHeld)
                have hHeld := hHeld2
                clear hHeld2
                (try simp only [Act.put, List.getElem_toArray, List.getElem_cons_zero, List.getElem_cons_succ, List.setIfInBounds_toArray, List.set_cons_zero, List.set_cons_succ])
                refine wpAnyH_ready (rs := [1, 3]) (by kernel_rfl) (by simp) ?_
                refine AllReadyH.cons rfl (fun KK hK => ?_) ?_
                · simp only [List.getElem_toArray, List.getElem_cons_zero, List.getElem_cons_succ]
                  go_simp
                  obtain ⟨bA, hbA⟩ : ∃ b, WLS.heap.size = b := ⟨_, rfl⟩
                  have gBA : w1.heap.size ≤ bA := by rw [← hbA]; exact O1.size
                  have pLbA : l + 2 ≤ bA := by rw [← hbA]; exact zL
                  have pSbA : bS < bA := by rw [← hbA]; exact zS
                  obtain ⟨WLSA, hW⟩ : ∃ W, WLS.alloc (.cells (madeCells #[.int .i64 0] (64 * n)) 3) = W := ⟨_, rfl⟩
                  have o1 : Out 0 0 WLS WLSA := by rw [← hW]; exact (Out.refl 0 0 _).alloc _
                  have s1 : WLSA.heap.size = bA + 1 := by rw [← hW, ← hbA]; exact World.size_alloc _ _
                  have fA : WLSA.heap[bA]? = some (.cells (madeCells #[.int .i64 0] (64 * n)) 3) := by rw [← hW, ← hbA]; exact heap_alloc_new _ _
                  have zA : bA < WLSA.heap.size := by omega
                  replace fL := fL.quiet o1
                  replace zL := Nat.le_trans zL o1.size
                  replace fS := o1.heap fS (.inr (Nat.zero_le _))
                  replace zS := Nat.lt_of_lt_of_le zS o1.size
                  have O2 : Out 0 0 w1 WLSA := O1.trans o1
                  (try rw [hW])
                  (try rw [hbA])
                  (try clear O1)
                  have O1 := O2
                  clear O2 hW o1 s1 hbA
                  refine hK.out _ _ ?hS97 (fun hHeld2 => ?rest97)
                  case hS97 => trivial
                  clear hK KK
                  (try clear hHeld)
                  have hHeld := hHeld2
                  clear hHeld2
                  (try simp only [Act.put, List.getElem_toArray, List.getElem_cons_zero, List.getElem_cons_succ, List.setIfInBounds_toArray, List.set_cons_zero, List.set_cons_succ])
                  refine wpAnyH_ready (rs := [3]) (by kernel_rfl) (by simp) ?_
                  refine AllReadyH.cons rfl (fun KK hK => ?_) ?_
                  · simp only [List.getElem_toArray, List.getElem_cons_zero, List.getElem_cons_succ]
                    go_simp
                    obtain ⟨bO, hbO⟩ : ∃ b, WLSA.heap.size = b := ⟨_, rfl⟩
                    have gBO : w1.heap.size ≤ bO := by rw [← hbO]; exact O1.size
                    have pLbO : l + 2 ≤ bO := by rw [← hbO]; exact zL
                    have pSbO : bS < bO := by rw [← hbO]; exact zS
                    have pAbO : bA < bO := by rw [← hbO]; exact zA
                    obtain ⟨WLSAO, hW⟩ : ∃ W, WLSA.alloc (.map #[] 0) = W := ⟨_, rfl⟩
                    have o1 : Out 0 0 WLSA WLSAO := by rw [← hW]; exact (Out.refl 0 0 _).alloc _
                    have s1 : WLSAO.heap.size = bO + 1 := by rw [← hW, ← hbO]; exact World.size_alloc _ _
                    have fO : WLSAO.heap[bO]? = some (.map #[] 0) := by rw [← hW, ← hbO]; exact heap_alloc_new _ _
                    have zO : bO < WLSAO.heap.size := by omega
                    replace fL := fL.quiet o1
                    replace zL := Nat.le_trans zL o1.size
                    replace fS := o1.heap fS (.inr (Nat.zero_le _))
                    replace zS := Nat.lt_of_lt_of_le zS o1.size
                    replace fA := o1.heap fA (.inr (Nat.zero_le _))
                    replace zA := Nat.lt_of_lt_of_le zA o1.size
                    have O2 : Out 0 0 w1 WLSAO := O1.trans o1
                    (try rw [hW])
                    (try rw [hbO])
                    (try clear O1)
                    have O1 := O2
                    clear O2 hW o1 s1 hbO
                    refine hK.out _ _ ?hS98 (fun hHeld2 => ?rest98)
                    case hS98 => trivial
                    clear hK KK
                    (try clear hHeld)
                    have hHeld := hHeld2
                    clear hHeld2
                    (try simp only [Act.put, List.getElem_toArray, List.getElem_cons_zero, List.getElem_cons_succ, List.setIfInBounds_toArray, List.set_cons_zero, List.set_cons_succ])
                    refine wpAnyH_take (i := 7) (v := ?v99) rfl (by kernel_rfl) (by kernel_rfl) (by kernel_rfl) (fun _ _ _ h => h) (Or.inl ⟨by rfl, ?hy99⟩) (by assumption) ?rest99
                    case hy99 => (intro w hSw; (try dsimp only at hSw); simp only [List.getElem_toArray, List.getElem_cons_zero, List.getElem_cons_succ]; go_simp; (try with_reducible rfl))
                    (try simp only [Act.put, List.getElem_toArray, List.getElem_cons_zero, List.getElem_cons_succ, List.setIfInBounds_toArray, List.set_cons_zero, List.set_cons_succ])
                    refine wpAnyH_ready (rs := [8]) (by kernel_rfl) (by simp) ?_
                    refine AllReadyH.cons rfl (fun KK hK => ?_) ?_
                    · simp only [List.getElem_toArray, List.getElem_cons_zero, List.getElem_cons_succ]
                      go_simp
                      obtain ⟨bs, hbs⟩ : ∃ b, WLSAO.heap.size = b := ⟨_, rfl⟩
                      obtain ⟨WLSAOB, hW⟩ : ∃ W, WLSAO.alloc (.cells #[.slice (some ⟨bA, 0, none⟩) (64 * n) (64 * n), .pointer (some ⟨tb, 0, none⟩), .map (some bO), .pointer (some ⟨l + 1, 0, none⟩), .pointer none, .pointer none, .pointer none, .pointer none, .pointer none, .pointer none, .pointer none, .pointer none, .map (some bS), .int .i64 0] 85) = W := ⟨_, rfl⟩
                      have o1 : Out 0 0 WLSAO WLSAOB := by rw [← hW]; exact (Out.refl 0 0 _).alloc _
                      have fB : WLSAOB.heap[bs]? = some (.cells #[.slice (some ⟨bA, 0, none⟩) (64 * n) (64 * n), .pointer (some ⟨tb, 0, none⟩), .map (some bO), .pointer (some ⟨l + 1, 0, none⟩), .pointer none, .pointer none, .pointer none, .pointer none, .pointer none, .pointer none, .pointer none, .pointer none, .map (some bS), .int .i64 0] 85) := by rw [← hW, ← hbs]; exact heap_alloc_new _ _
                      have s1b : WLSAOB.heap.size = bs + 1 := by rw [← hW, ← hbs]; exact World.size_alloc _ _
                      have zz : bA < bs ∧ bO < bs ∧ bS < bs ∧ l + 2 ≤ bs := by rw [← hbs]; exact ⟨zA, zO, zS, zL⟩
                      replace fL := fL.quiet o1
                      replace zL := Nat.le_trans zL o1.size
                      replace fS := o1.heap fS (.inr (Nat.zero_le _))
                      replace zS := Nat.lt_of_lt_of_le zS o1.size
                      replace fA := o1.heap fA (.inr (Nat.zero_le _))
                      replace zA := Nat.lt_of_lt_of_le zA o1.size
                      replace fO := o1.heap fO (.inr (Nat.zero_le _))
                      replace zO := Nat.lt_of_lt_of_le zO o1.size
                      have O2 := O1.trans o1
                      (try rw [hW])
                      (try rw [hbs])
                      refine hK.out _ _ ?hS100 (fun hHeld2 => ?rest100)
                      case hS100 => trivial
                      clear hK KK
                      (try clear hHeld)
                      have hHeld := hHeld2
                      clear hHeld2
                      (try simp only [Act.put, List.getElem_toArray, List.getElem_cons_zero, List.getElem_cons_succ, List.setIfInBounds_toArray, List.set_cons_zero, List.set_cons_succ])
                      refine wpAnyH_take (i := 9) (v := ?v101) rfl (by kernel_rfl) (by kernel_rfl) (by kernel_rfl) (fun _ _ _ h => h) (Or.inl ⟨by rfl, ?hy101⟩) (by assumption) ?rest101
                      case hy101 => (intro w hSw; (try dsimp only at hSw); simp only [List.getElem_toArray, List.getElem_cons_zero, List.getElem_cons_succ]; go_simp; (try with_reducible rfl))
                      (try simp only [Act.put, List.getElem_toArray, List.getElem_cons_zero, List.getElem_cons_succ, List.setIfInBounds_toArray, List.set_cons_zero, List.set_cons_succ])
                      refine wpAnyH_done (by kernel_rfl) ?_ _
                      have hap : (bA ≠ bO ∧ bA ≠ bS ∧ bO ≠ bS ∧ (bA < l ∨ l + 2 ≤ bA) ∧ (bO < l ∨ l + 2 ≤ bO) ∧ (bS < l ∨ l + 2 ≤ bS)) := by omega
                      exact ⟨bA, bO, l, bS, bs, rfl, O2, fA, fO, fS, fL, fB, by have := O2.size; omega, zz, hap⟩
                    · exact AllReadyH.nil
                  · exact AllReadyH.nil
                · refine AllReadyH.cons rfl (fun KK hK => ?_) ?_
                  · simp only [List.getElem_toArray, List.getElem_cons_zero, List.getElem_cons_succ]
                    go_simp
                    obtain ⟨bO, hbO⟩ : ∃ b, WLS.heap.size = b := ⟨_, rfl⟩
                    have gBO : w1.heap.size ≤ bO := by rw [← hbO]; exact O1.size
                    have pLbO : l + 2 ≤ bO := by rw [← hbO]; exact zL
                    have pSbO : bS < bO := by rw [← hbO]; exact zS
                    obtain ⟨WLSO, hW⟩ : ∃ W, WLS.alloc (.map #[] 0) = W := ⟨_, rfl⟩
                    have o1 : Out 0 0 WLS WLSO := by rw [← hW]; exact (Out.refl 0 0 _).alloc _
                    have s1 : WLSO.heap.size = bO + 1 := by rw [← hW, ← hbO]; exact World.size_alloc _ _
                    have fO : WLSO.heap[bO]? = some (.map #[] 0) := by rw [← hW, ← hbO]; exact heap_alloc_new _ _
                    have zO : bO < WLSO.heap.size := by omega
                    replace fL := fL.quiet o1
                    replace zL := Nat.le_trans zL o1.size
                    replace fS := o1.heap fS (.inr (Nat.zero_le _))
                    replace zS := Nat.lt_of_lt_of_le zS o1.size
                    have O2 : Out 0 0 w1 WLSO := O1.trans o1
                    (try rw [hW])
                    (try rw [hbO])
                    (try clear O1)
                    have O1 := O2
                    clear O2 hW o1 s1 hbO
                    refine hK.out _ _ ?hS102 (fun hHeld2 => ?rest102)
                    case hS102 => trivial
                    clear hK KK
                    (try clear hHeld)
                    have hHeld := hHeld2
                    clear hHeld2
                    (try simp only [Act.put, List.getElem_toArray, List.getElem_cons_zero, List.getElem_cons_succ, List.setIfInBounds_toArray, List.set_cons_zero, List.set_cons_succ])
                    refine wpAnyH_ready (rs := [1]) (by kernel_rfl) (by simp) ?_
                    refine AllReadyH.cons rfl (fun KK hK => ?_) ?_
                    · simp only [List.getElem_toArray, List.getElem_cons_zero, List.getElem_cons_succ]
                      go_simp
                      obtain ⟨bA, hbA⟩ : ∃ b, WLSO.heap.size = b := ⟨_, rfl⟩
                      have gBA : w1.heap.size ≤ bA := by rw [← hbA]; exact O1.size
                      have pLbA : l + 2 ≤ bA := by rw [← hbA]; exact zL
                      have pSbA : bS < bA := by rw [← hbA]; exact zS
                      have pObA : bO < bA := by rw [← hbA]; exact zO
                      obtain ⟨WLSOA, hW⟩ : ∃ W, WLSO.alloc (.cells (madeCells #[.int .i64 0] (64 * n)) 3) = W := ⟨_, rfl⟩
                      have o1 : Out 0 0 WLSO WLSOA := by rw [← hW]; exact (Out.refl 0 0 _).alloc _
                      have s1 : WLSOA.heap.size = bA + 1 := by rw [← hW, ← hbA]; exact World.size_alloc _ _
                      have fA : WLSOA.heap[bA]? = some (.cells (madeCells #[.int .i64 0] (64 * n)) 3) := by rw [← hW, ← hbA]; exact heap_alloc_new _ _
                      have zA : bA < WLSOA.heap.size := by omega
                      replace fL := fL.quiet o1
                      replace zL := Nat.le_trans zL o1.size
                      replace fS := o1.heap fS (.inr (Nat.zero_le _))
                      replace zS := Nat.lt_of_lt_of_le zS o1.size
                      replace fO := o1.heap fO (.inr (Nat.zero_le _))
                      replace zO := Nat.lt_of_lt_of_le zO o1.size
                      have O2 : Out 0 0 w1 WLSOA := O1.trans o1
                      (try rw [hW])
                      (try rw [hbA])
                      (try clear O1)
                      have O1 := O2
                      clear O2 hW o1 s1 hbA
                      refine hK.out _ _ ?hS103 (fun hHeld2 => ?rest103)
                      case hS103 => trivial
                      clear hK KK
                      (try clear hHeld)
                      have hHeld := hHeld2
                      clear hHeld2
                      (try simp only [Act.put, List.getElem_toArray, List.getElem_cons_zero, List.getElem_cons_succ, List.setIfInBounds_toArray, List.set_cons_zero, List.set_cons_succ])
                      refine wpAnyH_take (i := 7) (v := ?v104) rfl (by kernel_rfl) (by kernel_rfl) (by kernel_rfl) (fun _ _ _ h => h) (Or.inl ⟨by rfl, ?hy104⟩) (by assumption) ?rest104
                      case hy104 => (intro w hSw; (try dsimp only at hSw); simp only [List.getElem_toArray, List.getElem_cons_zero, List.getElem_cons_succ]; go_simp; (try with_reducible rfl))
                      (try simp only [Act.put, List.getElem_toArray, List.getElem_cons_zero, List.getElem_cons_succ, List.setIfInBounds_toArray, List.set_cons_zero, List.set_cons_succ])
                      refine wpAnyH_ready (rs := [8]) (by kernel_rfl) (by simp) ?_
                      refine AllReadyH.cons rfl (fun KK hK => ?_) ?_
                      · simp only [List.getElem_toArray, List.getElem_cons_zero, List.getElem_cons_succ]
                        go_simp
                        obtain ⟨bs, hbs⟩ : ∃ b, WLSOA.heap.size = b := ⟨_, rfl⟩
                        obtain ⟨WLSOAB, hW⟩ : ∃ W, WLSOA.alloc (.cells #[.slice (some ⟨bA, 0, none⟩) (64 * n) (64 * n), .pointer (some ⟨tb, 0, none⟩), .map (some bO), .pointer (some ⟨l + 1, 0, none⟩), .pointer none, .pointer none, .pointer none, .pointer none, .pointer none, .pointer none, .pointer none, .pointer none, .map (some bS), .int .i64 0] 85) = W := ⟨_, rfl⟩
                        have o1 : Out 0 0 WLSOA WLSOAB := by rw [← hW]; exact (Out.refl 0 0 _).alloc _
                        have fB : WLSOAB.heap[bs]? = some (.cells #[.slice (some ⟨bA, 0, none⟩) (64 * n) (64 * n), .pointer (some ⟨tb, 0, none⟩), .map (some bO), .pointer (some ⟨l + 1, 0, none⟩), .pointer none, .pointer none, .pointer none, .pointer none, .pointer none, .pointer none, .pointer none, .pointer none, .map (some bS), .int .i64 0] 85) := by rw [← hW, ← hbs]; exact heap_alloc_new _ _
                        have s1b : WLSOAB.heap.size = bs + 1 := by rw [← hW, ← hbs]; exact World.size_alloc _ _
                        have zz : bA < bs ∧ bO < bs ∧ bS < bs ∧ l + 2 ≤ bs := by rw [← hbs]; exact ⟨zA, zO, zS, zL⟩
                        replace fL := fL.quiet o1
                        replace zL := Nat.le_trans zL o1.size
                        replace fS := o1.heap fS (.inr (Nat.zero_le _))
                        replace zS := Nat.lt_of_lt_of_le zS o1.size
                        replace fO := o1.heap fO (.inr (Nat.zero_le _))
                        replace zO := Nat.lt_of_lt_of_le zO o1.size
                        replace fA := o1.heap fA (.inr (Nat.zero_le _))
                        replace zA := Nat.lt_of_lt_of_le zA o1.size
                        have O2 := O1.trans o1
                        (try rw [hW])
                        (try rw [hbs])
                        refine hK.out _ _ ?hS105 (fun hHeld2 => ?rest105)
                        case hS105 => trivial
                        clear hK KK
                        (try clear hHeld)
                        have hHeld := hHeld2
                        clear hHeld2
                        (try simp only [Act.put, List.getElem_toArray, List.getElem_cons_zero, List.getElem_cons_succ, List.setIfInBounds_toArray, List.set_cons_zero, List.set_cons_succ])
                        refine wpAnyH_take (i := 9) (v := ?v106) rfl (by kernel_rfl) (by kernel_rfl) (by kernel_rfl) (fun _ _ _ h => h) (Or.inl ⟨by rfl, ?hy106⟩) (by assumption) ?rest106
                        case hy106 => (intro w hSw; (try dsimp only at hSw); simp only [List.getElem_toArray, List.getElem_cons_zero, List.getElem_cons_succ]; go_simp; (try with_reducible rfl))
                        (try simp only [Act.put, List.getElem_toArray, List.getElem_cons_zero, List.getElem_cons_succ, List.setIfInBounds_toArray, List.set_cons_zero, List.set_cons_succ])
                        refine wpAnyH_done (by kernel_rfl) ?_ _
                        have hap : (bA ≠ bO ∧ bA ≠ bS ∧ bO ≠ bS ∧ (bA < l ∨ l + 2 ≤ bA) ∧ (bO < l ∨ l + 2 ≤ bO) ∧ (bS < l ∨ l + 2 ≤ bS)) := by omega
                        exact ⟨bA, bO, l, bS, bs, rfl, O2, fA, fO, fS, fL, fB, by have := O2.size; omega, zz, hap⟩
                      · exact AllReadyH.nil
                    · exact AllReadyH.nil
                  · exact AllReadyH.nil
              · exact AllReadyH.nil
        · refine AllReadyH.cons rfl (fun KK hK => ?_) ?_
          · simp only [List.getElem_toArray, List.getElem_cons_zero, List.getElem_cons_succ]
            go_simp
            obtain ⟨bS, hbS⟩ : ∃ b, Z.heap.size = b := ⟨_, rfl⟩
            have gBS : w1.heap.size ≤ bS := by rw [← hbS]; exact OZ.size
            obtain ⟨WS, hW⟩ : ∃ W, Z.alloc (.map #[] 0) = W := ⟨_, rfl⟩
            have o1 : Out 0 0 Z WS := by rw [← hW]; exact (Out.refl 0 0 _).alloc _
            have s1 : WS.heap.size = bS + 1 := by rw [← hW, ← hbS]; exact World.size_alloc _ _
            have fS : WS.heap[bS]? = some (.map #[] 0) := by rw [← hW, ← hbS]; exact heap_alloc_new _ _
            have zS : bS < WS.heap.size := by omega
            have O2 : Out 0 0 w1 WS := OZ.trans o1
            (try rw [hW])
            (try rw [hbS])
            (try clear O1)
            have O1 := O2
            clear O2 hW o1 s1 hbS
            refine hK.out _ _ ?hS107 (fun hHeld2 => ?rest107)
            case hS107 => trivial
            clear hK KK
            (try clear hHeld)
            have hHeld := hHeld2
            clear hHeld2
            (try simp only [Act.put, List.getElem_toArray, List.getElem_cons_zero, List.getElem_cons_succ, List.setIfInBounds_toArray, List.set_cons_zero, List.set_cons_succ])
            refine wpAnyH_ready (rs := [1, 3, 5]) (by kernel_rfl) (by simp) ?_
            refine AllReadyH.cons rfl (fun KK hK => ?_) ?_
            · simp only [List.getElem_toArray, List.getElem_cons_zero, List.getElem_cons_succ]
              go_simp
              obtain ⟨bA, hbA⟩ : ∃ b, WS.heap.size = b := ⟨_, rfl⟩
              have gBA : w1.heap.size ≤ bA := by rw [← hbA]; exact O1.size
              have pSbA : bS < bA := by rw [← hbA]; exact zS
              obtain ⟨WSA, hW⟩ : ∃ W, WS.alloc (.cells (madeCells #[.int .i64 0] (64 * n)) 3) = W := ⟨_, rfl⟩
              have o1 : Out 0 0 WS WSA := by rw [← hW]; exact (Out.refl 0 0 _).alloc _
              have s1 : WSA.heap.size = bA + 1 := by rw [← hW, ← hbA]; exact World.size_alloc _ _
              have fA : WSA.heap[bA]? = some (.cells (madeCells #[.int .i64 0] (64 * n)) 3) := by rw [← hW, ← hbA]; exact heap_alloc_new _ _
              have zA : bA < WSA.heap.size := by omega
              replace fS := o1.heap fS (.inr (Nat.zero_le _))
              replace zS := Nat.lt_of_lt_of_le zS o1.size
              have O2 : Out 0 0 w1 WSA := O1.trans o1
              (try rw [hW])
              (try rw [hbA])
              (try clear O1)
              have O1 := O2
              clear O2 hW o1 s1 hbA
              refine hK.out _ _ ?hS108 (fun hHeld2 => ?rest108)
              case hS108 => trivial
              clear hK KK
              (try clear hHeld)
              have hHeld := hHeld2
              clear hHeld2
              (try simp only [Act.put, List.getElem_toArray, List.getElem_cons_zero, List.getElem_cons_succ, List.setIfInBounds_toArray, List.set_cons_zero, List.set_cons_succ])
              refine wpAnyH_ready (rs := [3, 5]) (by kernel_rfl) (by simp) ?_
              refine AllReadyH.cons rfl (fun KK hK => ?_) ?_
              · simp only [List.getElem_toArray, List.getElem_cons_zero, List.getElem_cons_succ]
                go_simp
                obtain ⟨bO, hbO⟩ : ∃ b, WSA.heap.size = b := ⟨_, rfl⟩
                have gBO : w1.heap.size ≤ bO := by rw [← hbO]; exact O1.size
                have pSbO : bS < bO := by rw [← hbO]; exact zS
                have pAbO : bA < bO := by rw [← hbO]; exact zA
                obtain ⟨WSAO, hW⟩ : ∃ W, WSA.alloc (.map #[] 0) = W := ⟨_, rfl⟩
                have o1 : Out 0 0 WSA WSAO := by rw [← hW]; exact (Out.refl 0 0 _).alloc _
                have s1 : WSAO.heap.size = bO + 1 := by rw [← hW, ← hbO]; exact World.size_alloc _ _
                have fO : WSAO.heap[bO]? = some (.map #[] 0) := by rw [← hW, ← hbO]; exact heap_alloc_new _ _
                have zO : bO < WSAO.heap.size := by omega
                replace fS := o1.heap fS (.inr (Nat.zero_le _))
                replace zS := Nat.lt_of_lt_of_le zS o1.size
                replace fA := o1.heap fA (.inr (Nat.zero_le _))
                replace zA := Nat.lt_of_lt_of_le zA o1.size
                have O2 : Out 0 0 w1 WSAO := O1.trans o1
                (try rw [hW])
                (try rw [hbO])
                (try clear O1)
                have O1 := O2
                clear O2 hW o1 s1 hbO
                refine hK.out _ _ ?hS109 (fun hHeld2 => ?rest109)
                case hS109 => trivial
                clear hK KK
                (try clear hHeld)
                have hHeld := hHeld2
                clear hHeld2
                (try simp only [Act.put, List.getElem_toArray, List.getElem_cons_zero, List.getElem_cons_succ, List.setIfInBounds_toArray, List.set_cons_zero, List.set_cons_succ])
                refine wpAnyH_ready (rs := [5]) (by kernel_rfl) (by simp) ?_
                refine AllReadyH.cons rfl (fun KK hK => ?_) ?_
                · simp only [List.getElem_toArray, List.getElem_cons_zero, List.getElem_cons_succ]
                  go_simp
                  refine (HNone.out _ (HTab.out _ O1)).mono ?_
                  rintro e WSAOL ⟨rfl, fL, o1, s1⟩
                  obtain ⟨l, hl⟩ : ∃ l, WSAO.heap.size = l := ⟨_, rfl⟩
                  rw [hl] at fL s1
                  have gL : w1.heap.size ≤ l := by rw [← hl]; exact O1.size
                  have pSl : bS < l := by rw [← hl]; exact zS
                  have pAl : bA < l := by rw [← hl]; exact zA
                  have pOl : bO < l := by rw [← hl]; exact zO
                  have zL : l + 2 ≤ WSAOL.heap.size := by omega
                  replace fS := o1.heap fS (.inr (Nat.zero_le _))
                  replace zS := Nat.lt_of_lt_of_le zS o1.size
                  replace fA := o1.heap fA (.inr (Nat.zero_le _))
                  replace zA := Nat.lt_of_lt_of_le zA o1.size
                  replace fO := o1.heap fO (.inr (Nat.zero_le _))
                  replace zO := Nat.lt_of_lt_of_le zO o1.size
                  have O2 : Out 0 0 w1 WSAOL := O1.trans o1
                  (try rw [hl])
                  (try clear O1)
                  have O1 := O2
                  clear O2 o1 s1 hl
                  refine hK.out _ _ ?hS110 (fun hHeld2 => ?rest110)
                  case hS110 => trivial
                  clear hK KK
                  (try clear hHeld)
                  have hHeld := hHeld2
                  clear hHeld2
                  (try simp only [Act.put, List.getElem_toArray, List.getElem_cons_zero, List.getElem_cons_succ, List.setIfInBounds_toArray, List.set_cons_zero, List.set_cons_succ])
                  refine wpAnyH_take (i := 7) (v := ?v111) rfl (by kernel_rfl) (by kernel_rfl) (by kernel_rfl) (fun _ _ _ h => h) (Or.inl ⟨by rfl, ?hy111⟩) (by assumption) ?rest111
                  case hy111 => (intro w hSw; (try dsimp only at hSw); simp only [List.getElem_toArray, List.getElem_cons_zero, List.getElem_cons_succ]; go_simp; (try with_reducible rfl))
                  (try simp only [Act.put, List.getElem_toArray, List.getElem_cons_zero, List.getElem_cons_succ, List.setIfInBounds_toArray, List.set_cons_zero, List.set_cons_succ])
                  refine wpAnyH_ready (rs := [8]) (by kernel_rfl) (by simp) ?_
                  refine AllReadyH.cons rfl (fun KK hK => ?_) ?_
                  · simp only [List.getElem_toArray, List.getElem_cons_zero, List.getElem_cons_succ]
                    go_simp
                    obtain ⟨bs, hbs⟩ : ∃ b, WSAOL.heap.size = b := ⟨_, rfl⟩
                    obtain ⟨WSAOLB, hW⟩ : ∃ W, WSAOL.alloc (.cells #[.slice (some ⟨bA, 0, none⟩) (64 * n) (64 * n), .pointer (some ⟨tb, 0, none⟩), .map (some bO), .pointer (some ⟨l + 1, 0, none⟩), .pointer none, .pointer none, .pointer none, .pointer none, .pointer none, .pointer none, .pointer none, .pointer none, .map (some bS), .int .i64 0] 85) = W := ⟨_, rfl⟩
                    have o1 : Out 0 0 WSAOL WSAOLB := by rw [← hW]; exact (Out.refl 0 0 _).alloc _
                    have fB : WSAOLB.heap[bs]? = some (.cells #[.slice (some ⟨bA, 0, none⟩) (64 * n) (64 * n), .pointer (some ⟨tb, 0, none⟩), .map (some bO), .pointer (some ⟨l + 1, 0, none⟩), .pointer none, .pointer none, .pointer none, .pointer none, .pointer none, .pointer none, .pointer none, .pointer none, .map (some bS), .int .i64 0] 85) := by rw [← hW, ← hbs]; exact heap_alloc_new _ _
                    have s1b : WSAOLB.heap.size = bs + 1 := by rw [← hW, ← hbs]; exact World.size_alloc _ _
                    have zz : bA < bs ∧ bO < bs ∧ bS < bs ∧ l + 2 ≤ bs := by rw [← hbs]; exact ⟨zA, zO, zS, zL⟩
                    replace fS := o1.heap fS (.inr (Nat.zero_le _))
                    replace zS := Nat.lt_of_lt_of_le zS o1.size
                    replace fA := o1.heap fA (.inr (Nat.zero_le _))
                    replace zA := Nat.lt_of_lt_of_le zA o1.size
                    replace fO := o1.heap fO (.inr (Nat.zero_le _))
                    replace zO := Nat.lt_of_lt_of_le zO o1.size
                    replace fL := fL.quiet o1
                    replace zL := Nat.le_trans zL o1.size
                    have O2 := O1.trans o1
                    (try rw [hW])
                    (try rw [hbs])
                    refine hK.out _ _ ?hS112 (fun hHeld2 => ?rest112)
                    case hS112 => trivial
                    clear hK KK
                    (try clear hHeld)
                    have hHeld := hHeld2
                    clear hHeld2
                    (try simp only [Act.put, List.getElem_toArray, List.getElem_cons_zero, List.getElem_cons_succ, List.setIfInBounds_toArray, List.set_cons_zero, List.set_cons_succ])
                    refine wpAnyH_take (i := 9) (v := ?v113) rfl (by kernel_rfl) (by kernel_rfl) (by kernel_rfl) (fun _ _ _ h => h) (Or.inl ⟨by rfl, ?hy113⟩) (by assumption) ?rest113
                    case hy113 => (intro w hSw; (try dsimp only at hSw); simp only [List.getElem_toArray, List.getElem_cons_zero, List.getElem_cons_succ]; go_simp; (try with_reducible rfl))
                    (try simp only [Act.put, List.getElem_toArray, List.getElem_cons_zero, List.getElem_cons_succ, List.setIfInBounds_toArray, List.set_cons_zero, List.set_cons_succ])
                    refine wpAnyH_done (by kernel_rfl) ?_ _
                    have hap : (bA ≠ bO ∧ bA ≠ bS ∧ bO ≠ bS ∧ (bA < l ∨ l + 2 ≤ bA) ∧ (bO < l ∨ l + 2 ≤ bO) ∧ (bS < l ∨ l + 2 ≤ bS)) := by omega
                    exact ⟨bA, bO, l, bS, bs, rfl, O2, fA, fO, fS, fL, fB, by have := O2.size; omega, zz, hap⟩
                  · exact AllReadyH.nil
                · exact AllReadyH.nil
              · refine AllReadyH.cons rfl (fun KK hK => ?_) ?_
                · simp only [List.getElem_toArray, List.getElem_cons_zero, List.getElem_cons_succ]
                  go_simp
                  refine (HNone.out _ (HTab.out _ O1)).mono ?_
                  rintro e WSAL ⟨rfl, fL, o1, s1⟩
                  obtain ⟨l, hl⟩ : ∃ l, WSA.heap.size = l := ⟨_, rfl⟩
                  rw [hl] at fL s1
                  have gL : w1.heap.size ≤ l := by rw [← hl]; exact O1.size
                  have pSl : bS < l := by rw [← hl]; exact zS
                  have pAl : bA < l := by rw [← hl]; exact zA
                  have zL : l + 2 ≤ WSAL.heap.size := by omega
                  replace fS := o1.heap fS (.inr (Nat.zero_le _))
                  replace zS := Nat.lt_of_lt_of_le zS o1.size
                  replace fA := o1.heap fA (.inr (Nat.zero_le _))
                  replace zA := Nat.lt_of_lt_of_le zA o1.size
                  have O2 : Out 0 0 w1 WSAL := O1.trans o1
                  (try rw [hl])
                  (try clear O1)
                  have O1 := O2
                  clear O2 o1 s1 hl
                  refine hK.out _ _ ?hS114 (fun hHeld2 => ?rest114)
                  case hS114 => trivial
                  clear hK KK
                  (try clear hHeld)
                  have hHeld := hHeld2
                  clear hHeld2
                  (try simp only [Act.put, List.getElem_toArray, List.getElem_cons_zero, List.getElem_cons_succ, List.setIfInBounds_toArray, List.set_cons_zero, List.set_cons_succ])
                  refine wpAnyH_ready (rs := [3]) (by kernel_rfl) (by simp) ?_
                  refine AllReadyH.cons rfl (fun KK hK => ?_) ?_
                  · simp only [List.getElem_toArray, List.getElem_cons_zero, List.getElem_cons_succ]
                    go_simp
                    obtain ⟨bO, hbO⟩ : ∃ b, WSAL.heap.size = b := ⟨_, rfl⟩
                    have gBO : w1.heap.size ≤ bO := by rw [← hbO]; exact O1.size
                    have pSbO : bS < bO := by rw [← hbO]; exact zS
                    have pAbO : bA < bO := by rw [← hbO]; exact zA
                    have pLbO : l + 2 ≤ bO := by rw [← hbO]; exact zL
                    obtain ⟨WSALO, hW⟩ : ∃ W, WSAL.alloc (.map #[] 0) = W := ⟨_, rfl⟩
                    have o1 : Out 0 0 WSAL WSALO := by rw [← hW]; exact (Out.refl 0 0 _).alloc _
                    have s1 : WSALO.heap.size = bO + 1 := by rw [← hW, ← hbO]; exact World.size_alloc _ _
                    have fO : WSALO.heap[bO]? = some (.map #[] 0) := by rw [← hW, ← hbO]; exact heap_alloc_new _ _
                    have zO : bO < WSALO.heap.size := by omega
                    replace fS := o1.heap fS (.inr (Nat.zero_le _))
                    replace zS := Nat.lt_of_lt_of_le zS o1.size
                    replace fA := o1.heap fA (.inr (Nat.zero_le _))
                    replace zA := Nat.lt_of_lt_of_le zA o1.size
                    replace fL := fL.quiet o1
                    replace zL := Nat.le_trans zL o1.size
                    have O2 : Out 0 0 w1 WSALO := O1.trans o1
                    (try rw [hW])
                    (try rw [hbO])
                    (try clear O1)
                    have O1 := O2
                    clear O2 hW o1 s1 hbO
                    refine hK.out _ _ ?hS115 (fun hHeld2 => ?rest115)
                    case hS115 => trivial
                    clear hK KK
                    (try clear hHeld)
                    have hHeld := hHeld2
                    clear hHeld2
                    (try simp only [Act.put, List.getElem_toArray, List.getElem_cons_zero, List.getElem_cons_succ, List.setIfInBounds_toArray, List.set_cons_zero, List.set_cons_succ])
                    refine wpAnyH_take (i := 7) (v := ?v116) rfl (by kernel_rfl) (by kernel_rfl) (by kernel_rfl) (fun _ _ _ h => h) (Or.inl ⟨by rfl, ?hy116⟩) (by assumption) ?rest116
                    case hy116 => (intro w hSw; (try dsimp only at hSw); simp only [List.getElem_toArray, List.getElem_cons_zero, List.getElem_cons_succ]; go_simp; (try with_reducible rfl))
                    (try simp only [Act.put, List.getElem_toArray, List.getElem_cons_zero, List.getElem_cons_succ, List.setIfInBounds_toArray, List.set_cons_zero, List.set_cons_succ])
                    refine wpAnyH_ready (rs := [8]) (by kernel_rfl) (by simp) ?_
                    refine AllReadyH.cons rfl (fun KK hK => ?_) ?_
                    · simp only [List.getElem_toArray, List.getElem_cons_zero, List.getElem_cons_succ]
                      go_simp
                      obtain ⟨bs, hbs⟩ : ∃ b, WSALO.heap.size = b := ⟨_, rfl⟩
                      obtain ⟨WSALOB, hW⟩ : ∃ W, WSALO.alloc (.cells #[.slice (some ⟨bA, 0, none⟩) (64 * n) (64 * n), .pointer (some ⟨tb, 0, none⟩), .map (some bO), .pointer (some ⟨l + 1, 0, none⟩), .pointer none, .pointer none, .pointer none, .pointer none, .pointer none, .pointer none, .pointer none, .pointer none, .map (some bS), .int .i64 0] 85) = W := ⟨_, rfl⟩
                      have o1 : Out 0 0 WSALO WSALOB := by rw [← hW]; exact (Out.refl 0 0 _).alloc _
                      have fB : WSALOB.heap[bs]? = some (.cells #[.slice (some ⟨bA, 0, none⟩) (64 * n) (64 * n), .pointer (some ⟨tb, 0, none⟩), .map (some bO), .pointer (some ⟨l + 1, 0, none⟩), .pointer none, .pointer none, .pointer none, .pointer none, .pointer none, .pointer none, .pointer none, .pointer none, .map (some bS), .int .i64 0] 85) := by rw [← hW, ← hbs]; exact heap_alloc_new _ _
                      have s1b : WSALOB.heap.size = bs + 1 := by rw [← hW, ← hbs]; exact World.size_alloc _ _
                      have zz : bA < bs ∧ bO < bs ∧ bS < bs ∧ l + 2 ≤ bs := by rw [← hbs]; exact ⟨zA, zO, zS, zL⟩
                      replace fS := o1.heap fS (.inr (Nat.zero_le _))
                      replace zS := Nat.lt_of_lt_of_le zS o1.size
                      replace fA := o1.heap fA (.inr (Nat.zero_le _))
                      replace zA := Nat.lt_of_lt_of_le zA o1.size
                      replace fL := fL.quiet o1
                      replace zL := Nat.le_trans zL o1.size
                      replace fO := o1.heap fO (.inr (Nat.zero_le _))
                      replace zO := Nat.lt_of_lt_of_le zO o1.size
                      have O2 := O1.trans o1
                      (try rw [hW])
                      (try rw [hbs])
                      refine hK.out _ _ ?hS117 (fun hHeld2 => ?rest117)
                      case hS117 => trivial
                      clear hK KK
                      (try clear hHeld)
                      have hHeld := hHeld2
                      clear hHeld2
                      (try simp only [Act.put, List.getElem_toArray, List.getElem_cons_zero, List.getElem_cons_succ, List.setIfInBounds_toArray, List.set_cons_zero, List.set_cons_succ])
                      refine wpAnyH_take (i := 9) (v := ?v118) rfl (by kernel_rfl) (by kernel_rfl) (by kernel_rfl) (fun _ _ _ h => h) (Or.inl ⟨by rfl, ?hy118⟩) (by assumption) ?rest118
                      case hy118 => (intro w hSw; (try dsimp only at hSw); simp only [List.getElem_toArray, List.getElem_cons_zero, List.getElem_cons_succ]; go_simp; (try with_reducible rfl))
                      (try simp only [Act.put, List.getElem_toArray, List.getElem_cons_zero, List.getElem_cons_succ, List.setIfInBounds_toArray, List.set_cons_zero, List.set_cons_succ])
                      refine wpAnyH_done (by kernel_rfl) ?_ _
                      have hap : (bA ≠ bO ∧ bA ≠ bS ∧ bO ≠ bS ∧ (bA < l ∨ l + 2 ≤ bA) ∧ (bO < l ∨ l + 2 ≤ bO) ∧ (bS < l ∨ l + 2 ≤ bS)) := by omega
                      exact ⟨bA, bO, l, bS, bs, rfl, O2, fA, fO, fS, fL, fB, by have := O2.size; omega, zz, hap⟩
                    · exact AllReadyH.nil
                  · exact AllReadyH.nil
                · exact AllReadyH.nil
            · refine AllReadyH.cons rfl (fun KK hK => ?_) ?_
              · simp only [List.getElem_toArray, List.getElem_cons_zero, List.getElem_cons_succ]
                go_simp
                obtain ⟨bO, hbO⟩ : ∃ b, WS.heap.size = b := ⟨_, rfl⟩
                have gBO : w1.heap.size ≤ bO := by rw [← hbO]; exact O1.size
                have pSbO : bS < bO := by rw [← hbO]; exact zS
                obtain ⟨WSO, hW⟩ : ∃ W, WS.alloc (.map #[] 0) = W := ⟨_, rfl⟩
                have o1 : Out 0 0 WS WSO := by rw [← hW]; exact (Out.refl 0 0 _).alloc _
                have s1 : WSO.heap.size = bO + 1 := by rw [← hW, ← hbO]; exact World.size_alloc _ _
                have fO : WSO.heap[bO]? = some (.map #[] 0) := by rw [← hW, ← hbO]; exact heap_alloc_new _ _
                have zO : bO < WSO.heap.size := by omega
                replace fS := o1.heap fS (.inr (Nat.zero_le _))
                replace zS := Nat.lt_of_lt_of_le zS o1.size
                have O2 : Out 0 0 w1 WSO := O1.trans o1
                (try rw [hW])
                (try rw [hbO])
                (try clear O1)
                have O1 := O2
                clear O2 hW o1 s1 hbO
                refine hK.out _ _ ?hS119 (fun hHeld2 => ?rest119)
                case hS119 => trivial
                clear hK KK
                (try clear hHeld)
                have hHeld := hHeld2
                clear hHeld2
                (try simp only [Act.put, List.getElem_toArray, List.getElem_cons_zero, List.getElem_cons_succ, List.setIfInBounds_toArray, List.set_cons_zero, List.set_cons_succ])
                refine wpAnyH_ready (rs := [1, 5]) (by kernel_rfl) (by simp) ?_
                refine AllReadyH.cons rfl (fun KK hK => ?_) ?_
                · simp only [List.getElem_toArray, List.getElem_cons_zero, List.getElem_cons_succ]
                  go_simp
                  obtain ⟨bA, hbA⟩ : ∃ b, WSO.heap.size = b := ⟨_, rfl⟩
                  have gBA : w1.heap.size ≤ bA := by rw [← hbA]; exact O1.size
                  have pSbA : bS < bA := by rw [← hbA]; exact zS
                  have pObA : bO < bA := by rw [← hbA]; exact zO
                  obtain ⟨WSOA, hW⟩ : ∃ W, WSO.alloc (.cells (madeCells #[.int .i64 0] (64 * n)) 3) = W := ⟨_, rfl⟩
                  have o1 : Out 0 0 WSO WSOA := by rw [← hW]; exact (Out.refl 0 0 _).alloc _
                  have s1 : WSOA.heap.size = bA + 1 := by rw [← hW, ← hbA]; exact World.size_alloc _ _
                  have fA : WSOA.heap[bA]? = some (.cells (madeCells #[.int .i64 0] (64 * n)) 3) := by rw [← hW, ← hbA]; exact heap_alloc_new _ _
                  have zA : bA < WSOA.heap.size := by omega
                  replace fS := o1.heap fS (.inr (Nat.zero_le _))
                  replace zS := Nat.lt_of_lt_of_le zS o1.size
                  replace fO := o1.heap fO (.inr (Nat.zero_le _))
                  replace zO := Nat.lt_of_lt_of_le zO o1.size
                  have O2 : Out 0 0 w1 WSOA := O1.trans o1
                  (try rw [hW])
                  (try rw [hbA])
                  (try clear O1)
                  have O1 := O2
                  clear O2 hW o1 s1 hbA
                  refine hK.out _ _ ?hS120 (fun hHeld2 => ?rest120)
                  case hS120 => trivial
                  clear hK KK
                  (try clear hHeld)
                  have hHeld := hHeld2
                  clear hHeld2
                  (try simp only [Act.put, List.getElem_toArray, List.getElem_cons_zero, List.getElem_cons_succ, List.setIfInBounds_toArray, List.set_cons_zero, List.set_cons_succ])
                  refine wpAnyH_ready (rs := [5]) (by kernel_rfl) (by simp) ?_
                  refine AllReadyH.cons rfl (fun KK hK => ?_) ?_
                  · simp only [List.getElem_toArray, List.getElem_cons_zero, List.getElem_cons_succ]
                    go_simp
                    refine (HNone.out _ (HTab.out _ O1)).mono ?_
                    rintro e WSOAL ⟨rfl, fL, o1, s1⟩
                    obtain ⟨l, hl⟩ : ∃ l, WSOA.heap.size = l := ⟨_, rfl⟩
                    rw [hl] at fL s1
                    have gL : w1.heap.size ≤ l := by rw [← hl]; exact O1.size
                    have pSl : bS < l := by rw [← hl]; exact zS
                    have pOl : bO < l := by rw [← hl]; exact zO
                    have pAl : bA < l := by rw [← hl]; exact zA
                    have zL : l + 2 ≤ WSOAL.heap.size := by omega
                    replace fS := o1.heap fS (.inr (Nat.zero_le _))
                    replace zS := Nat.lt_of_lt_of_le zS o1.size
                    replace fO := o1.heap fO (.inr (Nat.zero_le _))
                    replace zO := Nat.lt_of_lt_of_le zO o1.size
                    replace fA := o1.heap fA (.inr (Nat.zero_le _))
                    replace zA := Nat.lt_of_lt_of_le zA o1.size
                    have O2 : Out 0 0 w1 WSOAL := O1.trans o1
                    (try rw [hl])
                    (try clear O1)
                    have O1 := O2
                    clear O2 o1 s1 hl
                    refine hK.out _ _ ?hS121 (fun hHeld2 => ?rest121)
                    case hS121 => trivial
                    clear hK KK
                    (try clear hHeld)
                    have hHeld := hHeld2
                    clear hHeld2
                    (try simp only [Act.put, List.getElem_toArray, List.getElem_cons_zero, List.getElem_cons_succ, List.setIfInBounds_toArray, List.set_cons_zero, List.set_cons_succ])
                    refine wpAnyH_take (i := 7) (v := ?v122) rfl (by kernel_rfl) (by kernel_rfl) (by kernel_rfl) (fun _ _ _ h => h) (Or.inl ⟨by rfl, ?hy122⟩) (by assumption) ?rest122
                    case hy122 => (intro w hSw; (try dsimp only at hSw); simp only [List.getElem_toArray, List.getElem_cons_zero, List.getElem_cons_succ]; go_simp; (try with_reducible rfl))
                    (try simp only [Act.put, List.getElem_toArray, List.getElem_cons_zero, List.getElem_cons_succ, List.setIfInBounds_toArray, List.set_cons_zero, List.set_cons_succ])
                    refine wpAnyH_ready (rs := [8]) (by kernel_rfl) (by simp) ?_
                    refine AllReadyH.cons rfl (fun KK hK => ?_) ?_
                    · simp only [List.getElem_toArray, List.getElem_cons_zero, List.getElem_cons_succ]
                      go_simp
                      obtain ⟨bs, hbs⟩ : ∃ b, WSOAL.heap.size = b := ⟨_, rfl⟩
                      obtain ⟨WSOALB, hW⟩ : ∃ W, WSOAL.alloc (.cells #[.slice (some ⟨bA, 0, none⟩) (64 * n) (64 * n), .pointer (some ⟨tb, 0, none⟩), .map (some bO), .pointer (some ⟨l + 1, 0, none⟩), .pointer none, .pointer none, .pointer none, .pointer none, .pointer none, .pointer none, .pointer none, .pointer none, .map (some bS), .int .i64 0] 85) = W := ⟨_, rfl⟩
                      have o1 : Out 0 0 WSOAL WSOALB := by rw [← hW]; exact (Out.refl 0 0 _).alloc _
                      have fB : WSOALB.heap[bs]? = some (.cells #[.slice (some ⟨bA, 0, none⟩) (64 * n) (64 * n), .pointer (some ⟨tb, 0, none⟩), .map (some bO), .pointer (some ⟨l + 1, 0, none⟩), .pointer none, .pointer none, .pointer none, .pointer none, .pointer none, .pointer none, .pointer none, .pointer none, .map (some bS), .int .i64 0] 85) := by rw [← hW, ← hbs]; exact heap_alloc_new _ _
                      have s1b : WSOALB.heap.size = bs + 1 := by rw [← hW, ← hbs]; exact World.size_alloc _ _
                      have zz : bA < bs ∧ bO < bs ∧ bS < bs ∧ l + 2 ≤ bs := by rw [← hbs]; exact ⟨zA, zO, zS, zL⟩
                      replace fS := o1.heap fS (.inr (Nat.zero_le _))
                      replace zS := Nat.lt_of_lt_of_le zS o1.size
                      replace fO := o1.heap fO (.inr (Nat.zero_le _))
                      replace zO := Nat.lt_of_lt_of_le zO o1.size
                      replace fA := o1.heap fA (.inr (Nat.zero_le _))
                      replace zA := Nat.lt_of_lt_of_le zA o1.size
                      replace fL := fL.quiet o1
                      replace zL := Nat.le_trans zL o1.size
                      have O2 := O1.trans o1
                      (try rw [hW])
                      (try rw [hbs])
                      refine hK.out _ _ ?hS123 (fun hHeld2 => ?rest123)
                      case hS123 => trivial
                      clear hK KK
                      (try clear hHeld)
                      have hHeld := hHeld2
                      clear hHeld2
                      (try simp only [Act.put, List.getElem_toArray, List.getElem_cons_zero, List.getElem_cons_succ, List.setIfInBounds_toArray, List.set_cons_zero, List.set_cons_succ])
                      refine wpAnyH_take (i := 9) (v := ?v124) rfl (by kernel_rfl) (by kernel_rfl) (by kernel_rfl) (fun _ _ _ h => h) (Or.inl ⟨by rfl, ?hy124⟩) (by assumption) ?rest124
                      case hy124 => (intro w hSw; (try dsimp only at hSw); simp only [List.getElem_toArray, List.getElem_cons_zero, List.getElem_cons_succ]; go_simp; (try with_reducible rfl))
                      (try simp only [Act.put, List.getElem_toArray, List.getElem_cons_zero, List.getElem_cons_succ, List.setIfInBounds_toArray, List.set_cons_zero, List.set_cons_succ])
                      refine wpAnyH_done (by kernel_rfl) ?_ _
                      have hap : (bA ≠ bO ∧ bA ≠ bS ∧ bO ≠ bS ∧ (bA < l ∨ l + 2 ≤ bA) ∧ (bO < l ∨ l + 2 ≤ bO) ∧ (bS < l ∨ l + 2 ≤ bS)) := by omega
                      exact ⟨bA, bO, l, bS, bs, rfl, O2, fA, fO, fS, fL, fB, by have := O2.size; omega, zz, hap⟩
                    · exact AllReadyH.nil
                  · exact AllReadyH.nil
                · refine AllReadyH.cons rfl (fun KK hK => ?_) ?_
                  · simp only [List.getElem_toArray, List.getElem_cons_zero, List.getElem_cons_succ]
                    go_simp
                    refine (HNone.out _ (HTab.out _ O1)).mono ?_
                    rintro e WSOL ⟨rfl, fL, o1, s1⟩
                    obtain ⟨l, hl⟩ : ∃ l, WSO.heap.size = l := ⟨_, rfl⟩
                    rw [hl] at fL s1
                    have gL : w1.heap.size ≤ l := by rw [← hl]; exact O1.size
                    have pSl : bS < l := by rw [← hl]; exact zS
                    have pOl : bO < l := by rw [← hl]; exact zO
                    have zL : l + 2 ≤ WSOL.heap.size := by omega
                    replace fS := o1.heap fS (.inr (Nat.zero_le _))
                    replace zS := Nat.lt_of_lt_of_le zS o1.size
                    replace fO := o1.heap fO (.inr (Nat.zero_le _))
                    replace zO := Nat.lt_of_lt_of_le zO o1.size
                    have O2 : Out 0 0 w1 WSOL := O1.trans o1
                    (try rw [hl])
                    (try clear O1)
                    have O1 := O2
                    clear O2 o1 s1 hl
                    refine hK.out _ _ ?hS125 (fun hHeld2 => ?rest125)
                    case hS125 => trivial
                    clear hK KK
                    (try clear hHeld)
                    have hHeld := hHeld2
                    clear hHeld2
                    (try simp only [Act.put, List.getElem_toArray, List.getElem_cons_zero, List.getElem_cons_succ, List.setIfInBounds_toArray, List.set_cons_zero, List.set_cons_succ])
                    refine wpAnyH_ready (rs := [1]) (by kernel_rfl) (by simp) ?_
                    refine AllReadyH.cons rfl (fun KK hK => ?_) ?_
                    · simp only [List.getElem_toArray, List.getElem_cons_zero, List.getElem_cons_succ]
                      go_simp
                      obtain ⟨bA, hbA⟩ : ∃ b, WSOL.heap.size = b := ⟨_, rfl⟩
                      have gBA : w1.heap.size ≤ bA := by rw [← hbA]; exact O1.size
                      have pSbA : bS < bA := by rw [← hbA]; exact zS
                      have pObA : bO < bA := by rw [← hbA]; exact zO
                      have pLbA : l + 2 ≤ bA := by rw [← hbA]; exact zL
                      obtain ⟨WSOLA, hW⟩ : ∃ W, WSOL.alloc (.cells (madeCells #[.int .i64 0] (64 * n)) 3) = W := ⟨_, rfl⟩
                      have o1 : Out 0 0 WSOL WSOLA := by rw [← hW]; exact (Out.refl 0 0 _).alloc _
                      have s1 : WSOLA.heap.size = bA + 1 := by rw [← hW, ← hbA]; exact World.size_alloc _ _
                      have fA : WSOLA.heap[bA]? = some (.cells (madeCells #[.int .i64 0] (64 * n)) 3) := by rw [← hW, ← hbA]; exact heap_alloc_new _ _
                      have zA : bA < WSOLA.heap.size := by omega
                      replace fS := o1.heap fS (.inr (Nat.zero_le _))
                      replace zS := Nat.lt_of_lt_of_le zS o1.size
                      replace fO := o1.heap fO (.inr (Nat.zero_le _))
                      replace zO := Nat.lt_of_lt_of_le zO o1.size
                      replace fL := fL.quiet o1
                      replace zL := Nat.le_trans zL o1.size
                      have O2 : Out 0 0 w1 WSOLA := O1.trans o1
                      (try rw [hW])
                      (try rw [hbA])
                      (try clear O1)
                      have O1 := O2
                      clear O2 hW o1 s1 hbA
                      refine hK.out _ _ ?hS126 (fun hHeld2 => ?rest126)
                      case hS126 => trivial
                      clear hK KK
                      (try clear hHeld)
                      have hHeld := hHeld2
                      clear hHeld2
                      (try simp only [Act.put, List.getElem_toArray, List.getElem_cons_zero, List.getElem_cons_succ, List.setIfInBounds_toArray, List.set_cons_zero, List.set_cons_succ])
                      refine wpAnyH_take (i := 7) (v := ?v127) rfl (by kernel_rfl) (by kernel_rfl) (by kernel_rfl) (fun _ _ _ h => h) (Or.inl ⟨by rfl, ?hy127⟩) (by assumption) ?rest127
                      case hy127 => (intro w hSw; (try dsimp only at hSw); simp only [List.getElem_toArray, List.getElem_cons_zero, List.getElem_cons_succ]; go_simp; (try with_reducible rfl))
                      (try simp only [Act.put, List.getElem_toArray, List.getElem_cons_zero, List.getElem_cons_succ, List.setIfInBounds_toArray, List.set_cons_zero, List.set_cons_succ])
                      refine wpAnyH_ready (rs := [8]) (by kernel_rfl) (by simp) ?_
                      refine AllReadyH.cons rfl (fun KK hK => ?_) ?_
                      · simp only [List.getElem_toArray, List.getElem_cons_zero, List.getElem_cons_succ]
                        go_simp
                        obtain ⟨bs, hbs⟩ : ∃ b, WSOLA.heap.size = b := ⟨_, rfl⟩
                        obtain ⟨WSOLAB, hW⟩ : ∃ W, WSOLA.alloc (.cells #[.slice (some ⟨bA, 0, none⟩) (64 * n) (64 * n), .pointer (some ⟨tb, 0, none⟩), .map (some bO), .pointer (some ⟨l + 1, 0, none⟩), .pointer none, .pointer none, .pointer none, .pointer none, .pointer none, .pointer none, .pointer none, .pointer none, .map (some bS), .int .i64 0] 85) = W := ⟨_, rfl⟩
                        have o1 : Out 0 0 WSOLA WSOLAB := by rw [← hW]; exact (Out.refl 0 0 _).alloc _
                        have fB : WSOLAB.heap[bs]? = some (.cells #[.slice (some ⟨bA, 0, none⟩) (64 * n) (64 * n), .pointer (some ⟨tb, 0, none⟩), .map (some bO), .pointer (some ⟨l + 1, 0, none⟩), .pointer none, .pointer none, .pointer none, .pointer none, .pointer none, .pointer none, .pointer none, .pointer none, .map (some bS), .int .i64 0] 85) := by rw [← hW, ← hbs]; exact heap_alloc_new _ _
                        have s1b : WSOLAB.heap.size = bs + 1 := by rw [← hW, ← hbs]; exact World.size_alloc _ _
                        have zz : bA < bs ∧ bO < bs ∧ bS < bs ∧ l + 2 ≤ bs := by rw [← hbs]; exact ⟨zA, zO, zS, zL⟩
                        replace fS := o1.heap fS (.inr (Nat.zero_le _))
                        replace zS := Nat.lt_of_lt_of_le zS o1.size
                        replace fO := o1.heap fO (.inr (Nat.zero_le _))
                        replace zO := Nat.lt_of_lt_of_le zO o1.size
                        replace fL := fL.quiet o1
                        replace zL := Nat.le_trans zL o1.size
                        replace fA := o1.heap fA (.inr (Nat.zero_le _))
                        replace zA := Nat.lt_of_lt_of_le zA o1.size
                        have O2 := O1.trans o1
                        (try rw [hW])
                        (try rw [hbs])
                        refine hK.out _ _ ?hS128 (fun hHeld2 => ?rest128)
                        case hS128 => trivial
                        clear hK KK
                        (try clear hHeld)
                        have hHeld := hHeld2
                        clear hHeld2
                        (try simp only [Act.put, List.getElem_toArray, List.getElem_cons_zero, List.getElem_cons_succ, List.setIfInBounds_toArray, List.set_cons_zero, List.set_cons_succ])
                        refine wpAnyH_take (i := 9) (v := ?v129) rfl (by kernel_rfl) (by kernel_rfl) (by kernel_rfl) (fun _ _ _ h => h) (Or.inl ⟨by rfl, ?hy129⟩) (by assumption) ?rest129
                        case hy129 => (intro w hSw; (try dsimp only at hSw); simp only [List.getElem_toArray, List.getElem_cons_zero, List.getElem_cons_succ]; go_simp; (try with_reducible rfl))
                        (try simp only [Act.put, List.getElem_toArray, List.getElem_cons_zero, List.getElem_cons_succ, List.setIfInBounds_toArray, List.set_cons_zero, List.set_cons_succ])
                        refine wpAnyH_done (by kernel_rfl) ?_ _
                        have hap : (bA ≠ bO ∧ bA ≠ bS ∧ bO ≠ bS ∧ (bA < l ∨ l + 2 ≤ bA) ∧ (bO < l ∨ l + 2 ≤ bO) ∧ (bS < l ∨ l + 2 ≤ bS)) := by omega
                        exact ⟨bA, bO, l, bS, bs, rfl, O2, fA, fO, fS, fL, fB, by have := O2.size; omega, zz, hap⟩
                      · exact AllReadyH.nil
                    · exact AllReadyH.nil
                  · exact AllReadyH.nil
              · refine AllReadyH.cons rfl (fun KK hK => ?_) ?_
                · simp only [List.getElem_toArray, List.getElem_cons_zero, List.getElem_cons_succ]
                  go_simp
                  refine (HNone.out _ (HTab.out _ O1)).mono ?_
                  rintro e WSL ⟨rfl, fL, o1, s1⟩
                  obtain ⟨l, hl⟩ : ∃ l, WS.heap.size = l := ⟨_, rfl⟩
                  rw [hl] at fL s1
                  have gL : w1.heap.size ≤ l := by rw [← hl]; exact O1.size
                  have pSl : bS < l := by rw [← hl]; exact zS
                  have zL : l + 2 ≤ WSL.heap.size := by omega
                  replace fS := o1.heap fS (.inr (Nat.zero_le _))
                  replace zS := Nat.lt_of_lt_of_le zS o1.size
                  have O2 : Out 0 0 w1 WSL := O1.trans o1
                  (try rw [hl])
                  (try clear O1)
                  have O1 := O2
                  clear O2 o1 s1 hl
                  refine hK.out _ _ ?hS130 (fun hHeld2 => ?rest130)
                  case hS130 => trivial
                  clear hK KK
                  (try clear hHeld)
                  have hHeld := hHeld2
                  clear hHeld2
                  (try simp only [Act.put, List.getElem_toArray, List.getElem_cons_zero, List.getElem_cons_succ, List.setIfInBounds_toArray, List.set_cons_zero, List.set_cons_succ])
                  refine wpAnyH_ready (rs := [1, 3]) (by kernel_rfl) (by simp) ?_
                  refine AllReadyH.cons rfl (fun KK hK => ?_) ?_
                  · simp only [List.getElem_toArray, List.getElem_cons_zero, List.getElem_cons_succ]
                    go_simp
                    obtain ⟨bA, hbA⟩ : ∃ b, WSL.heap.size = b := ⟨_, rfl⟩
                    have gBA : w1.heap.size ≤ bA := by rw [← hbA]; exact O1.size
                    have pSbA : bS < bA := by rw [← hbA]; exact zS
                    have pLbA : l + 2 ≤ bA := by rw [← hbA]; exact zL
                    obtain ⟨WSLA, hW⟩ : ∃ W, WSL.alloc (.cells (madeCells #[.int .i64 0] (64 * n)) 3) = W := ⟨_, rfl⟩
                    have o1 : Out 0 0 WSL WSLA := by rw [← hW]; exact (Out.refl 0 0 _).alloc _
                    have s1 : WSLA.heap.size = bA + 1 := by rw [← hW, ← hbA]; exact World.size_alloc _ _
                    have fA : WSLA.heap[bA]? = some (.cells (madeCells #[.int .i64 0] (64 * n)) 3) := by rw [← hW, ← hbA]; exact heap_alloc_new _ _
                    have zA : bA < WSLA.heap.size := by omega
                    replace fS := o1.heap fS (.inr (Nat.zero_le _))
                    replace zS := Nat.lt_of_lt_of_le zS o1.size
                    replace fL := fL.quiet o1
                    replace zL := Nat.le_trans zL o1.size
                    have O2 : Out 0 0 w1 WSLA := O1.trans o1
                    (try rw [hW])
                    (try rw [hbA])
                    (try clear O1)
                    have O1 := O2
                    clear O2 hW o1 s1 hbA
                    refine hK.out _ _ ?hS131 (fun hHeld2 => ?rest131)
                    case hS131 => trivial
                    clear hK KK
                    (try clear hHeld)
                    have hHeld := hHeld2
                    clear hHeld2
                    (try simp only [Act.put, List.getElem_toArray, List.getElem_cons_zero, List.getElem_cons_succ, List.setIfInBounds_toArray, List.set_cons_zero, List.set_cons_succ])
                    refine wpAnyH_ready (rs := [3]) (by kernel_rfl) (by simp) ?_
                    refine AllReadyH.cons rfl (fun KK hK => ?_) ?_
                    · simp only [List.getElem_toArray, List.getElem_cons_zero, List.getElem_cons_succ]
                      go_simp
                      obtain ⟨bO, hbO⟩ : ∃ b, WSLA.heap.size = b := ⟨_, rfl⟩
                      have gBO : w1.heap.size ≤ bO := by rw [← hbO]; exact O1.size
                      have pSbO : bS < bO := by rw [← hbO]; exact zS
                      have pLbO : l + 2 ≤ bO := by rw [← hbO]; exact zL
                      have pAbO : bA < bO := by rw [← hbO]; exact zA
                      obtain ⟨WSLAO, hW⟩ : ∃ W, WSLA.alloc (.map #[] 0) = W := ⟨_, rfl⟩
                      have o1 : Out 0 0 WSLA WSLAO := by rw [← hW]; exact (Out.refl 0 0 _).alloc _
                      have s1 : WSLAO.heap.size = bO + 1 := by rw [← hW, ← hbO]; exact World.size_alloc _ _
                      have fO : WSLAO.heap[bO]? = some (.map #[] 0) := by rw [← hW, ← hbO]; exact heap_alloc_new _ _
                      have zO : bO < WSLAO.heap.size := by omega
                      replace fS := o1.heap fS (.inr (Nat.zero_le _))
                      replace zS := Nat.lt_of_lt_of_le zS o1.size
                      replace fL := fL.quiet o1
                      replace zL := Nat.le_trans zL o1.size
                      replace fA := o1.heap fA (.inr (Nat.zero_le _))
                      replace zA := Nat.lt_of_lt_of_le zA o1.size
                      have O2 : Out 0 0 w1 WSLAO := O1.trans o1
                      (try rw [hW])
                      (try rw [hbO])
                      (try clear O1)
                      have O1 := O2
                      clear O2 hW o1 s1 hbO
                      refine hK.out _ _ ?hS132 (fun hHeld2 => ?rest132)
                      case hS132 => trivial
                      clear hK KK
                      (try clear hHeld)
                      have hHeld := hHeld2
                      clear hHeld2
                      (try simp only [Act.put, List.getElem_toArray, List.getElem_cons_zero, List.getElem_cons_succ, List.setIfInBounds_toArray, List.set_cons_zero, List.set_cons_succ])
                      refine wpAnyH_take (i := 7) (v := ?v133) rfl (by kernel_rfl) (by kernel_rfl) (by kernel_rfl) (fun _ _ _ h => h) (Or.inl ⟨by rfl, ?hy133⟩) (by assumption) ?rest133
                      case hy133 => (intro w hSw; (try dsimp only at hSw); simp only [List.getElem_toArray, List.getElem_cons_zero, List.getElem_cons_succ]; go_simp; (try with_reducible rfl))
                      (try simp only [Act.put, List.getElem_toArray, List.getElem_cons_zero, List.getElem_cons_succ, List.setIfInBounds_toArray, List.set_cons_zero, List.set_cons_succ])
                      refine wpAnyH_ready (rs := [8]) (by kernel_rfl) (by simp) ?_
                      refine AllReadyH.cons rfl (fun KK hK => ?_) ?_
                      · simp only [List.getElem_toArray, List.getElem_cons_zero, List.getElem_cons_succ]
                        go_simp
                        obtain ⟨bs, hbs⟩ : ∃ b, WSLAO.heap.size = b := ⟨_, rfl⟩
                        obtain ⟨WSLAOB, hW⟩ : ∃ W, WSLAO.alloc (.cells #[.slice (some ⟨bA, 0, none⟩) (64 * n) (64 * n), .pointer (some ⟨tb, 0, none⟩), .map (some bO), .pointer (some ⟨l + 1, 0, none⟩), .pointer none, .pointer none, .pointer none, .pointer none, .pointer none, .pointer none, .pointer none, .pointer none, .map (some bS), .int .i64 0] 85) = W := ⟨_, rfl⟩
                        have o1 : Out 0 0 WSLAO WSLAOB := by rw [← hW]; exact (Out.refl 0 0 _).alloc _
                        have fB : WSLAOB.heap[bs]? = some (.cells #[.slice (some ⟨bA, 0, none⟩) (64 * n) (64 * n), .pointer (some ⟨tb, 0, none⟩), .map (some bO), .pointer (some ⟨l + 1, 0, none⟩), .pointer none, .pointer none, .pointer none, .pointer none, .pointer none, .pointer none, .pointer none, .pointer none, .map (some bS), .int .i64 0] 85) := by rw [← hW, ← hbs]; exact heap_alloc_new _ _
                        have s1b : WSLAOB.heap.size = bs + 1 := by rw [← hW, ← hbs]; exact World.size_alloc _ _
                        have zz : bA < bs ∧ bO < bs ∧ bS < bs ∧ l + 2 ≤ bs := by rw [← hbs]; exact ⟨zA, zO, zS, zL⟩
                        replace fS := o1.heap fS (.inr (Nat.zero_le _))
                        replace zS := Nat.lt_of_lt_of_le zS o1.size
                        replace fL := fL.quiet o1
                        replace zL := Nat.le_trans zL o1.size
                        replace fA := o1.heap fA (.inr (Nat.zero_le _))
                        replace zA := Nat.lt_of_lt_of_le zA o1.size
                        replace fO := o1.heap fO (.inr (Nat.zero_le _))
                        replace zO := Nat.lt_of_lt_of_le zO o1.size
                        have O2 := O1.trans o1
                        (try rw [hW])
                        (try rw [hbs])
                        refine hK.out _ _ ?hS134 (fun hHeld2 => ?rest134)
                        case hS134 => trivial
                        clear hK KK
                        (try clear hHeld)
                        have hHeld := hHeld2
                        clear hHeld2
                        (try simp only [Act.put, List.getElem_toArray, List.getElem_cons_zero, List.getElem_cons_succ, List.setIfInBounds_toArray, List.set_cons_zero, List.set_cons_succ])
                        refine wpAnyH_take (i := 9) (v := ?v135) rfl (by kernel_rfl) (by kernel_rfl) (by kernel_rfl) (fun _ _ _ h => h) (Or.inl ⟨by rfl, ?hy135⟩) (by assumption) ?rest135
                        case hy135 => (intro w hSw; (try dsimp only at hSw); simp only [List.getElem_toArray, List.getElem_cons_zero, List.getElem_cons_succ]; go_simp; (try with_reducible rfl))
                        (try simp only [Act.put, List.getElem_toArray, List.getElem_cons_zero, List.getElem_cons_succ, List.setIfInBounds_toArray, List.set_cons_zero, List.set_cons_succ])
                        refine wpAnyH_done (by kernel_rfl) ?_ _
                        have hap : (bA ≠ bO ∧ bA ≠ bS ∧ bO ≠ bS ∧ (bA < l ∨ l + 2 ≤ bA) ∧ (bO < l ∨ l + 2 ≤ bO) ∧ (bS < l ∨ l + 2 ≤ bS)) := by omega
                        exact ⟨bA, bO, l, bS, bs, rfl, O2, fA, fO, fS, fL, fB, by have := O2.size; omega, zz, hap⟩
                      · exact AllReadyH.nil
                    · exact AllReadyH.nil
                  · refine AllReadyH.cons rfl (fun KK hK => ?_) ?_
                    · simp only [List.getElem_toArray, List.getElem_cons_zero, List.getElem_cons_succ]
                      go_simp
                      obtain ⟨bO, hbO⟩ : ∃ b, WSL.heap.size = b := ⟨_, rfl⟩
                      have gBO : w1.heap.size ≤ bO := by rw [← hbO]; exact O1.size
                      have pSbO : bS < bO := by rw [← hbO]; exact zS
                      have pLbO : l + 2 ≤ bO := by rw [← hbO]; exact zL
                      obtain ⟨WSLO, hW⟩ : ∃ W, WSL.alloc (.map #[] 0) = W := ⟨_, rfl⟩
                      have o1 : Out 0 0 WSL WSLO := by rw [← hW]; exact (Out.refl 0 0 _).alloc _
                      have s1 : WSLO.heap.size = bO + 1 := by rw [← hW, ← hbO]; exact World.size_alloc _ _
                      have fO : WSLO.heap[bO]? = some (.map #[] 0) := by rw [← hW, ← hbO]; exact heap_alloc_new _ _
                      have zO : bO < WSLO.heap.size := by omega
                      replace fS := o1.heap fS (.inr (Nat.zero_le _))
                      replace zS := Nat.lt_of_lt_of_le zS o1.size
                      replace fL := fL.quiet o1
                      replace zL := Nat.le_trans zL o1.size
                      have O2 : Out 0 0 w1 WSLO := O1.trans o1
                      (try rw [hW])
                      (try rw [hbO])
                      (try clear O1)
                      have O1 := O2
                      clear O2 hW o1 s1 hbO
                      refine hK.out _ _ ?hS136 (fun hHeld2 => ?rest136)
                      case hS136 => trivial
                      clear hK KK
                      (try clear hHeld)
                      have hHeld := hHeld2
                      clear hHeld2
                      (try simp only [Act.put, List.getElem_toArray, List.getElem_cons_zero, List.getElem_cons_succ, List.setIfInBounds_toArray, List.set_cons_zero, List.set_cons_succ])
                      refine wpAnyH_ready (rs := [1]) (by kernel_rfl) (by simp) ?_
                      refine AllReadyH.cons rfl (fun KK hK => ?_) ?_
                      · simp only [List.getElem_toArray, List.getElem_cons_zero, List.getElem_cons_succ]
                        go_simp
                        obtain ⟨bA, hbA⟩ : ∃ b, WSLO.heap.size = b := ⟨_, rfl⟩
                        have gBA : w1.heap.size ≤ bA := by rw [← hbA]; exact O1.size
                        have pSbA : bS < bA := by rw [← hbA]; exact zS
                        have pLbA : l + 2 ≤ bA := by rw [← hbA]; exact zL
                        have pObA : bO < bA := by rw [← hbA]; exact zO
                        obtain ⟨WSLOA, hW⟩ : ∃ W, WSLO.alloc (.cells (madeCells #[.int .i64 0] (64 * n)) 3) = W := ⟨_, rfl⟩
                        have o1 : Out 0 0 WSLO WSLOA := by rw [← hW]; exact (Out.refl 0 0 _).alloc _
                        have s1 : WSLOA.heap.size = bA + 1 := by rw [← hW, ← hbA]; exact World.size_alloc _ _
                        have fA : WSLOA.heap[bA]? = some (.cells (madeCells #[.int .i64 0] (64 * n)) 3) := by rw [← hW, ← hbA]; exact heap_alloc_new _ _
                        have zA : bA < WSLOA.heap.size := by omega
                        replace fS := o1.heap fS (.inr (Nat.zero_le _))
                        replace zS := Nat.lt_of_lt_of_le zS o1.size
                        replace fL := fL.quiet o1
                        replace zL := Nat.le_trans zL o1.size
                        replace fO := o1.heap fO (.inr (Nat.zero_le _))
                        replace zO := Nat.lt_of_lt_of_le zO o1.size
                        have O2 : Out 0 0 w1 WSLOA := O1.trans o1
                        (try rw [hW])
                        (try rw [hbA])
                        (try clear O1)
                        have O1 := O2
                        clear O2 hW o1 s1 hbA
                        refine hK.out _ _ ?hS137 (fun hHeld2 => ?rest137)
                        case hS137 => trivial
                        clear hK KK
                        (try clear hHeld)
                        have hHeld := hHeld2
                        clear hHeld2
                        (try simp only [Act.put, List.getElem_toArray, List.getElem_cons_zero, List.getElem_cons_succ, List.setIfInBounds_toArray, List.set_cons_zero, List.set_cons_succ])
                        refine wpAnyH_take (i := 7) (v := ?v138) rfl (by kernel_rfl) (by kernel_rfl) (by kernel_rfl) (fun _ _ _ h => h) (Or.inl ⟨by rfl, ?hy138⟩) (by assumption) ?rest138
                        case hy138 => (intro w hSw; (try dsimp only at hSw); simp only [List.getElem_toArray, List.getElem_cons_zero, List.getElem_cons_succ]; go_simp; (try with_reducible rfl))
                        (try simp only [Act.put, List.getElem_toArray, List.getElem_cons_zero, List.getElem_cons_succ, List.setIfInBounds_toArray, List.set_cons_zero, List.set_cons_succ])
                        refine wpAnyH_ready (rs := [8]) (by kernel_rfl) (by simp) ?_
                        refine AllReadyH.cons rfl (fun KK hK => ?_) ?_
                        · simp only [List.getElem_toArray, List.getElem_cons_zero, List.getElem_cons_succ]
                          go_simp
                          obtain ⟨bs, hbs⟩ : ∃ b, WSLOA.heap.size = b := ⟨_, rfl⟩
                          obtain ⟨WSLOAB, hW⟩ : ∃ W, WSLOA.alloc (.cells #[.slice (some ⟨bA, 0, none⟩) (64 * n) (64 * n), .pointer (some ⟨tb, 0, none⟩), .map (some bO), .pointer (some ⟨l + 1, 0, none⟩), .pointer none, .pointer none, .pointer none, .pointer none, .pointer none, .pointer none, .pointer none, .pointer none, .map (some bS), .int .i64 0] 85) = W := ⟨_, rfl⟩
                          have o1 : Out 0 0 WSLOA WSLOAB := by rw [← hW]; exact (Out.refl 0 0 _).alloc _
                          have fB : WSLOAB.heap[bs]? = some (.cells #[.slice (some ⟨bA, 0, none⟩) (64 * n) (64 * n), .pointer (some ⟨tb, 0, none⟩), .map (some bO), .pointer (some ⟨l + 1, 0, none⟩), .pointer none, .pointer none, .pointer none, .pointer none, .pointer none, .pointer none, .pointer none, .pointer none, .map (some bS), .int .i64 0] 85) := by rw [← hW, ← hbs]; exact heap_alloc_new _ _
                          have s1b : WSLOAB.heap.size = bs + 1 := by rw [← hW, ← hbs]; exact World.size_alloc _ _
                          have zz : bA < bs ∧ bO < bs ∧ bS < bs ∧ l + 2 ≤ bs := by rw [← hbs]; exact ⟨zA, zO, zS, zL⟩
                          replace fS := o1.heap fS (.inr (Nat.zero_le _))
                          replace zS := Nat.lt_of_lt_of_le zS o1.size
                          replace fL := fL.quiet o1
                          replace zL := Nat.le_trans zL o1.size
                          replace fO := o1.heap fO (.inr (Nat.zero_le _))
                          replace zO := Nat.lt_of_lt_of_le zO o1.size
                          replace fA := o1.heap fA (.inr (Nat.zero_le _))
                          replace zA := Nat.lt_of_lt_of_le zA o1.size
                          have O2 := O1.trans o1
                          (try rw [hW])
                          (try rw [hbs])
                          refine hK.out _ _ ?hS139 (fun hHeld2 => ?rest139)
                          case hS139 => trivial
                          clear hK KK
                          (try clear hHeld)
                          have hHeld := hHeld2
                          clear hHeld2
                          (try simp only [Act.put, List.getElem_toArray, List.getElem_cons_zero, List.getElem_cons_succ, List.setIfInBounds_toArray, List.set_cons_zero, List.set_cons_succ])
                          refine wpAnyH_take (i := 9) (v := ?v140) rfl (by kernel_rfl) (by kernel_rfl) (by kernel_rfl) (fun _ _ _ h => h) (Or.inl ⟨by rfl, ?hy140⟩) (by assumption) ?rest140
                          case hy140 => (intro w hSw; (try dsimp only at hSw); simp only [List.getElem_toArray, List.getElem_cons_zero, List.getElem_cons_succ]; go_simp; (try with_reducible rfl))
                          (try simp only [Act.put, List.getElem_toArray, List.getElem_cons_zero, List.getElem_cons_succ, List.setIfInBounds_toArray, List.set_cons_zero, List.set_cons_succ])
                          refine wpAnyH_done (by kernel_rfl) ?_ _
                          have hap : (bA ≠ bO ∧ bA ≠ bS ∧ bO ≠ bS ∧ (bA < l ∨ l + 2 ≤ bA) ∧ (bO < l ∨ l + 2 ≤ bO) ∧ (bS < l ∨ l + 2 ≤ bS)) := by omega
                          exact ⟨bA, bO, l, bS, bs, rfl, O2, fA, fO, fS, fL, fB, by have := O2.size; omega, zz, hap⟩
                        · exact AllReadyH.nil
                      · exact AllReadyH.nil
                    · exact AllReadyH.nil
                · exact AllReadyH.nil
          · exact AllReadyH.nil
  · rintro a W ⟨bA, bO, l, bS, bs, rfl, l1, l2, l3, l4, l5, l6, l7, l8, l9⟩
    have HL := hid_mk (And.intro l1 (And.intro l2 (And.intro l3 (And.intro l4 (And.intro l5 (And.intro l7 (And.intro l8 l9)))))))
    have HB := hid_mk l6
    have HTb2 := hid_mk (HTb.out.quiet l1)
    have HTabW : Hid (∀ w', Out bs (bs + 1) W w' → Tab w') := fun w' o => (HTab.out _ l1).kept o (.inl (by have := (HTab.out _ (Out.refl 0 0 w1)).lt; omega))
    clear l1 l2 l3 l4 l5 l6 l7 l8 l9
    go_wp2_with fail
    go_loopw [28] (fun u wr => ∃ i : Nat, u = .int .i64 (i : Int) ∧ i ≤ 8 ∧ ∃ (f : Nat → Nat) (C : Array Value), wr.heap[bs]? = some (.cells C 85) ∧ C.size = 14 ∧ (∀ j, j < 14 → C[j]? = some (cellN bA tb bO l bS n i f j)) ∧
      (∀ c, c < i → MapAt wr (f c) (f c + 2) (f c + 1) (64 * n) (fun _ => false)) ∧ (∀ c, c < i → bs + 1 ≤ f c ∧ f c + 2 ≤ wr.heap.size) ∧ (∀ c d, c < d → d < i → f c + 2 ≤ f d) ∧ Out bs (bs + 1) W wr) (fun u _ => (8 - intOf u).toNat)
    case atStart =>
      refine ⟨0, rfl, by omega, fun _ => 0, _, HB.out, rfl, fun j hj => ?_, fun c hc => by omega, fun c hc => by omega, fun c d _ hd => by omega, Out.refl _ _ _⟩
      unfold cellN
      rw [if_neg (by omega)]
      exact base_at hj
    case round =>
      obtain ⟨i, rfl, i8, f, C, r1, r2, r3, r4, r5, r6, r7⟩ := hrel
      have HO := hid_mk r7
      by_cases hlt : i < 8
      · have k0 : (0 : Int) ≤ (i : Int) := by omega
        have k1 : (i : Int) < 8 := by omega
        have HR := hid_mk (And.intro r1 (And.intro r2 (And.intro r3 (And.intro r4 (And.intro r5 r6)))))
        have hC := r1
        have d0 : wr.cell? ⟨bs, 4 + i, none⟩ = some (.pointer none) := by
          have := r3 (4 + i) (by omega)
          unfold cellN at this
          rw [if_neg (by omega)] at this
          simp only [World.cell?, r1, this]
          have : i = 0 ∨ i = 1 ∨ i = 2 ∨ i = 3 ∨ i = 4 ∨ i = 5 ∨ i = 6 ∨ i = 7 := by omega
          rcases this with rfl | rfl | rfl | rfl | rfl | rfl | rfl | rfl <;> rfl
        have d1 : wr.frozen? ⟨bs, 4 + i, none⟩ = false := by simp [World.frozen?, r1]
        clear r1 r2 r3 r4 r5 r6 r7
        go_wp2_with fail
        refine wp_region_held_drew (S := fun _ => True) (by kernel_rfl) ?hS141 (fun hHeld => ?rest141)
        case hS141 => trivial
        refine wpAnyH_take (i := 0) (v := ?v142) rfl (by kernel_rfl) (by kernel_rfl) (by kernel_rfl) (fun _ _ _ h => h) (Or.inl ⟨by rfl, ?hy142⟩) (by assumption) ?rest142
        case hy142 => (intro w hSw; (try dsimp only at hSw); simp only [List.getElem_toArray, List.getElem_cons_zero, List.getElem_cons_succ]; go_simp; (try with_reducible rfl))
        (try simp only [Act.put, List.getElem_toArray, List.getElem_cons_zero, List.getElem_cons_succ, List.setIfInBounds_toArray, List.set_cons_zero, List.set_cons_succ])
        refine wpAnyH_take (i := 1) (v := ?v143) rfl (by kernel_rfl) (by kernel_rfl) (by kernel_rfl) (fun _ _ _ h => h) (Or.inl ⟨by rfl, ?hy143⟩) (by assumption) ?rest143
        case hy143 => (intro w hSw; (try dsimp only at hSw); simp only [List.getElem_toArray, List.getElem_cons_zero, List.getElem_cons_succ]; go_simp; (try with_reducible rfl))
        (try simp only [Act.put, List.getElem_toArray, List.getElem_cons_zero, List.getElem_cons_succ, List.setIfInBounds_toArray, List.set_cons_zero, List.set_cons_succ])
        refine wpAnyH_take (i := 2) (v := ?v144) rfl (by kernel_rfl) (by kernel_rfl) (by kernel_rfl) (fun _ _ _ h => h) (Or.inl ⟨by rfl, ?hy144⟩) (by assumption) ?rest144
        case hy144 => (intro w hSw; (try dsimp only at hSw); simp only [List.getElem_toArray, List.getElem_cons_zero, List.getElem_cons_succ]; go_simp; (try with_reducible rfl))
        (try simp only [Act.put, List.getElem_toArray, List.getElem_cons_zero, List.getElem_cons_succ, List.setIfInBounds_toArray, List.set_cons_zero, List.set_cons_succ])
        refine wpAnyH_take (i := 4) (v := ?v145) rfl (by kernel_rfl) (by kernel_rfl) (by kernel_rfl) (fun _ _ _ h => h) (Or.inl ⟨by rfl, ?hy145⟩) (by assumption) ?rest145
        case hy145 => (intro w hSw; (try dsimp only at hSw); simp only [List.getElem_toArray, List.getElem_cons_zero, List.getElem_cons_succ]; go_simp; (try with_reducible rfl))
        (try simp only [Act.put, List.getElem_toArray, List.getElem_cons_zero, List.getElem_cons_succ, List.setIfInBounds_toArray, List.set_cons_zero, List.set_cons_succ])
        refine wpAnyH_take (i := 5) (v := ?v146) rfl (by kernel_rfl) (by kernel_rfl) (by kernel_rfl) (fun _ _ _ h => h) (Or.inl ⟨by rfl, ?hy146⟩) (by assumption) ?rest146
        case hy146 => (intro w hSw; (try dsimp only at hSw); simp only [List.getElem_toArray, List.getElem_cons_zero, List.getElem_cons_succ]; go_simp; (try with_reducible rfl))
        (try simp only [Act.put, List.getElem_toArray, List.getElem_cons_zero, List.getElem_cons_succ, List.setIfInBounds_toArray, List.set_cons_zero, List.set_cons_succ])
        refine wpAnyH_ready (rs := [3]) (by kernel_rfl) (by simp) ?_
        refine AllReadyH.cons rfl (fun KK hK => ?_) AllReadyH.nil
        simp only [List.getElem_toArray, List.getElem_cons_zero, List.getElem_cons_succ]
        go_simp
        refine (HNone.out _ (HTabW.out _ (HO.out.drew))).mono ?_
        rintro e w5 ⟨rfl, fL, o5, s5⟩
        obtain ⟨l5, hl5⟩ : ∃ l, wr.drew.heap.size = l := ⟨_, rfl⟩
        rw [hl5] at fL s5
        try rw [hl5]
        have c5 := (o5.heap hC (.inr (Nat.zero_le _)))
        have d5 := o5.cell d0 (.inr (Nat.zero_le _))
        have e5 : w5.frozen? ⟨bs, 4 + i, none⟩ = false := by simp [World.frozen?, c5]
        refine hK.out _ _ ?hS147 (fun hHeld2 => ?rest147)
        case hS147 => trivial
        clear hK KK
        (try clear hHeld)
        have hHeld := hHeld2
        clear hHeld2
        (try simp only [Act.put, List.getElem_toArray, List.getElem_cons_zero, List.getElem_cons_succ, List.setIfInBounds_toArray, List.set_cons_zero, List.set_cons_succ])
        refine wpAnyH_take (i := 6) (v := ?v148) rfl (by kernel_rfl) (by kernel_rfl) (by kernel_rfl) (fun _ _ _ h => h) (Or.inl ⟨by rfl, ?hy148⟩) (by assumption) ?rest148
        case hy148 => (intro w hSw; (try dsimp only at hSw); simp only [List.getElem_toArray, List.getElem_cons_zero, List.getElem_cons_succ]; go_simp; (try with_reducible rfl))
        (try simp only [Act.put, List.getElem_toArray, List.getElem_cons_zero, List.getElem_cons_succ, List.setIfInBounds_toArray, List.set_cons_zero, List.set_cons_succ])
        refine wpAnyH_ready (rs := [7]) (by kernel_rfl) (by simp) ?_
        refine AllReadyH.cons rfl (fun KK hK => ?_) AllReadyH.nil
        simp only [List.getElem_toArray, List.getElem_cons_zero, List.getElem_cons_succ]
        go_simp
        refine hK.out _ _ ?hS149 (fun hHeld2 => ?rest149)
        case hS149 => trivial
        clear hK KK
        (try clear hHeld)
        have hHeld := hHeld2
        clear hHeld2
        (try simp only [Act.put, List.getElem_toArray, List.getElem_cons_zero, List.getElem_cons_succ, List.setIfInBounds_toArray, List.set_cons_zero, List.set_cons_succ])
        refine wpAnyH_done (by kernel_rfl) ?_ _
        clear hHeld
        have H5 := hid_mk (And.intro fL (And.intro o5 (And.intro s5 c5)))
        clear fL o5 s5 c5 d5 e5 d0 d1 hC
        go_wp2
        go_roundw
        case rel =>
          obtain ⟨r1, r2, r3, r4, r5, r6⟩ := HR.out
          obtain ⟨x1, x2, x3, x4⟩ := H5.out
          have hz := HL.out.2.2.2.2.2.1
          have hlz : wr.heap.size = l5 := hl5
          have hW : bs + 1 ≤ wr.heap.size := by have := HO.out.size; omega
          have ho6 : Out bs (bs + 1) w5 (w5.setCell ⟨bs, 4 + i, none⟩ (.pointer (some ⟨l5 + 1, 0, none⟩))) := (Out.refl _ _ _).setCell (.inl ⟨Nat.le_refl _, Nat.lt_succ_self _⟩) _
          have hg := (HTabW.out _ HO.out).lt
          have hz2 := HL.out.2.2.2.2.2.2.1
          have hgb : 4 ≤ bs := by have := (HTab.out _ (Out.refl 0 0 w1)).lt; omega
          refine ⟨i + 1, by go_num, by omega, fun c => if c = i then l5 else f c, C.setIfInBounds (4 + i) (.pointer (some ⟨l5 + 1, 0, none⟩)), ?_, by simpa using r2, ?_, ?_, ?_, ?_, ?_⟩
          · simp [World.setCell, Array.getElem?_modify, x4]
          · intro j hj
            rw [Array.getElem?_setIfInBounds]
            unfold cellN
            by_cases e : 4 + i = j
            · subst e
              rw [if_pos rfl, if_pos (by omega), if_pos (by omega)]
              simp [show 4 + i - 4 = i from by omega]
            · rw [if_neg e]
              have := r3 j hj
              unfold cellN at this
              rw [this]
              by_cases e2 : 4 ≤ j ∧ j < 4 + i
              · rw [if_pos e2, if_pos ⟨e2.1, by omega⟩]
                simp [show ¬ (j - 4 = i) from by omega]
              · rw [if_neg e2, if_neg (by omega)]
          · intro c hc
            by_cases e : c = i
            · simp only [e, if_true]
              exact x1.kept ho6 (.inr (by omega)) (.inl hgb)
            · simp only [e, if_false]
              have := r5 c (by omega)
              exact (((r4 c (by omega)).quiet ((Out.refl 0 0 _).drew)).quiet x2).kept ho6 (.inr (by omega)) (.inl hgb)
          · intro c hc
            have hs6 := ho6.size
            by_cases e : c = i
            · simp only [e, if_true]; omega
            · simp only [e, if_false]
              have := r5 c (by omega)
              have := x2.size
              have e9 : wr.drew.heap.size = wr.heap.size := rfl
              omega
          · intro c d hcd hd
            by_cases e : d = i
            · have e2 : c ≠ i := by omega
              simp only [e, e2, if_true, if_false]
              have := r5 c (by omega)
              omega
            · have e2 : c ≠ i := by omega
              simp only [e, e2, if_false]
              exact r6 c d hcd (by omega)
          · exact (HO.out.drew.trans (x2.any _ _)).trans ho6
        case measure => simp [intOf]; omega
      · have e : i = 8 := by omega
        subst e
        clear hlt i8
        go_wp2
        go_ret2
        obtain ⟨y1, y2, y3, y4, y5, y6, y7, y8⟩ := HL.out
        have hS1 := HS1.out
        have hB := HTB.out
        have hsz := HO.out.size
        have hNw := HN.out
        have hTw := HT0.out.lt
        have hO1 := HO1.out.size
        have hyz := y1.size
        have hgb : 4 ≤ bs := by omega
        refine ⟨fun i => if i < 8 then f i else if i = 8 then l else if i = 9 then tb else if i = 10 then w.heap.size else if i = 11 then bA else if i = 12 then bO else if i = 13 then bS else bs, 64 * n, rfl, ?_, ?_⟩
        · refine ⟨hTw, Nat.le_refl _, ?_, ?_, hNw.1, hNw.2, Nat.le_refl _, HTabW.out _ HO.out, ?_, ?_, ?_, ?_, ?_, ?_, ?_⟩
          · intro i hi
            by_cases e8 : i < 8
            · have := r5 i e8
              simp only [e8, if_true, ln, show i < 9 from by omega]
              omega
            · have : i = 8 ∨ i = 9 ∨ i = 10 ∨ i = 11 ∨ i = 12 ∨ i = 13 ∨ i = 14 := by omega
              rcases this with rfl | rfl | rfl | rfl | rfl | rfl | rfl <;> simp [ln] <;> omega
          · intro i j hi hj hne
            by_cases e8 : i < 8
            · have q5 := r5 i e8
              by_cases f8 : j < 8
              · simp only [e8, f8, if_true, ln, show i < 9 from by omega, show j < 9 from by omega]
                rcases Nat.lt_or_gt_of_ne hne with h | h
                · exact .inl (r6 i j h f8)
                · exact .inr (r6 j i h e8)
              · have : j = 8 ∨ j = 9 ∨ j = 10 ∨ j = 11 ∨ j = 12 ∨ j = 13 ∨ j = 14 := by omega
                rcases this with rfl | rfl | rfl | rfl | rfl | rfl | rfl <;> simp [ln, e8, show i < 9 from by omega] <;> omega
            · by_cases f8 : j < 8
              · have q5 := r5 j f8
                have : i = 8 ∨ i = 9 ∨ i = 10 ∨ i = 11 ∨ i = 12 ∨ i = 13 ∨ i = 14 := by omega
                rcases this with rfl | rfl | rfl | rfl | rfl | rfl | rfl <;> simp [ln, f8, show j < 9 from by omega] <;> omega
              · have hi' : i = 8 ∨ i = 9 ∨ i = 10 ∨ i = 11 ∨ i = 12 ∨ i = 13 ∨ i = 14 := by omega
                have hj' : j = 8 ∨ j = 9 ∨ j = 10 ∨ j = 11 ∨ j = 12 ∨ j = 13 ∨ j = 14 := by omega
                rcases hi' with rfl | rfl | rfl | rfl | rfl | rfl | rfl <;> rcases hj' with rfl | rfl | rfl | rfl | rfl | rfl | rfl <;> first | exact absurd rfl hne | (simp [ln]; omega)
          · rw [show (if (14 : Nat) < 8 then f 14 else if (14 : Nat) = 8 then l else if (14 : Nat) = 9 then tb else if (14 : Nat) = 10 then w.heap.size else if (14 : Nat) = 11 then bA else if (14 : Nat) = 12 then bO else if (14 : Nat) = 13 then bS else bs) = bs from rfl, r1]
            congr 2
            apply Array.ext
            · rw [r2]; rfl
            · intro j hj1 hj2
              have hj : j < 14 := by rw [r2] at hj1; exact hj1
              have := r3 j hj
              rw [Array.getElem?_eq_getElem hj1] at this
              rw [Option.some.inj this]
              have hc : j = 0 ∨ j = 1 ∨ j = 2 ∨ j = 3 ∨ j = 4 ∨ j = 5 ∨ j = 6 ∨ j = 7 ∨ j = 8 ∨ j = 9 ∨ j = 10 ∨ j = 11 ∨ j = 12 ∨ j = 13 := by omega
              rcases hc with rfl | rfl | rfl | rfl | rfl | rfl | rfl | rfl | rfl | rfl | rfl | rfl | rfl | rfl <;> rfl
          · show Row wr bA 3 (64 * n) (fun _ => .int .i64 0)
            exact ⟨_, HO.out.heap y2 (by omega), by rw [size_madeCells]; simp, fun i hi => made1 hi⟩
          · show TblAt 126 wr tb w.heap.size n _
            exact (HTb2.out.kept HO.out (by omega) (by omega))
          · show MpAt wr bO _
            exact ⟨#[], 0, HO.out.heap y3 (by omega), Go.MapKept.stamped_empty 0, by simp, by simp [mapM]⟩
          · show MpAt wr bS _
            exact ⟨#[], 0, HO.out.heap y4 (by omega), Go.MapKept.stamped_empty 0, by simp, by simp [mapR]⟩
          · show MapAt wr l (l + 2) (l + 1) _ _
            exact y5.kept HO.out (.inl (by omega)) (.inl hgb)
          · intro c hc
            have := r4 c hc
            simpa [hc] using this
        · exact (HO1.out.trans y1).past HO.out (by omega)
def newSp : Sp := ⟨fun _ => 0, fun _ => (0, 0, 0), fun _ => noB, 0⟩
theorem inv_new {n : Nat} (h1 : 1 ≤ n) (h2 : n ≤ 4096) : Inv n newSp := by
  have hno : ∀ a, hasB (newSp.O a) = false := fun a => rfl
  refine ⟨h1, h2, good_free n, ?_, fun a _ => rfl, ?_, Int.le_refl _, ?_, ?_⟩
  · intro a h; rw [hno] at h; cases h
  · intro p _ h; exact absurd (show (0 : Int) = 2 from h) (by decide)
  · intro a h; rw [hno] at h; cases h
  · intro a b h; rw [hno] at h; cases h
theorem raw_new (n : Nat) : (⟨fun _ => 0, fun _ => (0, 0, 0), fun _ _ => false, fun _ => false, fun _ => none, fun _ => none, 0⟩ : Raw) = rawOf n newSp := by
  refine Raw.eq rfl rfl ?_ ?_ ?_ ?_ rfl
  · funext c i
    show false = fr n newSp (c : Int) i
    unfold fr
    have : (newSp.S (i / 64) == (1, (c : Int), 0)) = false := by show (((0 : Int), (0 : Int), (0 : Int)) == (1, (c : Int), 0)) = false; simp
    rw [this]; simp
  · funext i
    show false = ob n newSp i
    unfold ob
    have : hasB (newSp.O i) = false := rfl
    rw [this]; simp
  · funext i
    show none = obM newSp i
    unfold obM
    have : hasB (newSp.O i.toNat) = false := rfl
    rw [this]; simp
  · funext x
    show none = serM n newSp x
    unfold serM serF
    split
    · rw [find_range_none (fun q _ => by have : hasB (newSp.O q) = false := rfl; rw [this]; rfl)]; rfl
    · rfl
theorem spNew_any {w : World} (hT : Tab w) (n : Nat) (h1 : 1 ≤ n) (h2 : n ≤ 4096) :
    Calls Tryz.prog 14 #[.int .i64 n] w fun e w' => ∃ s cap, e = .returned (.tuple #[.pointer (some ⟨s 14, 0, none⟩), .int .i64 0]) ∧ SpAt w' w.heap.size w'.heap.size s n cap newSp ∧ Out 0 0 w w' := by
  refine (spNew_yes hT n h1 h2).mono ?_
  rintro e w' ⟨s, cap, rfl, hr, ho⟩
  exact ⟨s, cap, rfl, ⟨by rw [← raw_new]; exact hr, inv_new h1 h2⟩, ho⟩
end Go.Proofs.YtjbbkeoolodeaaaGreatDoor
