import Derived.Test.YtjbbkeoolodeaabGreatDoorA31
import Derived.Test.YtjbbkeoolodeaabGreatDoorA15
namespace Go.Proofs.YtjbbkeoolodeaabGreatDoor
open Go.RowKit
set_option linter.unusedVariables false
set_option maxRecDepth 100000
set_option maxHeartbeats 16000000
set_option linter.unusedSimpArgs false
theorem made5 {i k : Nat} (h : i < k) : (madeCells #[Value.int .i64 0, .int .i64 0, .int .i64 0, .int .i64 0, .int .i64 0] k)[i]? = some (.int .i64 0) := by
 have : i % 5 = 0 ∨ i % 5 = 1 ∨ i % 5 = 2 ∨ i % 5 = 3 ∨ i % 5 = 4 := by omega
 simp [madeCells, h]; rcases this with e | e | e | e | e <;> simp [e]
theorem j1q (m : Nat) (hm : m ≤ 262144) : ∃ cur : Array Value, (∀ i, i < m * 5 → cur[i]? = some (.int .i64 0)) ∧ cur.size = m * 5 ∧ ∀ w : World, (Instr.makeSlice 70 (.int .i64 (m : Int)) (.int .i64 (m : Int))).run Tryz.prog w = .ok (.slice (some ⟨w.heap.size, 0, none⟩) m m) (w.alloc (.cells cur 97)) := by
 obtain ⟨i0, hi, hz0, hz1, hz2⟩ := Q3 z6s; refine ⟨madeCells #[Value.int .i64 0, .int .i64 0, .int .i64 0, .int .i64 0, .int .i64 0] (m * 5), fun i h => made5 h, size_madeCells _ _, fun w => ?_⟩; have := run_make (P := Tryz.prog) w 70 97 i0 _ Tryz.underlying70 hi hz0 .i64 .i64 (m : Int) (m : Int) (by omega) (Int.le_refl _) (by rw [hz2]; omega) (by omega); rw [this, hz1]; simp [Value.cells]
theorem j1y (m : Nat) (hm : m ≤ 262144) : ∃ cur : Array Value, (∀ i, i < m → cur[i]? = some (.int .i64 0)) ∧ cur.size = m ∧ ∀ w : World, (Instr.makeSlice 30 (.int .i64 (m : Int)) (.int .i64 (m : Int))).run Tryz.prog w = .ok (.slice (some ⟨w.heap.size, 0, none⟩) m m) (w.alloc (.cells cur 3)) :=
 ⟨madeCells #[Value.int .i64 0] m, fun i h => x0q h, size_madeCells _ _, fun w => run_make_row' (P := Tryz.prog) 30 3 (.int .i64 0) 8 Tryz.underlying30 (by kernel_rfl) rfl .i64 .i64 m (by omega) (by omega) w⟩
def rfS (bs bA tb tw bO : Nat) (i : Nat) : Nat := if i = 0 then bs else if i = 1 then bA else if i = 2 then tb else if i = 3 then tw else bO
theorem j6x {W : World} {lo n M bs bA tb tw bO : Nat} {cA cO : Array Value} (hM : 64 * n = M) (h1 : 1 ≤ n) (h2 : n ≤ 4096) (hg : 4 ≤ lo)
  (hi : (lo ≤ bs ∧ lo ≤ bA ∧ lo ≤ tb ∧ lo ≤ tw ∧ lo ≤ bO) ∧ (bs < W.heap.size ∧ bA < bs ∧ tb < bs ∧ tw < bs ∧ bO < bs)) (hne : bA ≠ bO ∧ tb < bA ∧ tw < bA ∧ tb < bO ∧ tw < bO ∧ tb ≠ tw)
  (fB : W.heap[bs]? = some (.cells #[.slice (some ⟨bA, 0, none⟩) M M, .pointer (some ⟨tb, 0, none⟩), .slice (some ⟨bO, 0, none⟩) M M, .int .i64 0] 74))
  (fA : W.heap[bA]? = some (.cells cA 3)) (fO : W.heap[bO]? = some (.cells cO 97)) (aA : ∀ i, i < M → cA[i]? = some (.int .i64 0)) (sA : cA.size = M) (aO : ∀ i, i < M * 5 → cO[i]? = some (.int .i64 0)) (sO : cO.size = M * 5)
  (ht : TblAt 130 W tb tw n (fun _ => (0, 0, 0))) : RfAt W lo W.heap.size (rfS bs bA tb tw bO) n (64 * n) (64 * n) newSp := by
 subst hM; refine ⟨h1, h2, Nat.le_refl _, hg, ?_, ?_, fB, ⟨cA, fA, by omega, fun i hi => aA i hi⟩, ht, ⟨cO, fO, by omega, fun i hi => ?_⟩⟩
 ·intro i hi5; have : i = 0 ∨ i = 1 ∨ i = 2 ∨ i = 3 ∨ i = 4 := by omega
  rcases this with rfl | rfl | rfl | rfl | rfl <;> simp [rfS] <;> omega
 ·intro i j hi5 hj5; have a : i = 0 ∨ i = 1 ∨ i = 2 ∨ i = 3 ∨ i = 4 := by omega
  have b : j = 0 ∨ j = 1 ∨ j = 2 ∨ j = 3 ∨ j = 4 := by omega
  rcases a with rfl | rfl | rfl | rfl | rfl <;> rcases b with rfl | rfl | rfl | rfl | rfl <;> simp [rfS] <;> omega
 ·rw [aO i hi]
  show _ = some (Value.int .i64 (obC newSp i))
  unfold obC; rfl
theorem q7m (n : Int) (h : j2u n = false) (w : World) : Calls Tryz.prog 16 #[.int .i64 n] w fun e w' => e = .returned (.tuple #[.pointer none, .int .i64 1]) ∧ w' = w := by
 have HP := Z0 (fun w => j2n n h w); clear h; go_enter Tryz.func16, Tryz.ntmps16
 go_wp2_with (go_at_call 54; refine Z5 (HP.out _) ?_); go_ret2; exact ⟨rfl, rfl⟩
theorem q4z {w : World} (hg : 4 ≤ w.heap.size) (n : Nat) (h1 : 1 ≤ n) (h2 : n ≤ 4096) :
  Calls Tryz.prog 16 #[.int .i64 n] w fun e w' => ∃ s, e = .returned (.tuple #[.pointer (some ⟨s 0, 0, none⟩), .int .i64 0]) ∧ RfAt w' w.heap.size w'.heap.size s n (64 * n) (64 * n) newSp ∧ Out 0 0 w w' := by
 have HP := Z0 (q8l hg n h1 h2); obtain ⟨M, hM⟩ : ∃ M, 64 * n = M := ⟨_, rfl⟩
 obtain ⟨cA, aA, sA, hmA⟩ := j1y M (by omega); obtain ⟨cO, aO, sO, hmO⟩ := j1q M (by omega); have b0 : (1 : Int) ≤ (n : Int) := by omega
 have b1 : (n : Int) ≤ 4096 := by omega
 have e4 : ((0 : Int) != 0) = false := rfl; have hcm : (n : Int) * 64 = (M : Int) := by omega
 have HF := Z0 (And.intro aA (And.intro sA (And.intro aO (And.intro sO (And.intro hM (And.intro h1 (And.intro h2 hg))))))); clear aA sA aO sO hM h1 h2 hg; go_enter Tryz.func16, Tryz.ntmps16
 go_wp2_with (first | (go_at_call 54; refine HP.out.mono ?_; rintro e w1 ⟨rfl, ht, ho, hs⟩; have HTb := Z0 ht; have HO1 := Z0 ho; have HS1 := Z0 hs; clear ht ho hs)); obtain ⟨tb, htb⟩ : ∃ tb, w.heap.size + 1 = tb := ⟨_, rfl⟩
 rw [htb] at HTb ⊢; have HTB := Z0 htb; clear htb; refine wp_region_held_drew (S := fun _ => True) (by kernel_rfl) ?hS1 (fun hHeld => ?rest1)
 case hS1 => trivial
 clear hHeld; obtain ⟨Z, hZ⟩ : ∃ Z, w1.drew = Z := ⟨_, rfl⟩
 have OZ : Out 0 0 w1 Z := by rw [← hZ]; exact (Out.refl 0 0 w1).drew
 rw [hZ]; clear hZ; have hHeld : (fun (_ : World) => True) Z := trivial; refine tk 0 ?_; refine tk 2 ?_; refine tk 3 ?_; refine rd2 1 4 (fun KK hK => ?_) fun KK hK => ?_
 ·simp only [xa, xb, xc]; go_simp; obtain ⟨bA, hbA⟩ : ∃ b, Z.heap.size = b := ⟨_, rfl⟩
  have gbA : w1.heap.size ≤ bA := by rw [← hbA]; exact OZ.size
  obtain ⟨WA, hW⟩ : ∃ W, Z.alloc (.cells cA 3) = W := ⟨_, rfl⟩
  have o1 : Out 0 0 Z WA := by rw [← hW]; exact (Out.refl 0 0 _).alloc _
  have fA : WA.heap[bA]? = some (.cells cA 3) := by rw [← hW, ← hbA]; exact heap_alloc_new _ _
  have zA : bA < WA.heap.size := by rw [← hW, ← hbA, World.size_alloc]; exact Nat.lt_succ_self _
  have O2 : Out 0 0 w1 WA := OZ.trans o1; (try rw [hW]); (try rw [hbA]); (try clear O1); have O1 := O2; clear O2 hW o1 hbA; refine hK.out _ _ ?hS5 (fun hHeld2 => ?rest5)
  case hS5 => trivial
  clear hK KK; replace hHeld := hHeld2; clear hHeld2; refine rd1 4 fun KK hK => ?_
  simp only [xa, xb, xc]; go_simp; obtain ⟨bO, hbO⟩ : ∃ b, WA.heap.size = b := ⟨_, rfl⟩
  have gbO : w1.heap.size ≤ bO := by rw [← hbO]; exact O1.size
  have pAbO : bA < bO := by rw [← hbO]; exact zA
  obtain ⟨WAO, hW⟩ : ∃ W, WA.alloc (.cells cO 97) = W := ⟨_, rfl⟩
  have o1 : Out 0 0 WA WAO := by rw [← hW]; exact (Out.refl 0 0 _).alloc _
  have fO : WAO.heap[bO]? = some (.cells cO 97) := by rw [← hW, ← hbO]; exact heap_alloc_new _ _
  have zO : bO < WAO.heap.size := by rw [← hW, ← hbO, World.size_alloc]; exact Nat.lt_succ_self _
  replace fA := o1.heap fA z0; replace zA := Nat.lt_of_lt_of_le zA o1.size; have O2 : Out 0 0 w1 WAO := O1.trans o1; (try rw [hW]); (try rw [hbO]); (try clear O1); have O1 := O2; clear O2 hW o1 hbO; refine hK.out _ _ ?hS6 (fun hHeld2 => ?rest6)
  case hS6 => trivial
  clear hK KK; replace hHeld := hHeld2; clear hHeld2; refine tk 5 ?_; refine rd1 6 fun KK hK => ?_
  simp only [xa, xb, xc]; go_simp; obtain ⟨bs, hbs⟩ : ∃ b, WAO.heap.size = b := ⟨_, rfl⟩
  have gbs : w1.heap.size ≤ bs := by rw [← hbs]; exact O1.size
  have pAbs : bA < bs := by rw [← hbs]; exact zA
  have pObs : bO < bs := by rw [← hbs]; exact zO
  obtain ⟨WAOB, hW⟩ : ∃ W, WAO.alloc (.cells #[.slice (some ⟨bA, 0, none⟩) M M, .pointer (some ⟨tb, 0, none⟩), .slice (some ⟨bO, 0, none⟩) M M, .int .i64 0] 74) = W := ⟨_, rfl⟩
  have o1 : Out 0 0 WAO WAOB := by rw [← hW]; exact (Out.refl 0 0 _).alloc _
  have fB : WAOB.heap[bs]? = some (.cells #[.slice (some ⟨bA, 0, none⟩) M M, .pointer (some ⟨tb, 0, none⟩), .slice (some ⟨bO, 0, none⟩) M M, .int .i64 0] 74) := by rw [← hW, ← hbs]; exact heap_alloc_new _ _
  have zB : bs < WAOB.heap.size := by rw [← hW, ← hbs, World.size_alloc]; exact Nat.lt_succ_self _
  replace fA := o1.heap fA z0; replace zA := Nat.lt_of_lt_of_le zA o1.size; replace fO := o1.heap fO z0; replace zO := Nat.lt_of_lt_of_le zO o1.size; have O2 : Out 0 0 w1 WAOB := O1.trans o1; (try rw [hW]); (try rw [hbs]); (try clear O1); have O1 := O2; clear O2 hW o1 hbs; refine hK.out _ _ ?hS8 (fun hHeld2 => ?rest8)
  case hS8 => trivial
  clear hK KK; replace hHeld := hHeld2; clear hHeld2; refine tk 7 ?_; refine tk 8 ?_; refine dn ?_; clear hHeld; have HX := Z0 (And.intro O1 (And.intro fA (And.intro fO (And.intro fB zB)))); clear O1 fA fO fB zB; go_wp2; go_ret2; obtain ⟨O1, fA, fO, fB, zB⟩ := HX.out; obtain ⟨aA, sA, aO, sO, hM, h1, h2, hg⟩ := HF.out; have hs := HS1.out; have hb := HTB.out; have hsz := O1.size; refine ⟨rfS bs bA tb w.heap.size bO, rfl, j6x hM h1 h2 hg ⟨by omega, by omega⟩ (by omega) fB fA fO aA sA aO sO (HTb.out.quiet O1), HO1.out.trans O1⟩
 ·simp only [xa, xb, xc]; go_simp; obtain ⟨bO, hbO⟩ : ∃ b, Z.heap.size = b := ⟨_, rfl⟩
  have gbO : w1.heap.size ≤ bO := by rw [← hbO]; exact OZ.size
  obtain ⟨WO, hW⟩ : ∃ W, Z.alloc (.cells cO 97) = W := ⟨_, rfl⟩
  have o1 : Out 0 0 Z WO := by rw [← hW]; exact (Out.refl 0 0 _).alloc _
  have fO : WO.heap[bO]? = some (.cells cO 97) := by rw [← hW, ← hbO]; exact heap_alloc_new _ _
  have zO : bO < WO.heap.size := by rw [← hW, ← hbO, World.size_alloc]; exact Nat.lt_succ_self _
  have O2 : Out 0 0 w1 WO := OZ.trans o1; (try rw [hW]); (try rw [hbO]); (try clear O1); have O1 := O2; clear O2 hW o1 hbO; refine hK.out _ _ ?hS11 (fun hHeld2 => ?rest11)
  case hS11 => trivial
  clear hK KK; replace hHeld := hHeld2; clear hHeld2; refine rd1 1 fun KK hK => ?_
  simp only [xa, xb, xc]; go_simp; obtain ⟨bA, hbA⟩ : ∃ b, WO.heap.size = b := ⟨_, rfl⟩
  have gbA : w1.heap.size ≤ bA := by rw [← hbA]; exact O1.size
  have pObA : bO < bA := by rw [← hbA]; exact zO
  obtain ⟨WOA, hW⟩ : ∃ W, WO.alloc (.cells cA 3) = W := ⟨_, rfl⟩
  have o1 : Out 0 0 WO WOA := by rw [← hW]; exact (Out.refl 0 0 _).alloc _
  have fA : WOA.heap[bA]? = some (.cells cA 3) := by rw [← hW, ← hbA]; exact heap_alloc_new _ _
  have zA : bA < WOA.heap.size := by rw [← hW, ← hbA, World.size_alloc]; exact Nat.lt_succ_self _
  replace fO := o1.heap fO z0; replace zO := Nat.lt_of_lt_of_le zO o1.size; have O2 : Out 0 0 w1 WOA := O1.trans o1; (try rw [hW]); (try rw [hbA]); (try clear O1); have O1 := O2; clear O2 hW o1 hbA; refine hK.out _ _ ?hS12 (fun hHeld2 => ?rest12)
  case hS12 => trivial
  clear hK KK; replace hHeld := hHeld2; clear hHeld2; refine tk 5 ?_; refine rd1 6 fun KK hK => ?_
  simp only [xa, xb, xc]; go_simp; obtain ⟨bs, hbs⟩ : ∃ b, WOA.heap.size = b := ⟨_, rfl⟩
  have gbs : w1.heap.size ≤ bs := by rw [← hbs]; exact O1.size
  have pObs : bO < bs := by rw [← hbs]; exact zO
  have pAbs : bA < bs := by rw [← hbs]; exact zA
  obtain ⟨WOAB, hW⟩ : ∃ W, WOA.alloc (.cells #[.slice (some ⟨bA, 0, none⟩) M M, .pointer (some ⟨tb, 0, none⟩), .slice (some ⟨bO, 0, none⟩) M M, .int .i64 0] 74) = W := ⟨_, rfl⟩
  have o1 : Out 0 0 WOA WOAB := by rw [← hW]; exact (Out.refl 0 0 _).alloc _
  have fB : WOAB.heap[bs]? = some (.cells #[.slice (some ⟨bA, 0, none⟩) M M, .pointer (some ⟨tb, 0, none⟩), .slice (some ⟨bO, 0, none⟩) M M, .int .i64 0] 74) := by rw [← hW, ← hbs]; exact heap_alloc_new _ _
  have zB : bs < WOAB.heap.size := by rw [← hW, ← hbs, World.size_alloc]; exact Nat.lt_succ_self _
  replace fO := o1.heap fO z0; replace zO := Nat.lt_of_lt_of_le zO o1.size; replace fA := o1.heap fA z0; replace zA := Nat.lt_of_lt_of_le zA o1.size; have O2 : Out 0 0 w1 WOAB := O1.trans o1; (try rw [hW]); (try rw [hbs]); (try clear O1); have O1 := O2; clear O2 hW o1 hbs; refine hK.out _ _ ?hS14 (fun hHeld2 => ?rest14)
  case hS14 => trivial
  clear hK KK; replace hHeld := hHeld2; clear hHeld2; refine tk 7 ?_; refine tk 8 ?_; refine dn ?_; clear hHeld; have HX := Z0 (And.intro O1 (And.intro fA (And.intro fO (And.intro fB zB)))); clear O1 fA fO fB zB; go_wp2; go_ret2; obtain ⟨O1, fA, fO, fB, zB⟩ := HX.out; obtain ⟨aA, sA, aO, sO, hM, h1, h2, hg⟩ := HF.out; have hs := HS1.out; have hb := HTB.out; have hsz := O1.size; refine ⟨rfS bs bA tb w.heap.size bO, rfl, j6x hM h1 h2 hg ⟨by omega, by omega⟩ (by omega) fB fA fO aA sA aO sO (HTb.out.quiet O1), HO1.out.trans O1⟩
end Go.Proofs.YtjbbkeoolodeaabGreatDoor
