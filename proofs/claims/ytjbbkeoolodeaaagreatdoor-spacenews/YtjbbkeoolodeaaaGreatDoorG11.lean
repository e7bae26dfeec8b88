import Derived.Test.YtjbbkeoolodeaaaGreatDoorG08
import Derived.Test.YtjbbkeoolodeaaaGreatDoorG10
namespace Go.Proofs.YtjbbkeoolodeaaaGreatDoor
open Go.RowKit
set_option linter.unusedVariables false
set_option linter.unusedSimpArgs false

theorem elem_ints : Tryz.prog.elem 27 = 3 := by kernel_rfl
theorem size_int (w : World) : (sizeOf 3).run Tryz.prog w = .ok 1 w := by kernel_rfl
theorem islice_at (bw n cap lo hi : Nat) (h1 : lo ≤ hi) (h2 : hi ≤ cap) : ∃ o cp : Nat, (∀ wx, (Instr.slice 27 (.slice (some ⟨bw, 0, none⟩) n cap) (some (.int .i64 (lo : Int))) (some (.int .i64 (hi : Int))) none).run Tryz.prog wx = .ok (.slice (some ⟨bw, o, none⟩) (hi - lo) cp) wx) ∧ (0 < hi - lo → o = lo) := by
  by_cases e : cap = lo
  · refine ⟨0, cap - lo, fun wx => ?_, fun h => by omega⟩
    rw [run_slice_lh wx 27 _ n cap (by rw [elem_ints]; exact Tryz.underlying27) .i64 .i64 (lo : Int) (hi : Int) (by omega) (by omega) (by omega), elem_ints, size_int]
    simp [Result.andThen, sliced, e]
  · refine ⟨lo, cap - lo, fun wx => ?_, fun h => rfl⟩
    rw [run_slice_lh wx 27 _ n cap (by rw [elem_ints]; exact Tryz.underlying27) .i64 .i64 (lo : Int) (hi : Int) (by omega) (by omega) (by omega), elem_ints, size_int]
    have e2 : (⟨bw, 0, none⟩ : Addr).add lo = ⟨bw, lo, none⟩ := by rw [Addr.add_lit, Nat.zero_add]
    simp [Result.andThen, sliced, e, e2]
section
variable {w : World} {lo hi n cap : Nat} {s : Nat → Nat} {r : Raw}
theorem RawAt.clear (h : RawAt w lo hi s n cap r) {a k o cp : Nat} (hk : a + k ≤ 64 * n) (ho : 0 < k → o = a) :
    ∃ w', (∀ ty, (Builtin.clear_ #[27] ty #[.slice (some ⟨s 11, o, none⟩) k cp]).run Tryz.prog w = .ok (.tuple #[]) w') ∧ RawAt w' lo hi s n cap { r with W := zeroW r.W a k } ∧ Out (s 11) (s 11 + 1) w w' := by
  by_cases h0 : 0 < k
  · obtain rfl := ho h0
    have hO : Out (s 11) (s 11 + 1) w (w.setCells (s 11) o (List.replicate k (.int .i64 0))) := Out.setAll ⟨Nat.le_refl _, Nat.lt_succ_self _⟩ _ _ _ _ _ (Out.refl _ _ _)
    refine ⟨w.setCells (s 11) o (List.replicate k (.int .i64 0)), fun ty => Lib.run_clear_slice w 27 3 ty (.int .i64 0) Tryz.underlying27 zero_int rfl rfl (s 11) o k cp h0 (fun j hj => by rw [h.words.cell (i := o + j) (by omega)]; rfl) (fun j hj => h.words.frozen _), h.setW hO ((Row.fillAll _ _ _ _ _ h.words).congr fun i hi => ?_), hO⟩
    unfold zeroW
    by_cases e : o ≤ i ∧ i < o + k
    · rw [if_pos e, if_pos e]
    · rw [if_neg e, if_neg e]
  · obtain rfl : k = 0 := by omega
    refine ⟨w, fun ty => by simp [Builtin.clear_, run_underlying Tryz.underlying27], ?_, Out.refl _ _ _⟩
    have : zeroW r.W a 0 = r.W := by funext i; unfold zeroW; rw [if_neg (by omega)]
    rw [this]; exact h
/-- the blocks of the page that are among the first i -/
def fuF (r : Raw) (c p i : Nat) : Nat → Bool := fun j => r.F c j || (decide (j / 64 = p ∧ (j % 64) % wN (c : Int) = 0 ∧ (j % 64) / wN (c : Int) < i) && !r.P j)
def fuR (r : Raw) (c p : Nat) : Nat → Bool := fun j => r.F c j || (decide (j / 64 = p) && startB (c : Int) (j % 64) && !r.P j)
theorem class_nums {c : Nat} (hc : c < 8) : ∃ x y : Nat, wordsV (c : Int) = x ∧ wN (c : Int) = x ∧ blocksV (c : Int) = y ∧ ((c = 0 ∧ x = 2 ∧ y = 32) ∨ (c = 1 ∧ x = 4 ∧ y = 16) ∨ (c = 2 ∧ x = 6 ∧ y = 10) ∨ (c = 3 ∧ x = 8 ∧ y = 8) ∨ (c = 4 ∧ x = 12 ∧ y = 5) ∨ (c = 5 ∧ x = 16 ∧ y = 4) ∨ (c = 6 ∧ x = 20 ∧ y = 3) ∨ (c = 7 ∧ x = 32 ∧ y = 2)) := by
  have : c = 0 ∨ c = 1 ∨ c = 2 ∨ c = 3 ∨ c = 4 ∨ c = 5 ∨ c = 6 ∨ c = 7 := by omega
  rcases this with rfl | rfl | rfl | rfl | rfl | rfl | rfl | rfl
  · exact ⟨2, 32, rfl, rfl, rfl, by omega⟩
  · exact ⟨4, 16, rfl, rfl, rfl, by omega⟩
  · exact ⟨6, 10, rfl, rfl, rfl, by omega⟩
  · exact ⟨8, 8, rfl, rfl, rfl, by omega⟩
  · exact ⟨12, 5, rfl, rfl, rfl, by omega⟩
  · exact ⟨16, 4, rfl, rfl, rfl, by omega⟩
  · exact ⟨20, 3, rfl, rfl, rfl, by omega⟩
  · exact ⟨32, 2, rfl, rfl, rfl, by omega⟩
theorem start_iff {c : Nat} (hc : c < 8) {o : Nat} (ho : o < 64) : startB (c : Int) o = decide (o % wN (c : Int) = 0 ∧ o / wN (c : Int) < (blocksV (c : Int)).toNat) := by
  obtain ⟨x, y, h1, h2, h3, h4⟩ := class_nums hc
  unfold startB
  rw [h2, h3, Bool.eq_iff_iff]
  simp
  intro hm
  rcases h4 with ⟨_, rfl, rfl⟩ | ⟨_, rfl, rfl⟩ | ⟨_, rfl, rfl⟩ | ⟨_, rfl, rfl⟩ | ⟨_, rfl, rfl⟩ | ⟨_, rfl, rfl⟩ | ⟨_, rfl, rfl⟩ | ⟨_, rfl, rfl⟩ <;> omega
theorem fu_zero (r : Raw) (c p : Nat) : fuF r c p 0 = r.F c := by funext j; unfold fuF; simp
theorem fu_end (r : Raw) {c : Nat} (hc : c < 8) (p : Nat) : fuF r c p (blocksV (c : Int)).toNat = fuR r c p := by
  funext j
  unfold fuF fuR
  rw [start_iff hc (show j % 64 < 64 from by omega)]
  congr 2
  rw [Bool.eq_iff_iff]
  simp
/-- the next block -/
theorem fu_step (r : Raw) {c : Nat} (hc : c < 8) (p i : Nat) (hi : (i : Int) < blocksV (c : Int)) : ∃ a : Nat, 64 * p + i * wN (c : Int) = a ∧ a < 64 * p + 64 ∧ startV (c : Int) (i : Int) = ((i * wN (c : Int) : Nat) : Int) ∧
    fuF r c p (i + 1) = (fun j => if j = a then (fuF r c p i a || !r.P a) else fuF r c p i j) := by
  obtain ⟨x, y, h1, h2, h3, h4⟩ := class_nums hc
  have hix : i * x + x ≤ 64 ∧ 2 ≤ x := by
    rw [h3] at hi
    rcases h4 with ⟨_, rfl, rfl⟩ | ⟨_, rfl, rfl⟩ | ⟨_, rfl, rfl⟩ | ⟨_, rfl, rfl⟩ | ⟨_, rfl, rfl⟩ | ⟨_, rfl, rfl⟩ | ⟨_, rfl, rfl⟩ | ⟨_, rfl, rfl⟩ <;> omega
  refine ⟨64 * p + i * x, by rw [h2], by omega, ?_, ?_⟩
  · unfold startV
    rw [if_pos ⟨by omega, hi⟩, h1, h2]; simp
  · have hq : ∀ j : Nat, (j / 64 = p ∧ (j % 64) % x = 0 ∧ (j % 64) / x = i) ↔ j = 64 * p + i * x := by
      intro j
      have hd := Nat.div_add_mod (j % 64) x
      constructor
      · rintro ⟨e1, e2, e3⟩
        rw [e3, e2, Nat.add_zero, Nat.mul_comm x i] at hd
        clear e2 e3
        generalize i * x = t at *
        omega
      · intro e
        have e4 : j % 64 = i * x := by omega
        refine ⟨by omega, by rw [e4]; exact Nat.mul_mod_left _ _, by rw [e4]; exact Nat.mul_div_cancel _ (by omega)⟩
    funext j
    unfold fuF
    rw [h2]
    by_cases e : j = 64 * p + i * x
    · rw [if_pos e, ← e]
      have := (hq j).2 e
      have e5 : decide (j / 64 = p ∧ (j % 64) % x = 0 ∧ (j % 64) / x < i + 1) = true := by simp; omega
      have e6 : decide (j / 64 = p ∧ (j % 64) % x = 0 ∧ (j % 64) / x < i) = false := by simp; omega
      rw [e5, e6]
      cases r.F c j <;> cases r.P j <;> rfl
    · rw [if_neg e]
      have e5 : decide (j / 64 = p ∧ (j % 64) % x = 0 ∧ (j % 64) / x < i + 1) = decide (j / 64 = p ∧ (j % 64) % x = 0 ∧ (j % 64) / x < i) := by
        rw [Bool.eq_iff_iff]
        simp
        intro e1 e2
        have : ¬ ((j % 64) / x = i) := fun e3 => e ((hq j).1 ⟨e1, e2, e3⟩)
        omega
      rw [e5]
set_option maxRecDepth 100000 in
set_option maxHeartbeats 2000000 in
theorem freeUp_any (h : RawAt w lo hi s n cap r) {c p : Nat} (hc : c < 8) (hp : p < n) :
    Calls Tryz.prog 160 #[.pointer (some ⟨s 14, 0, none⟩), .int .i64 (p : Int), .int .i64 (c : Int)] w fun e w' => (∃ v, e = .returned v) ∧ RawAt w' lo hi s n cap { r with F := fun d => if d = c then fuR r c p else r.F d } ∧ Out lo hi w w' := by
  have HC := hid_mk hc
  have HP := hid_mk hp
  have HR := hid_mk h
  have HN : Hid (n ≤ 4096) := h.n2
  have HB := hid_mk (calls_out (blocks_any (c : Int) w) (Out.refl 0 0 w))
  obtain ⟨y, hy⟩ : ∃ y : Nat, blocksV (c : Int) = y := by obtain ⟨x, y, h1, h2, h3, h4⟩ := class_nums hc; exact ⟨y, h3⟩
  rw [hy] at HB
  have k0 : (0 : Int) ≤ (p : Int) := by omega
  have k1 : (p : Int) < 4096 := by have := h.n2; omega
  have k2 : (0 : Int) ≤ (c : Int) := by omega
  have k3 : (c : Int) < 8 := by omega
  have k4 : (y : Int) ≤ 32 := by obtain ⟨x, y', h1, h2, h3, h4⟩ := class_nums hc; omega
  have HY := hid_mk hy
  clear h hc hp hy
  go_enter Tryz.func160, Tryz.ntmps160
  go_wp2_with (first | (go_at_call 144; refine HB.out.mono ?_; rintro e w1 ⟨rfl, ho⟩))
  have HR1 := hid_mk (HR.out.quiet ho)
  have HO1 := hid_mk ho
  clear ho
  go_loopw [10] (fun u wr => ∃ i : Nat, u = .int .i64 (i : Int) ∧ i ≤ y ∧ RawAt wr lo hi s n cap { r with F := fun d => if d = c then fuF r c p i else r.F d } ∧ Out lo hi w wr) (fun u _ => ((y : Int) - intOf u).toNat)
  case atStart =>
    refine ⟨0, rfl, Nat.zero_le _, HR1.out.congr ?_, HO1.out.any _ _⟩
    refine Raw.eq rfl rfl ?_ rfl rfl rfl rfl
    funext d
    show r.F d = if d = c then fuF r c p 0 else r.F d
    by_cases e : d = c
    · rw [if_pos e, fu_zero, e]
    · rw [if_neg e]
  case round =>
    clear HR1 HO1 HB HR
    obtain ⟨i, rfl, i1, i2, i3⟩ := hrel
    have HR2 := hid_mk i2
    have HO2 := hid_mk i3
    by_cases hlt : (i : Int) < (y : Int)
    · obtain ⟨a, e1, e2, e3, e4⟩ := fu_step r HC.out p i (by rw [HY.out]; exact hlt)
      have j0 : (0 : Int) ≤ (i : Int) := by omega
      have HS := hid_mk (calls_out (start_any (c : Int) (i : Int) wr) (Out.refl 0 0 wr))
      rw [e3] at HS
      obtain ⟨q, hq⟩ : ∃ q : Nat, i * wN (c : Int) = q := ⟨_, rfl⟩
      rw [hq] at HS e1
      have m0 : (0 : Int) ≤ (q : Int) := by omega
      have m1 : (q : Int) < 64 := by omega
      have m2 : (p : Int) * 64 + (q : Int) = (a : Int) := by omega
      have HA : Hid (a < 64 * n) := by show _ < _; have := HP.out; omega
      have HE4 := hid_mk e4
      have HM2 := hid_mk m2
      clear i2 i3 e1 e2 e3 e4 hq m2
      go_wp2_with (first
        | (go_at_call 165; refine HS.out.mono ?_; rintro e w2 ⟨rfl, ho⟩; have HR3 := hid_mk (HR2.out.quiet ho); have HO3 := hid_mk (HO2.out.trans (ho.any lo hi)); obtain ⟨d0, d1, d2, d3, d4, d5⟩ := HR3.out.cells; have dF := HR3.out.cellF HC.out; clear ho HR2 HO2)
        | (go_at_call 147; rw [HM2.out]; refine (get_any HR3.out.places (a : Int)).mono ?_; rintro e w3 ⟨rfl, ho⟩; have HR4 := hid_mk (HR3.out.quiet ho); have HO4 := hid_mk (HO3.out.trans (ho.any lo hi)); have eF := HR4.out.cellF HC.out; clear ho dF d0 d1 d2 d3 d4 d5; obtain ⟨bb, hbb⟩ : ∃ bb, getB r.P (64 * n) (a : Int) = bb := ⟨_, rfl⟩; simp only [hbb])
        | (go_at_call 97; refine (set_any (HR4.out.free c HC.out) (a : Int)).mono ?_; rintro e w4 ⟨rfl, hm, ho⟩; have HR5 := hid_mk (HR4.out.setF HC.out ho hm); have HO5 := hid_mk (HO4.out.trans (HR4.out.wide (i := c) (by have := HC.out; omega) (by unfold ln; rw [if_pos (by have := HC.out; omega)]; exact ho))); clear hm ho))
      · have hP : r.P a = false := by
          have h1 : getB r.P (64 * n) (a : Int) = false := by rw [hbb]; rename_i hq; simpa using hq
          unfold getB at h1
          rw [show inB (64 * n) (a : Int) = true from by unfold inB; simp; have := HA.out; omega] at h1
          simpa using h1
        refine ⟨⟨i + 1, by congr 1, by omega, HR5.out.congr ?_, HO5.out⟩, by simp [intOf]; omega⟩
        refine Raw.eq rfl rfl ?_ rfl rfl rfl rfl
        funext d
        simp only [if_true]
        by_cases e : d = c
        · rw [if_pos e, if_pos e, HE4.out]
          funext j
          unfold setS
          rw [if_pos (show inB (64 * n) (a : Int) = true from by unfold inB; simp; have := HA.out; omega)]
          unfold upd
          rw [show (a : Int).toNat = a from by omega, hP]
          by_cases e2 : j = a
          · rw [if_pos e2, if_pos e2]; simp
          · rw [if_neg e2, if_neg e2]
        · rw [if_neg e, if_neg e, if_neg e]
      · have hP : r.P a = true := by
          have h1 : getB r.P (64 * n) (a : Int) = true := by rw [hbb]; rename_i hq; simpa using hq
          unfold getB at h1
          simp at h1
          exact h1.2
        refine ⟨⟨i + 1, by congr 1, by omega, HR4.out.congr ?_, HO4.out⟩, by simp [intOf]; omega⟩
        refine Raw.eq rfl rfl ?_ rfl rfl rfl rfl
        funext d
        show (if d = c then fuF r c p i else r.F d) = if d = c then fuF r c p (i + 1) else r.F d
        by_cases e : d = c
        · rw [if_pos e, if_pos e, HE4.out]
          funext j
          by_cases e2 : j = a
          · rw [if_pos e2, hP, e2]; simp
          · rw [if_neg e2]
        · rw [if_neg e, if_neg e]
    · have e : i = y := by omega
      subst e
      clear i2 i3
      have hge : (i : Int) ≤ (i : Int) := Int.le_refl _
      go_wp2
      refine bodyPost_end (results_none Tryz.results160 _ _ _) rfl ⟨⟨_, rfl⟩, HR2.out.congr ?_, HO2.out⟩
      refine Raw.eq rfl rfl ?_ rfl rfl rfl rfl
      funext d
      show (if d = c then fuF r c p i else r.F d) = if d = c then fuR r c p else r.F d
      rw [← fu_end r HC.out p, HY.out]; rfl
end
end Go.Proofs.YtjbbkeoolodeaaaGreatDoor
namespace Go.Proofs.YtjbbkeoolodeaaaGreatDoor
open Go.RowKit
set_option linter.unusedVariables false
set_option linter.unusedSimpArgs false

theorem results_tmp_cell {fn : Func} {p u : Tmp} {ty : TypeId} (h : fn.results = #[.tmp u, .cell p ty]) (tmps : Array Value) (P : Program) (w : World) :
    (results fn tmps).run P w = ((asAddr (tmps.getD p undef)).run P w).andThen fun ad w1 => ((loadVar ty ad).run P w1).andThen fun v w2 => .ok (.tuple #[tmps.getD u undef, v]) w2 := by
  unfold results
  simp [h, Sem.run_bind, Result.andThen]
theorem retIF {fn : Func} {p u : Tmp} {a : Act} {w : World} {g : Nat} {x1 x2 v : Int} {post : Ending → World → Prop} (hr : fn.results = #[.tmp u, .cell p 50]) (hp : a.tmps.getD p undef = .pointer (some ⟨g, 0, none⟩)) (hu : a.tmps.getD u undef = .int .i64 v)
    (hd : a.defers = []) (hg : w.heap[g]? = some (.cells #[.int .i64 x1, .int .i64 x2] 50 (0, 0))) (h : post (.returned (.tuple #[.int .i64 v, .agg #[.int .i64 x1, .int .i64 x2]])) w) : bodyPost Tryz.prog fn post Exit.ret a w := by
  refine bodyPost_ret (v := .tuple #[.int .i64 v, .agg #[.int .i64 x1, .int .i64 x2]]) ?_ hd h
  rw [results_tmp_cell hr, hp]
  simp [asAddr, run_loadVar_row w g 50 50 _ (0, 0) _ hg Tryz.underlying50 rfl (infoF x1 x2), Result.andThen]
  simpa using hu
theorem ret_pg {a b : Int} {v : Value} (h : a = b) : Ending.returned (.tuple #[.int .i64 a, v]) = .returned (.tuple #[.int .i64 b, v]) := by rw [h]
section
variable {w : World} {lo hi n cap : Nat} {s : Nat → Nat} {r : Raw}
theorem raw_takeRun (h : RawAt w lo hi s n cap r) (k : Nat) (h1 : 1 ≤ k) (h2 : k ≤ 16) :
    Calls Tryz.prog 105 #[.pointer (some ⟨s 9, 0, none⟩), .int .i64 (k : Int)] w fun e w' => e = .returned (.tuple #[.int .i64 (((rowF r.S n k).getD 0 : Nat) : Int), .int .i64 (if (rowF r.S n k).isSome then 0 else 20)]) ∧
      RawAt w' lo hi s n cap { r with S := match rowF r.S n k with | some p => setR r.S p k | none => r.S } ∧ Out lo hi w w' := by
  refine (takeRun_any h.tbl h.tab (k : Int)).mono ?_
  rintro e w' ⟨rfl, ht, ho⟩
  have hb : runB (k : Int) = true := by unfold runB; simp; omega
  unfold trP trE
  unfold trS at ht
  rw [hb] at ht ⊢
  simp only [if_true, Int.toNat_natCast] at ht ⊢
  exact ⟨by first | trivial | rfl, h.setT ho ht, h.wide (i := 10) (by omega) ho⟩
theorem raw_takeClass (h : RawAt w lo hi s n cap r) (c : Nat) (hc : c < 8) :
    Calls Tryz.prog 143 #[.pointer (some ⟨s 9, 0, none⟩), .int .i64 (c : Int)] w fun e w' => e = .returned (.tuple #[.int .i64 (((rowF r.S n 1).getD 0 : Nat) : Int), .int .i64 (if (rowF r.S n 1).isSome then 0 else 20)]) ∧
      RawAt w' lo hi s n cap { r with S := match rowF r.S n 1 with | some p => setC r.S p (c : Int) | none => r.S } ∧ Out lo hi w w' := by
  refine (takeClass_any h.tbl h.tab (c : Int)).mono ?_
  rintro e w' ⟨rfl, ht, ho⟩
  have hb : classB (c : Int) = true := by unfold classB; simp; omega
  unfold tcP tcE
  unfold tcS at ht
  rw [hb] at ht ⊢
  simp only [if_true] at ht ⊢
  exact ⟨by first | trivial | rfl, h.setT ho ht, h.wide (i := 10) (by omega) ho⟩
/-- the box of a fault at the call's beginning -/
theorem fz_new (w : World) : (w.alloc (.cells #[.int .i64 0, .int .i64 0] 50)).heap[w.heap.size]? = some (.cells #[.int .i64 0, .int .i64 0] 50 (0, 0)) := heap_alloc_new _ _
set_option maxHeartbeats 1000000 in
theorem spTakeRun_any (h : RawAt w lo hi s n cap r) (k : Nat) (h1 : 1 ≤ k) (h2 : k ≤ 16) :
    Calls Tryz.prog 94 #[.pointer (some ⟨s 14, 0, none⟩), .int .i64 (k : Int)] w fun e w' =>
      (match rowF r.S n k with
       | some p => e = .returned (.tuple #[.int .i64 ((64 * p : Nat) : Int), .agg #[.int .i64 0, .int .i64 0]]) ∧ RawAt w' lo hi s n cap { r with S := setR r.S p k }
       | none => e = .returned (.tuple #[.int .i64 0, .agg #[.int .i64 20, .int .i64 0]]) ∧ RawAt w' lo hi s n cap r) ∧ Out lo hi w w' := by
  have h0 : Out 0 0 w (w.alloc (.cells #[.int .i64 0, .int .i64 0] 50)) := (Out.refl 0 0 w).alloc _
  have HZ := hid_mk (fz_new w)
  have H0 := hid_mk h0
  have HK := hid_mk (raw_takeRun (h.quiet h0) k h1 h2)
  obtain ⟨c0, c1, c2, c3, c4, c5⟩ := (h.quiet h0).cells
  have HT : Hid (hi ≤ w.heap.size ∧ 4 ≤ w.heap.size ∧ n ≤ 4096) := ⟨h.top, h.tab.lt, h.n2⟩
  cases hf : rowF r.S n k with
  | none =>
    rw [hf] at HK
    simp only [Option.getD_none, Option.isSome_none] at HK
    have e4 : ((20 : Int) != 0) = true := rfl
    clear h h0 hf h1 h2
    go_enter Tryz.func94, Tryz.ntmps94
    go_wp2_with (first | (go_at_call 105; refine HK.out.mono ?_; rintro e w1 ⟨rfl, hr, ho⟩; obtain ⟨q4, q5, q6, q7⟩ := flt_facts (ho.heap HZ.out (.inr HT.out.1)); have HR1 := hid_mk hr; have HO := hid_mk ho; clear hr ho))
    refine retIF Tryz.results94 rfl rfl rfl (flt_set (HO.out.heap HZ.out (.inr HT.out.1))) ⟨⟨rfl, HR1.out.kept ((Out.refl w.heap.size (w.heap.size + 1) _).set2 (.inl ⟨Nat.le_refl _, Nat.lt_succ_self _⟩) _ _) (.inl HT.out.1) (.inl HT.out.2.1)⟩, ((H0.out.any lo hi).trans HO.out).set2 (.inr (Nat.le_refl _)) _ _⟩
  | some p =>
    rw [hf] at HK
    simp only [Option.getD_some, Option.isSome_some, if_true] at HK
    have hp := rowF_some hf
    have b0 : (0 : Int) ≤ (p : Int) := by omega
    have b1 : (p : Int) < 4096 := by have := HT.out; omega
    have e4 : ((0 : Int) != 0) = false := rfl
    clear h h0 hf h1 h2 hp
    go_enter Tryz.func94, Tryz.ntmps94
    go_wp2_with (first | (go_at_call 105; refine HK.out.mono ?_; rintro e w1 ⟨rfl, hr, ho⟩; obtain ⟨q4, q5, q6, q7⟩ := flt_facts (ho.heap HZ.out (.inr HT.out.1)); have HR1 := hid_mk hr; have HO := hid_mk ho; clear hr ho))
    refine retIF Tryz.results94 rfl rfl rfl (flt_set (HO.out.heap HZ.out (.inr HT.out.1))) ⟨⟨ret_pg (by omega), HR1.out.kept ((Out.refl w.heap.size (w.heap.size + 1) _).set2 (.inl ⟨Nat.le_refl _, Nat.lt_succ_self _⟩) _ _) (.inl HT.out.1) (.inl HT.out.2.1)⟩, ((H0.out.any lo hi).trans HO.out).set2 (.inr (Nat.le_refl _)) _ _⟩
end
end Go.Proofs.YtjbbkeoolodeaaaGreatDoor
