import Derived.Test.YtcpignkjlnjjmaaGreatDoorNa21
namespace Go.Proofs.YtcpignkjlnjjmaaGreatDoor
open Go.RowKit
set_option linter.unusedVariables false
set_option linter.unusedSimpArgs false

theorem results_tmp_cell {fn : Func} {p u : Tmp} {ty : TypeId} (h : fn.results = #[.tmp u, .cell p ty]) (tmps : Array Value) (P : Program) (w : World) :
    (results fn tmps).run P w = ((asAddr (tmps.getD p undef)).run P w).andThen fun ad w1 => ((loadVar ty ad).run P w1).andThen fun v w2 => .ok (.tuple #[tmps.getD u undef, v]) w2 := by
  unfold results
  simp [h, Sem.run_bind, Result.andThen]
theorem retIF {fn : Func} {p u : Tmp} {a : Act} {w : World} {g : Nat} {x1 x2 v : Int} {post : Ending → World → Prop} (hr : fn.results = #[.tmp u, .cell p 33]) (hp : a.tmps.getD p undef = .pointer (some ⟨g, 0, none⟩)) (hu : a.tmps.getD u undef = .int .i64 v)
    (hd : a.defers = []) (hg : w.heap[g]? = some (.cells #[.int .i64 x1, .int .i64 x2] 33 (0, 0))) (h : post (.returned (.tuple #[.int .i64 v, .agg #[.int .i64 x1, .int .i64 x2]])) w) : bodyPost Tryz.prog fn post Exit.ret a w := by
  refine bodyPost_ret (v := .tuple #[.int .i64 v, .agg #[.int .i64 x1, .int .i64 x2]]) ?_ hd h
  rw [results_tmp_cell hr, hp]
  simp [asAddr, run_loadVar_row w g 33 33 _ (0, 0) _ hg Tryz.underlying33 rfl (infoF x1 x2), Result.andThen]
  simpa using hu
theorem ret_pg {a b : Int} {v : Value} (h : a = b) : Ending.returned (.tuple #[.int .i64 a, v]) = .returned (.tuple #[.int .i64 b, v]) := by rw [h]
section
variable {w : World} {lo hi n cap : Nat} {s : Nat → Nat} {r : Raw}
theorem raw_takeRun (h : RawAt w lo hi s n cap r) (k : Nat) (h1 : 1 ≤ k) (h2 : k ≤ 16) :
    Calls Tryz.prog 98 #[.pointer (some ⟨s 9, 0, none⟩), .int .i64 (k : Int)] w fun e w' => e = .returned (.tuple #[.int .i64 (((rowF r.S n k).getD 0 : Nat) : Int), .int .i64 (if (rowF r.S n k).isSome then 0 else 20)]) ∧
      RawAt w' lo hi s n cap { r with S := match rowF r.S n k with | some p => setR r.S p k | none => r.S } ∧ Out lo hi w w' := by
  refine (takeRun_any h.tbl h.tab (k : Int)).mono ?_
  rintro e w' ⟨rfl, ht, ho⟩
  have hb : runB (k : Int) = true := by unfold runB; simp; omega
  unfold trP trE
  unfold trS at ht
  rw [hb] at ht ⊢
  simp only [if_true, Int.toNat_natCast] at ht ⊢
  exact ⟨by first | trivial | rfl, h.setT ho ht, h.wide (i := 10) (by omega) ho⟩
theorem raw_takeClass (h : RawAt w lo hi s n cap r) (c : Nat) (hc : c < 8) :
    Calls Tryz.prog 109 #[.pointer (some ⟨s 9, 0, none⟩), .int .i64 (c : Int)] w fun e w' => e = .returned (.tuple #[.int .i64 (((rowF r.S n 1).getD 0 : Nat) : Int), .int .i64 (if (rowF r.S n 1).isSome then 0 else 20)]) ∧
      RawAt w' lo hi s n cap { r with S := match rowF r.S n 1 with | some p => setC r.S p (c : Int) | none => r.S } ∧ Out lo hi w w' := by
  refine (takeClass_any h.tbl h.tab (c : Int)).mono ?_
  rintro e w' ⟨rfl, ht, ho⟩
  have hb : classB (c : Int) = true := by unfold classB; simp; omega
  unfold tcP tcE
  unfold tcS at ht
  rw [hb] at ht ⊢
  simp only [if_true] at ht ⊢
  exact ⟨by first | trivial | rfl, h.setT ho ht, h.wide (i := 10) (by omega) ho⟩
/-- the box of a fault at the call's beginning -/
theorem fz_new (w : World) : (w.alloc (.cells #[.int .i64 0, .int .i64 0] 33)).heap[w.heap.size]? = some (.cells #[.int .i64 0, .int .i64 0] 33 (0, 0)) := heap_alloc_new _ _
set_option maxHeartbeats 1000000 in
theorem spTakeRun_any (h : RawAt w lo hi s n cap r) (k : Nat) (h1 : 1 ≤ k) (h2 : k ≤ 16) :
    Calls Tryz.prog 89 #[.pointer (some ⟨s 14, 0, none⟩), .int .i64 (k : Int)] w fun e w' =>
      (match rowF r.S n k with
       | some p => e = .returned (.tuple #[.int .i64 ((64 * p : Nat) : Int), .agg #[.int .i64 0, .int .i64 0]]) ∧ RawAt w' lo hi s n cap { r with S := setR r.S p k }
       | none => e = .returned (.tuple #[.int .i64 0, .agg #[.int .i64 20, .int .i64 0]]) ∧ RawAt w' lo hi s n cap r) ∧ Out lo hi w w' := by
  have h0 : Out 0 0 w (w.alloc (.cells #[.int .i64 0, .int .i64 0] 33)) := (Out.refl 0 0 w).alloc _
  have HZ := hid_mk (fz_new w)
  have H0 := hid_mk h0
  have HK := hid_mk (raw_takeRun (h.quiet h0) k h1 h2)
  obtain ⟨c0, c1, c2, c3, c4, c5⟩ := (h.quiet h0).cells
  have HT : Hid (hi ≤ w.heap.size ∧ 4 ≤ w.heap.size ∧ n ≤ 4096) := ⟨h.top, h.tab.lt, h.n2⟩
  cases hf : rowF r.S n k with
  | none =>
    rw [hf] at HK
    simp only [Option.getD_none, Option.isSome_none] at HK
    have e4 : ((20 : Int) != 0) = true := rfl
    clear h h0 hf h1 h2
    go_enter Tryz.func89, Tryz.ntmps89
    go_wp2_with (first | (go_at_call 98; refine HK.out.mono ?_; rintro e w1 ⟨rfl, hr, ho⟩; obtain ⟨q4, q5, q6, q7⟩ := flt_facts (ho.heap HZ.out (.inr HT.out.1)); have HR1 := hid_mk hr; have HO := hid_mk ho; clear hr ho))
    refine retIF Tryz.results89 rfl rfl rfl (flt_set (HO.out.heap HZ.out (.inr HT.out.1))) ⟨⟨rfl, HR1.out.kept ((Out.refl w.heap.size (w.heap.size + 1) _).set2 (.inl ⟨Nat.le_refl _, Nat.lt_succ_self _⟩) _ _) (.inl HT.out.1) (.inl HT.out.2.1)⟩, ((H0.out.any lo hi).trans HO.out).set2 (.inr (Nat.le_refl _)) _ _⟩
  | some p =>
    rw [hf] at HK
    simp only [Option.getD_some, Option.isSome_some, if_true] at HK
    have hp := rowF_some hf
    have b0 : (0 : Int) ≤ (p : Int) := by omega
    have b1 : (p : Int) < 4096 := by have := HT.out; omega
    have e4 : ((0 : Int) != 0) = false := rfl
    clear h h0 hf h1 h2 hp
    go_enter Tryz.func89, Tryz.ntmps89
    go_wp2_with (first | (go_at_call 98; refine HK.out.mono ?_; rintro e w1 ⟨rfl, hr, ho⟩; obtain ⟨q4, q5, q6, q7⟩ := flt_facts (ho.heap HZ.out (.inr HT.out.1)); have HR1 := hid_mk hr; have HO := hid_mk ho; clear hr ho))
    refine retIF Tryz.results89 rfl rfl rfl (flt_set (HO.out.heap HZ.out (.inr HT.out.1))) ⟨⟨ret_pg (by omega), HR1.out.kept ((Out.refl w.heap.size (w.heap.size + 1) _).set2 (.inl ⟨Nat.le_refl _, Nat.lt_succ_self _⟩) _ _) (.inl HT.out.1) (.inl HT.out.2.1)⟩, ((H0.out.any lo hi).trans HO.out).set2 (.inr (Nat.le_refl _)) _ _⟩
end
end Go.Proofs.YtcpignkjlnjjmaaGreatDoor
namespace Go.Proofs.YtcpignkjlnjjmaaGreatDoor
open Go.RowKit
set_option linter.unusedVariables false
set_option linter.unusedSimpArgs false

section
variable {w : World} {lo hi n cap : Nat} {s : Nat → Nat} {r : Raw}
/-- behind takePage -/
def tpF (r : Raw) (c p : Nat) : Nat → Nat → Bool := fun d => if d = c then upd (fuR r c p) (64 * p) false else r.F d
def tp4 (r : Raw) (c p : Nat) : Raw := ⟨zeroW r.W (64 * p) 64, setC r.S p (c : Int), tpF r c p, r.P, r.M, r.R, r.last⟩
def tpR (n : Nat) (r : Raw) (c p : Nat) : Raw := { tp4 r c p with W := linkR n (tp4 r c p) c }
set_option maxRecDepth 100000 in
set_option maxHeartbeats 2000000 in
theorem takePage_any (h : RawAt w lo hi s n cap r) {c : Nat} (hc : c < 8) :
    Calls Tryz.prog 99 #[.pointer (some ⟨s 14, 0, none⟩), .int .i64 (c : Int)] w fun e w' =>
      (match rowF r.S n 1 with
       | some p => e = .returned (.tuple #[.int .i64 ((64 * p : Nat) : Int), .agg #[.int .i64 0, .int .i64 0]]) ∧ RawAt w' lo hi s n cap (tpR n r c p)
       | none => e = .returned (.tuple #[.int .i64 0, .agg #[.int .i64 20, .int .i64 0]]) ∧ RawAt w' lo hi s n cap r) ∧ Out lo hi w w' := by
  have h0 : Out 0 0 w (w.alloc (.cells #[.int .i64 0, .int .i64 0] 33)) := (Out.refl 0 0 w).alloc _
  have HZ := hid_mk (fz_new w)
  have H0 := hid_mk h0
  have HK := hid_mk (raw_takeClass (h.quiet h0) c hc)
  obtain ⟨c0, c1, c2, c3, c4, c5⟩ := (h.quiet h0).cells
  have HT : Hid (hi ≤ w.heap.size ∧ 4 ≤ w.heap.size ∧ n ≤ 4096) := ⟨h.top, h.tab.lt, h.n2⟩
  have k2 : (0 : Int) ≤ (c : Int) := by omega
  have k3 : (c : Int) < 8 := by omega
  have HC := hid_mk hc
  cases hf : rowF r.S n 1 with
  | none =>
    rw [hf] at HK
    simp only [Option.getD_none, Option.isSome_none] at HK
    have e4 : ((20 : Int) != 0) = true := rfl
    clear h h0 hf hc
    go_enter Tryz.func99, Tryz.ntmps99
    go_wp2_with (first | (go_at_call 109; refine HK.out.mono ?_; rintro e w1 ⟨rfl, hr, ho⟩; obtain ⟨q4, q5, q6, q7⟩ := flt_facts (ho.heap HZ.out (.inr HT.out.1)); have HR1 := hid_mk hr; have HO := hid_mk ho; clear hr ho))
    refine retIF Tryz.results99 rfl rfl rfl (flt_set (HO.out.heap HZ.out (.inr HT.out.1))) ⟨⟨rfl, HR1.out.kept ((Out.refl w.heap.size (w.heap.size + 1) _).set2 (.inl ⟨Nat.le_refl _, Nat.lt_succ_self _⟩) _ _) (.inl HT.out.1) (.inl HT.out.2.1)⟩, ((H0.out.any lo hi).trans HO.out).set2 (.inr (Nat.le_refl _)) _ _⟩
  | some p =>
    rw [hf] at HK
    simp only [Option.getD_some, Option.isSome_some, if_true] at HK
    have hp := rowF_some hf
    have b0 : (0 : Int) ≤ (p : Int) := by omega
    have b1 : (p : Int) < 4096 := by have := HT.out; omega
    have HP : Hid (p < n) := hp.1
    have e4 : ((0 : Int) != 0) = false := rfl
    obtain ⟨o, cp, hsl, hol⟩ := islice_at (s 11) (64 * n) cap (p * 64) (p * 64 + 64) (by omega) (by have := h.capn; omega)
    rw [show ((p * 64 : Nat) : Int) = (p : Int) * 64 from by omega, show ((p * 64 + 64 : Nat) : Int) = (p : Int) * 64 + 64 from by omega, show p * 64 + 64 - p * 64 = 64 from by omega] at hsl
    have HOL : Hid (o = p * 64) := hol (by omega)
    have HA : Hid ((p : Int) * 64 = ((64 * p : Nat) : Int)) := by show _ = _; omega
    clear h h0 hf hp hol hc
    go_enter Tryz.func99, Tryz.ntmps99
    go_wp2_with (first
      | (go_at_call 109; refine HK.out.mono ?_; rintro e w1 ⟨rfl, hr, ho⟩; have HO1 := hid_mk ho; obtain ⟨w2, hcl, hr2, ho2⟩ := hr.clear (a := p * 64) (k := 64) (o := o) (cp := cp) (by have := HP.out; omega) (fun _ => HOL.out); have HR2 := hid_mk hr2; have HO2 := hid_mk (ho.trans (hr.wide (i := 11) (by omega) ho2)); obtain ⟨g0, g1, g2, g3, g4, g5⟩ := hr.cells; clear hr ho hr2 ho2)
      | (simp only [hcl])
      | (go_at_call 110; refine (freeUp_any HR2.out HC.out HP.out).mono ?_; rintro e w3 ⟨⟨v3, rfl⟩, hr, ho⟩; have HR3 := hid_mk hr; have HO3 := hid_mk (HO2.out.trans ho); have gF := hr.cellF HC.out; clear hr ho hcl g0 g1 g2 g3 g4 g5)
      | (go_at_call 101; refine (clear_any (HR3.out.free c HC.out) _).mono ?_; rintro e w4 ⟨rfl, hm, ho⟩; have HR4 := hid_mk (HR3.out.setF HC.out ho hm); have HO4 := hid_mk (HO3.out.trans (HR3.out.wide (i := c) (by have := HC.out; omega) (by unfold ln; rw [if_pos (by have := HC.out; omega)]; exact ho))); clear hm ho gF)
      | (go_at_call 111; refine (spLink_any HR4.out HC.out).mono ?_; rintro e w5 ⟨⟨v5, rfl⟩, hr, ho⟩; have HR5 := hid_mk hr; have HO5 := hid_mk (HO4.out.trans ho); obtain ⟨q4, q5, q6, q7⟩ := flt_facts ((HO4.out.trans ho).heap HZ.out (.inr HT.out.1)); clear hr ho))
    have hF : ∀ d, (if d = c then setS (if c = c then fuR r c p else r.F c) (64 * n) ((p : Int) * 64) false else if d = c then fuR r c p else r.F d) = tpF r c p d := by
      intro d
      unfold tpF
      by_cases e : d = c
      · rw [if_pos e, if_pos rfl, if_pos e, HA.out]
        unfold setS
        rw [if_pos (show inB (64 * n) ((64 * p : Nat) : Int) = true from by unfold inB; simp; have := HP.out; omega)]
        rfl
      · rw [if_neg e, if_neg e, if_neg e]
    have e4 : (⟨zeroW r.W (p * 64) 64, setC r.S p (c : Int), fun d => if d = c then setS (if c = c then fuR r c p else r.F c) (64 * n) ((p : Int) * 64) false else if d = c then fuR r c p else r.F d, r.P, r.M, r.R, r.last⟩ : Raw) = tp4 r c p :=
      Raw.eq (by rw [Nat.mul_comm p 64]; rfl) rfl (funext hF) rfl rfl rfl rfl
    have h5 := HR5.out
    simp only [if_true] at h5 e4
    have h6 : RawAt w5 lo hi s n cap (tpR n r c p) := by
      unfold tpR
      rw [← e4]
      exact h5
    refine retIF Tryz.results99 rfl rfl rfl (flt_set (HO5.out.heap HZ.out (.inr HT.out.1))) ⟨⟨ret_pg HA.out, h6.kept ((Out.refl w.heap.size (w.heap.size + 1) _).set2 (.inl ⟨Nat.le_refl _, Nat.lt_succ_self _⟩) _ _) (.inl HT.out.1) (.inl HT.out.2.1)⟩, ((H0.out.any lo hi).trans HO5.out).set2 (.inr (Nat.le_refl _)) _ _⟩
set_option maxRecDepth 100000 in
set_option maxHeartbeats 2000000 in
theorem takeBlock_any (h : RawAt w lo hi s n cap r) {c : Nat} (hc : c < 8) :
    Calls Tryz.prog 90 #[.pointer (some ⟨s 14, 0, none⟩), .int .i64 (c : Int)] w fun e w' =>
      ((nxr (r.F c) (64 * n) 0 = -1 ∧ (match rowF r.S n 1 with
       | some p => e = .returned (.tuple #[.int .i64 ((64 * p : Nat) : Int), .agg #[.int .i64 0, .int .i64 0]]) ∧ RawAt w' lo hi s n cap (tpR n r c p)
       | none => e = .returned (.tuple #[.int .i64 0, .agg #[.int .i64 20, .int .i64 0]]) ∧ RawAt w' lo hi s n cap r)) ∨
      (∃ a : Nat, nxr (r.F c) (64 * n) 0 = a ∧ a < 64 * n ∧ r.F c a = true ∧ r.W a = linkV (nxr (r.F c) (64 * n) (a + 1)) ∧ e = .returned (.tuple #[.int .i64 (a : Int), .agg #[.int .i64 0, .int .i64 0]]) ∧ RawAt w' lo hi s n cap { r with F := fun d => if d = c then upd (r.F c) a false else r.F d }) ∨
      (∃ a : Nat, nxr (r.F c) (64 * n) 0 = a ∧ a < 64 * n ∧ r.F c a = true ∧ r.W a ≠ linkV (nxr (r.F c) (64 * n) (a + 1)) ∧ e = .returned (.tuple #[.int .i64 0, .agg #[.int .i64 21, .int .i64 (a : Int)]]) ∧ RawAt w' lo hi s n cap r)) ∧ Out lo hi w w' := by
  have h0 : Out 0 0 w (w.alloc (.cells #[.int .i64 0, .int .i64 0] 33)) := (Out.refl 0 0 w).alloc _
  have HZ := hid_mk (fz_new w)
  have H0 := hid_mk h0
  have hq := h.quiet h0
  have HQ := hid_mk hq
  have cF := hq.cellF hc
  have HX := hid_mk (next_any (hq.free c hc) 0)
  rw [show (0 : Int).toNat = 0 from rfl] at HX
  have HT : Hid (hi ≤ w.heap.size ∧ 4 ≤ w.heap.size ∧ n ≤ 4096) := ⟨h.top, h.tab.lt, h.n2⟩
  have k2 : (0 : Int) ≤ (c : Int) := by omega
  have k3 : (c : Int) < 8 := by omega
  have HC := hid_mk hc
  rcases nxr_cases (r.F c) (64 * n) 0 with ⟨e1, e2⟩ | ⟨a, e1, a1, a2, a3, a4⟩
  · rw [e1] at HX
    have HE := hid_mk e1
    have HTP := hid_mk (fun w' (h' : RawAt w' lo hi s n cap r) => takePage_any h' hc)
    cases hf : rowF r.S n 1 with
    | none =>
      rw [hf] at HTP
      clear h h0 hf hc hq e1 e2
      go_enter Tryz.func90, Tryz.ntmps90
      go_wp2_with (first
        | (go_at_call 46; refine HX.out.mono ?_; rintro e w1 ⟨rfl, ho⟩; have HR1 := hid_mk (HQ.out.quiet ho); have HO1 := hid_mk (ho.any lo hi); clear ho)
        | (go_at_call 99; refine (HTP.out _ HR1.out).mono ?_; rintro e w2 ⟨⟨rfl, hr⟩, ho⟩; have HR2 := hid_mk hr; have HO2 := hid_mk (HO1.out.trans ho); obtain ⟨q4, q5, q6, q7⟩ := flt_facts ((HO1.out.trans ho).heap HZ.out (.inr HT.out.1)); clear hr ho))
      refine retIF Tryz.results90 rfl rfl rfl (flt_set (HO2.out.heap HZ.out (.inr HT.out.1))) ⟨.inl ⟨HE.out, rfl, HR2.out.kept ((Out.refl w.heap.size (w.heap.size + 1) _).set2 (.inl ⟨Nat.le_refl _, Nat.lt_succ_self _⟩) _ _) (.inl HT.out.1) (.inl HT.out.2.1)⟩, ((H0.out.any lo hi).trans HO2.out).set2 (.inr (Nat.le_refl _)) _ _⟩
    | some p =>
      rw [hf] at HTP
      clear h h0 hf hc hq e1 e2
      go_enter Tryz.func90, Tryz.ntmps90
      go_wp2_with (first
        | (go_at_call 46; refine HX.out.mono ?_; rintro e w1 ⟨rfl, ho⟩; have HR1 := hid_mk (HQ.out.quiet ho); have HO1 := hid_mk (ho.any lo hi); clear ho)
        | (go_at_call 99; refine (HTP.out _ HR1.out).mono ?_; rintro e w2 ⟨⟨rfl, hr⟩, ho⟩; have HR2 := hid_mk hr; have HO2 := hid_mk (HO1.out.trans ho); obtain ⟨q4, q5, q6, q7⟩ := flt_facts ((HO1.out.trans ho).heap HZ.out (.inr HT.out.1)); clear hr ho))
      refine retIF Tryz.results90 rfl rfl rfl (flt_set (HO2.out.heap HZ.out (.inr HT.out.1))) ⟨.inl ⟨HE.out, ret_pg (by first | rfl | simp), HR2.out.kept ((Out.refl w.heap.size (w.heap.size + 1) _).set2 (.inl ⟨Nat.le_refl _, Nat.lt_succ_self _⟩) _ _) (.inl HT.out.1) (.inl HT.out.2.1)⟩, ((H0.out.any lo hi).trans HO2.out).set2 (.inr (Nat.le_refl _)) _ _⟩
  · rw [e1] at HX
    have b0 : (0 : Int) ≤ (a : Int) := by omega
    have b1 : (a : Int) < 64 * (n : Int) := by omega
    have b2 : (a : Int) < ((64 * n : Nat) : Int) := by omega
    have b3 : ((64 * n : Nat) : Int) ≤ 262144 := by have := HT.out; omega
    have HA := hid_mk (And.intro e1 (And.intro a1 a3))
    have HWR : Hid (IntKind.i64.wrap ((a : Int) + 1) = (a : Int) + 1) := by show _ = _; simp [IntKind.wrap, IntKind.signed, IntKind.bits]; omega
    obtain ⟨z, hz⟩ : ∃ z, nxr (r.F c) (64 * n) (a + 1) = z := ⟨_, rfl⟩
    have HX2 := hid_mk (fun w' (h' : RawAt w' lo hi s n cap r) => next_any (h'.free c hc) ((a : Int) + 1))
    rw [show ((a : Int) + 1).toNat = a + 1 from by omega, hz] at HX2
    have HZZ := hid_mk hz
    by_cases hv : r.W a = linkV z
    · have hne : (r.W a != linkV z) = false := by simp [hv]
      have HV := hid_mk hv
      clear h h0 hc hq e1 a1 a2 a3 a4 hz hv
      go_enter Tryz.func90, Tryz.ntmps90
      go_wp2_with (first
        | (go_at_call 46; refine HX.out.mono ?_; rintro e w1 ⟨rfl, ho⟩; have HR1 := hid_mk (HQ.out.quiet ho); have HO1 := hid_mk (ho.any lo hi); have dF := (HQ.out.quiet ho).cellF HC.out; obtain ⟨d0, d1, d2, d3, d4, d5⟩ := (HQ.out.quiet ho).cells; have dW := (HQ.out.quiet ho).words.cell HA.out.2.1; clear ho cF))
      refine wp_region_held_drew (S := fun w' => w'.cell? ⟨s 14, 0, none⟩ = some (.slice (some ⟨s 11, 0, none⟩) (64 * n) cap) ∧ w'.cell? ⟨s 11, a, none⟩ = some (.int .i64 (r.W a)) ∧ w'.cell? ⟨s 14, 4 + c, none⟩ = some (.pointer (some ⟨s c + 1, 0, none⟩))) (by kernel_rfl) ?hS1 (fun hHeld => ?rest1)
      case hS1 => exact ⟨d0, dW, dF⟩
      refine tk 0 ?_
      refine tk 1 ?_
      refine tk 2 ?_
      refine tk 3 ?_
      refine tk 4 ?_
      refine tk 5 ?_
      refine tk 6 ?_
      refine tk 7 ?_
      refine tk 8 ?_
      refine tk 9 ?_
      refine tk 10 ?_
      refine tk 11 ?_
      refine tk 12 ?_
      refine tk 13 ?_
      refine tk 14 ?_
      refine wpAnyH_ready (rs := [15]) (by kernel_rfl) (by simp) ?_
      refine AllReadyH.cons rfl (fun KK hK => ?_) AllReadyH.nil
      simp only [xa, xb, xc]
      go_simp
      rw [HWR.out]
      refine (HX2.out _ (HR1.out.quiet ((Out.refl 0 0 _).drew))).mono ?_
      rintro e w2 ⟨rfl, hOO⟩
      refine hK.out _ _ ?hS17 (fun hHeld2 => ?rest17)
      case hS17 => exact ⟨hOO.cell hHeld.1 (.inr (Nat.zero_le _)), hOO.cell hHeld.2.1 (.inr (Nat.zero_le _)), hOO.cell hHeld.2.2 (.inr (Nat.zero_le _))⟩
      clear hK KK
      (try clear hHeld)
      have hHeld := hHeld2
      clear hHeld2
      (try simp only [Act.put, xa, xb, xc, xd, xe, xf])
      refine wpAnyH_ready (rs := [16]) (by kernel_rfl) (by simp) ?_
      refine AllReadyH.cons rfl (fun KK hK => ?_) AllReadyH.nil
      simp only [xa, xb, xc]
      go_simp
      refine (link_at z _).mono ?_
      rintro e w3 ⟨rfl, rfl⟩
      refine hK.out _ _ ?hS18 (fun hHeld2 => ?rest18)
      case hS18 => exact hHeld
      clear hK KK
      (try clear hHeld)
      have hHeld := hHeld2
      clear hHeld2
      (try simp only [Act.put, xa, xb, xc, xd, xe, xf])
      refine tk 17 ?_
      refine wpAnyH_done (by kernel_rfl) ?_ _
      clear hHeld d0 d1 d2 d3 d4 d5 dW dF
      have HO2 := hid_mk (HO1.out.trans (((Out.refl 0 0 w1).drew).trans hOO |>.any lo hi))
      have HR2 := hid_mk (HR1.out.quiet (((Out.refl 0 0 w1).drew).trans hOO))
      have gF := HR2.out.cellF HC.out
      obtain ⟨q4, q5, q6, q7⟩ := flt_facts (HO2.out.heap HZ.out (.inr HT.out.1))
      clear hOO
      all_goals go_wp2_with (first
        | (go_at_call 101; refine (clear_any (HR2.out.free c HC.out) _).mono ?_; rintro e w4 ⟨rfl, hm, ho⟩; have HR4 := hid_mk (HR2.out.setF HC.out ho hm); have HO4 := hid_mk (HO2.out.trans (HR2.out.wide (i := c) (by have := HC.out; omega) (by unfold ln; rw [if_pos (by have := HC.out; omega)]; exact ho))); obtain ⟨t4, t5, t6, t7⟩ := flt_facts (HO4.out.heap HZ.out (.inr HT.out.1)); clear hm ho gF q4 q5 q6 q7))
      all_goals
        have h4 : RawAt w4 lo hi s n cap { r with F := fun d => if d = c then upd (r.F c) a false else r.F d } := by
          refine HR4.out.congr (Raw.eq rfl rfl (funext fun d => ?_) rfl rfl rfl rfl)
          by_cases e : d = c
          · simp only [e, if_true]
            unfold setS
            rw [if_pos (show inB (64 * n) (a : Int) = true from by unfold inB; simp; have := HA.out.2.1; omega)]
            rfl
          · simp only [e, if_false]
        refine retIF Tryz.results90 rfl rfl rfl (flt_set (HO4.out.heap HZ.out (.inr HT.out.1))) ⟨.inr (.inl ⟨a, HA.out.1, HA.out.2.1, HA.out.2.2, by rw [HZZ.out]; exact HV.out, rfl, h4.kept ((Out.refl w.heap.size (w.heap.size + 1) _).set2 (.inl ⟨Nat.le_refl _, Nat.lt_succ_self _⟩) _ _) (.inl HT.out.1) (.inl HT.out.2.1)⟩), ((H0.out.any lo hi).trans HO4.out).set2 (.inr (Nat.le_refl _)) _ _⟩
    · have hne : (r.W a != linkV z) = true := by simp [hv]
      have HV := hid_mk hv
      clear h h0 hc hq e1 a1 a2 a3 a4 hz hv
      go_enter Tryz.func90, Tryz.ntmps90
      go_wp2_with (first
        | (go_at_call 46; refine HX.out.mono ?_; rintro e w1 ⟨rfl, ho⟩; have HR1 := hid_mk (HQ.out.quiet ho); have HO1 := hid_mk (ho.any lo hi); have dF := (HQ.out.quiet ho).cellF HC.out; obtain ⟨d0, d1, d2, d3, d4, d5⟩ := (HQ.out.quiet ho).cells; have dW := (HQ.out.quiet ho).words.cell HA.out.2.1; clear ho cF))
      refine wp_region_held_drew (S := fun w' => w'.cell? ⟨s 14, 0, none⟩ = some (.slice (some ⟨s 11, 0, none⟩) (64 * n) cap) ∧ w'.cell? ⟨s 11, a, none⟩ = some (.int .i64 (r.W a)) ∧ w'.cell? ⟨s 14, 4 + c, none⟩ = some (.pointer (some ⟨s c + 1, 0, none⟩))) (by kernel_rfl) ?hS20 (fun hHeld => ?rest20)
      case hS20 => exact ⟨d0, dW, dF⟩
      refine tk 0 ?_
      refine tk 1 ?_
      refine tk 2 ?_
      refine tk 3 ?_
      refine tk 4 ?_
      refine tk 5 ?_
      refine tk 6 ?_
      refine tk 7 ?_
      refine tk 8 ?_
      refine tk 9 ?_
      refine tk 10 ?_
      refine tk 11 ?_
      refine tk 12 ?_
      refine tk 13 ?_
      refine tk 14 ?_
      refine wpAnyH_ready (rs := [15]) (by kernel_rfl) (by simp) ?_
      refine AllReadyH.cons rfl (fun KK hK => ?_) AllReadyH.nil
      simp only [xa, xb, xc]
      go_simp
      rw [HWR.out]
      refine (HX2.out _ (HR1.out.quiet ((Out.refl 0 0 _).drew))).mono ?_
      rintro e w2 ⟨rfl, hOO⟩
      refine hK.out _ _ ?hS36 (fun hHeld2 => ?rest36)
      case hS36 => exact ⟨hOO.cell hHeld.1 (.inr (Nat.zero_le _)), hOO.cell hHeld.2.1 (.inr (Nat.zero_le _)), hOO.cell hHeld.2.2 (.inr (Nat.zero_le _))⟩
      clear hK KK
      (try clear hHeld)
      have hHeld := hHeld2
      clear hHeld2
      (try simp only [Act.put, xa, xb, xc, xd, xe, xf])
      refine wpAnyH_ready (rs := [16]) (by kernel_rfl) (by simp) ?_
      refine AllReadyH.cons rfl (fun KK hK => ?_) AllReadyH.nil
      simp only [xa, xb, xc]
      go_simp
      refine (link_at z _).mono ?_
      rintro e w3 ⟨rfl, rfl⟩
      refine hK.out _ _ ?hS37 (fun hHeld2 => ?rest37)
      case hS37 => exact hHeld
      clear hK KK
      (try clear hHeld)
      have hHeld := hHeld2
      clear hHeld2
      (try simp only [Act.put, xa, xb, xc, xd, xe, xf])
      refine tk 17 ?_
      refine wpAnyH_done (by kernel_rfl) ?_ _
      clear hHeld d0 d1 d2 d3 d4 d5 dW dF
      have HO2 := hid_mk (HO1.out.trans (((Out.refl 0 0 w1).drew).trans hOO |>.any lo hi))
      have HR2 := hid_mk (HR1.out.quiet (((Out.refl 0 0 w1).drew).trans hOO))
      have gF := HR2.out.cellF HC.out
      obtain ⟨q4, q5, q6, q7⟩ := flt_facts (HO2.out.heap HZ.out (.inr HT.out.1))
      clear hOO
      all_goals go_wp2
      all_goals
        refine retIF Tryz.results90 rfl rfl rfl (flt_set (HO2.out.heap HZ.out (.inr HT.out.1))) ⟨.inr (.inr ⟨a, HA.out.1, HA.out.2.1, HA.out.2.2, by rw [HZZ.out]; exact HV.out, rfl, HR2.out.kept ((Out.refl w.heap.size (w.heap.size + 1) _).set2 (.inl ⟨Nat.le_refl _, Nat.lt_succ_self _⟩) _ _) (.inl HT.out.1) (.inl HT.out.2.1)⟩), ((H0.out.any lo hi).trans HO2.out).set2 (.inr (Nat.le_refl _)) _ _⟩
end
end Go.Proofs.YtcpignkjlnjjmaaGreatDoor
