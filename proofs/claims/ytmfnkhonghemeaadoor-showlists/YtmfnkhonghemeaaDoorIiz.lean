/- package show: the teller over a chain: text -/
import Derived.Test.YtmfnkhonghemeaaDoorIiy
namespace Go.Proofs.YtmfnkhonghemeaaDoor
open Go.RowKit
set_option linter.unusedVariables false
set_option linter.unusedSimpArgs false

/-- a loop, its rounds counted down -/
theorem wp_loop_ix {P : Program} {Q : Exit → Act → World → Prop} {a : Act} {w : World} {c : Code} (I : Nat → Act → World → Prop) (r0 : Nat) (h0 : I r0 a w)
    (round : ∀ r a w, I r a w → c.wp P (Exit.then (fun a' w' => ∃ r', r' < r ∧ I r' a' w') Q) a w) : (Code.loop c).wp P Q a w := by
  refine wp_loop_rounds (r0 + 1) ?_
  have key : ∀ m r a w, r < m → I r a w → Code.rounds P c Q m a w := by
    intro m
    induction m with
    | zero => intro r a w h _; omega
    | succ m ih =>
      intro r a w hr hI
      rw [rounds_succ]
      refine wp_mono (round r a w hI) ?_
      intro e a' w' he
      cases e with
      | normal => obtain ⟨r', h1, h2⟩ := he; exact ih r' a' w' (by omega) h2
      | exit id => exact he
      | goto l => exact he
      | ret => exact he
      | panic ch => exact he
      | outgrown => exact he
  exact key _ _ _ _ (Nat.lt_succ_self _) h0
theorem TS.pop {B t tc pc : Nat} {w : World} {wp : Value} {ta pa : Option Addr} {tasks : List Task} {pieces : List ByteArray} {q : Task} (h : TS B w t wp ta tc pa pc (tasks ++ [q]) pieces) : ∃ g, ta = some ⟨g, 0, none⟩ ∧ B ≤ g ∧ tasks.length + 1 ≤ tc ∧ w.cell? ⟨g, tasks.length * 3, none⟩ = some (.int .i64 q.1) ∧ w.cell? ⟨g, tasks.length * 3 + 1, none⟩ = some (.int .i64 q.2.1) ∧ w.cell? ⟨g, tasks.length * 3 + 2, none⟩ = some (.int .i64 q.2.2) ∧ w.ownsRow B 72 3 (.slice ta tasks.length tc) tasks.length (tkL tasks) := by
  obtain ⟨hl, h | ⟨g, cap', cur, e, h1, h2, h3, h4, h5, h6⟩⟩ := h.2.1
  · simp at h
  · simp at e
    obtain ⟨rfl, rfl⟩ := e
    simp at h3 h6
    obtain ⟨a, b, c⟩ := q
    obtain ⟨t0, t1, t2⟩ := tkL_last tasks a b c
    have key : ∀ i v, i < (tasks.length + 1) * 3 → (tkL (tasks ++ [(a, b, c)]))[i]? = some v → w.cell? ⟨g, i, none⟩ = some v := fun i v hi hv => by
      rw [← h6, List.getElem?_take, if_pos hi] at hv
      exact Bl.cell h2 (by simpa using hv)
    refine ⟨g, rfl, h1, h3, key _ _ (by omega) t0, key _ _ (by omega) t1, key _ _ (by omega) t2, tkL_len tasks, .inr ⟨g, tc, cur, rfl, h1, h2, by omega, h4, h5, ?_⟩⟩
    have := congrArg (List.take (tasks.length * 3)) h6
    rw [List.take_take, Nat.min_eq_left (by omega), tkL_append, List.take_append_of_le_length (by rw [tkL_len]; omega)] at this
    exact this.trans (List.take_of_length_le (by rw [tkL_len]; omega))
/-- the act of text at its loop's head -/
def TxA (t : Nat) (a : Act) : Prop := ∃ v1 v2 v3 v4 v5 v6 v7 v8 v9 v10 v11 v12 v13 v14 v15 v16 v17 v18 v19 v20 v21 v22 v23 v24 v25 v26 v27 v28 v29 v30 v31 v32 v33 v34 v35 v36 v37 v38 v39 v40 v41 v42 v43 v44 v45 v46 v47 v48 v49 v50 v51 v52 v53 v54 v55 v56 v57 v58 v59 v60 v61 v62 v63 v64 v65 v66 v67 v68 : Value, a = { tmps := #[.pointer (some ⟨t, 0, none⟩), v1, v2, v3, v4, v5, v6, v7, v8, v9, v10, v11, v12, v13, v14, v15, v16, v17, v18, v19, v20, v21, v22, v23, v24, v25, v26, v27, v28, v29, v30, v31, v32, v33, v34, v35, v36, v37, v38, v39, v40, v41, v42, v43, v44, v45, v46, v47, v48, v49, v50, v51, v52, v53, v54, v55, v56, v57, v58, v59, v60, v61, v62, v63, v64, v65, v66, v67, v68], defers := [] }
/-- the state of text at its loop's head -/
def TxI (W : World) (B t p mb g : Nat) (k : Int) (n : Nat) (rg : Bool) (gvs : List Nat) (r : Nat) (a : Act) (w : World) : Prop :=
  TxA t a ∧ ∃ ta tc pa pc tasks pieces td, TxP k n rg r tasks pieces td ∧ TS B w t (.pointer (some ⟨p, 0, none⟩)) ta tc pa pc tasks pieces ∧ WF w t p mb g k n rg gvs td ∧ Fx (fun b => t ≤ b ∨ b = g) W w
theorem flb_len {xs : List ByteArray} {m : Nat} (h : ∀ s ∈ xs, s.data.size ≤ m) : ((xs.map (·.data.toList)).flatten).length ≤ xs.length * m := by
  induction xs with
  | nil => simp
  | cons a l ih =>
    have h1 := h a (List.mem_cons_self ..)
    have h2 := ih (fun s hs => h s (List.mem_cons_of_mem _ hs))
    simp only [List.map_cons, List.flatten_cons, List.length_append, List.length_cons, Array.length_toList] at h2 ⊢
    rw [Nat.add_mul]; omega
theorem dgS_len (j : Nat) : (dgS j).data.size ≤ 3 := by
  have key : ∀ x : Fin 10, (dgS x.val).data.size ≤ 3 := by decide +kernel
  have := key ⟨j % 10, Nat.mod_lt _ (by decide)⟩
  simpa [dgS] using this
theorem PcL_small (rg : Bool) : ∀ j, ∀ s ∈ PcL rg j, s.data.size ≤ 3
  | 0 => by simp [PcL]
  | 1 => by
    intro s hs
    cases rg
    · simp [PcL, opS] at hs; subst hs; decide
    · simp [PcL, opS] at hs
      rcases hs with rfl | rfl | rfl | rfl <;> decide
  | j + 2 => by
    intro s hs
    simp only [PcL, List.mem_append, List.mem_singleton] at hs
    rcases hs with (hs | rfl) | rfl
    · exact PcL_small rg (j + 1) s hs
    · exact dgS_len _
    · decide
theorem finP_small (k : Int) (n : Nat) (rg : Bool) : ∀ s ∈ finP k n rg, s.data.size ≤ 3 := by
  intro s hs
  unfold finP at hs
  split at hs
  · split at hs
    · simp only [List.mem_append, List.mem_cons, List.not_mem_nil, or_false] at hs
      rcases hs with (((hs | rfl) | rfl) | (rfl | rfl | rfl)) | rfl
      · exact PcL_small _ _ s hs
      · exact dgS_len _
      all_goals decide
    · simp only [List.mem_append, List.mem_cons, List.not_mem_nil, or_false] at hs
      rcases hs with (hs | rfl) | rfl
      · exact PcL_small _ _ s hs
      · exact dgS_len _
      · decide
  · simp only [List.mem_append, List.mem_replicate, List.mem_singleton] at hs
    rcases hs with ⟨_, rfl⟩ | rfl
    · decide
    · decide
theorem finP_pos (k : Int) (n : Nat) (rg : Bool) : 0 < (finP k n rg).length := by
  unfold finP
  split
  · split <;> simp
  · simp
set_option maxRecDepth 100000 in
set_option maxHeartbeats 4000000 in
theorem text_chain {W : World} {t p mb g n : Nat} {k : Int} {rg : Bool} {gvs : List Nat} (hk : k = 1 ∨ k = 2) (hrk : k = 2 → rg = false) (hn : 1 ≤ n ∧ n ≤ 600) (h : TL W t (.pointer (some ⟨p, 0, none⟩)) (.slice none 0 0) (.slice none 0 0)) (hF : WF W t p mb g k n rg gvs (fun _ => false)) :
    Calls Tryd.prog 15 #[.pointer (some ⟨t, 0, none⟩), .agg #[.int .i64 2, .int .i64 1]] W fun e w' => e = .returned (.string ⟨(((finP k n rg).map (·.data.toList)).flatten).toArray⟩) ∧ Fx (fun b => t ≤ b ∨ b = g) W w' := by
  have hTS : TS W.heap.size W t (.pointer (some ⟨p, 0, none⟩)) none 0 none 0 [] [] := ⟨h, ⟨rfl, .inl ⟨rfl, rfl⟩⟩, ⟨rfl, .inl ⟨rfl, rfl⟩⟩, h.lt, Nat.le_refl _⟩
  have o1 : Out 0 0 W (W.alloc (.cells #[.int .i64 2, .int .i64 1] 28)) := (Out.refl _ _ _).alloc _
  have b1 := Bl.new W #[.int .i64 2, .int .i64 1] 28
  have x0 := b1.cell (i := 0) rfl
  have x1 := b1.cell (i := 1) rfl
  have hA := later1_new (c := 1) (x := 0) (y := 2) (z := 1) (hTS.out o1) (by simp)
  rw [size_alloc] at hA
  have HA := hid_mk hA
  have HS := hid_mk hTS
  have HF := hid_mk hF
  have HO := hid_mk o1
  have HK := hid_mk hk
  have HRK := hid_mk hrk
  have HN := hid_mk hn
  clear hA hTS hF o1 h hk hrk hn b1
  go_enter Tryd.func15, Tryd.ntmps15
  go_wp2_with (go_at_call 19; refine HA.out.mono ?_; rintro e w3 ⟨⟨v3, rfl⟩, ta1, tc1, pa1, pc1, h1, x1', hr1⟩)
  have HL := hid_mk (And.intro h1 (And.intro x1' hr1))
  clear h1 x1' hr1 x0 x1
  refine wp_loop_ix (TxI W W.heap.size t p mb g k n rg gvs) (3 * n + 10) ?start ?round
  case start =>
    obtain ⟨h1, x1', hr1⟩ := HL.out
    have x2 : Fx (fun b => RW t none none b) W w3 := (Fx.of_out HO.out (fun b h1 h2 _ => by omega)).trans x1'
    exact ⟨⟨_, _, _, _, _, _, _, _, _, _, _, _, _, _, _, _, _, _, _, _, _, _, _, _, _, _, _, _, _, _, _, _, _, _, _, _, _, _, _, _, _, _, _, _, _, _, _, _, _, _, _, _, _, _, _, _, _, _, _, _, _, _, _, _, _, _, _, _, rfl⟩, _, _, _, _, _, _, _, .inl ⟨rfl, rfl, rfl, rfl⟩, h1, HF.out.fx x2 (fun b hb => (RW.lt HS.out hb).1), x2.wide (fun b _ hb => .inl (RW.lt HS.out hb).1)⟩
  case round =>
    clear HL
    rintro r a w ⟨⟨v1, v2, v3, v4, v5, v6, v7, v8, v9, v10, v11, v12, v13, v14, v15, v16, v17, v18, v19, v20, v21, v22, v23, v24, v25, v26, v27, v28, v29, v30, v31, v32, v33, v34, v35, v36, v37, v38, v39, v40, v41, v42, v43, v44, v45, v46, v47, v48, v49, v50, v51, v52, v53, v54, v55, v56, v57, v58, v59, v60, v61, v62, v63, v64, v65, v66, v67, v68, rfl⟩, ta, tc, pa, pc, tasks, pieces, td, hP, hS, hF, hX⟩
    rcases List.eq_nil_or_concat tasks with rfl | ⟨tasks, ⟨qa, qb, qc⟩, rfl⟩
    · have s1 := hS.1.cell (i := 1) rfl
      have s2 := hS.1.cell (i := 2) rfl
      have hpf : pieces = finP k n rg := by
        rcases hP with ⟨h, _⟩ | ⟨_, j, _, _, h, _⟩ | ⟨_, j, _, _, h, _⟩ | ⟨_, _, h, _⟩ | ⟨_, _, h, _⟩ | ⟨_, j, _, _, h, _⟩ | ⟨_, h, _⟩
        · simp at h
        · simp at h
        · simp at h
        · simp at h
        · simp at h
        · simp at h
        · exact h
      subst hpf
      obtain ⟨g2, cur2, rfl, hg2, hB2, hcap, hcs, htk⟩ := own_row hS.2.2.1 (finP_pos k n rg) (by decide)
      have hln := (hP.len HN.out.2).2
      have HJ := hid_mk (joined_any (w := w) (g := g2) (o := 0) (c := pc) (finP k n rg) (fun j x hx => by
        have h1 : (stL (finP k n rg))[j]? = some (.string x) := by simp [stL, hx]
        rw [← htk, List.getElem?_take] at h1
        split at h1
        · rw [Nat.zero_add]; exact hB2.cell (by simpa using h1)
        · simp at h1) hB2.lt (by omega) hcap (by have := flb_len (finP_small k n rg); omega))
      generalize hfl : (finP k n rg).length = L at HJ s2
      obtain ⟨js, hjs⟩ : ∃ js, (((finP k n rg).map (·.data.toList)).flatten).toArray = js := ⟨_, rfl⟩
      rw [hjs] at HJ
      have HJS := hid_mk hjs
      have HX := hid_mk hX
      clear hS hF hP hB2 hcap hcs htk hln hX hfl hjs HA HS HF HO
      go_wp2_with (go_at_call 23; refine HJ.out.mono ?_; rintro e w5 ⟨rfl, o5⟩)
      go_ret
      exact ⟨by rw [HJS.out]; rfl, HX.out.trans (Fx.of_out o5 (fun b h1 h2 _ => by omega))⟩
    · rw [List.concat_eq_append] at *
      obtain ⟨g0, rfl, hg0, htc, c0, c1, c2, hrow⟩ := hS.pop
      obtain ⟨L, hL⟩ : ∃ L, tasks.length = L := ⟨_, rfl⟩
      have hLs : (tasks ++ [(qa, qb, qc)]).length = L + 1 := by simp [hL]
      have hLb := (hP.len HN.out.2).1
      rw [hLs] at hLb
      have l0 : (0 : Int) ≤ (L : Int) := by omega
      have l1 : (L : Int) ≤ 900 := by omega
      have hTL := hS.1
      rw [hLs] at hTL
      rw [hL] at c0 c1 c2 hrow htc
      have s1 := hTL.cell (i := 1) rfl
      have z1 := hTL.frozen 1
      have hTLa : TL (w.alloc (.cells #[.int .i64 qa, .int .i64 qb, .int .i64 qc] 72)) t _ _ _ := hTL.alloc _
      have s3 := hTLa.cell (i := 1) rfl
      have z3 := hTLa.frozen 1
      clear hTLa
      have hpl := (hP.len HN.out.2).2
      obtain ⟨W4, hW4⟩ : ∃ X, (w.alloc (.cells #[.int .i64 qa, .int .i64 qb, .int .i64 qc] 72)).setCell ⟨t, 1, none⟩ (.slice (some ⟨g0, 0, none⟩) L tc) = X := ⟨_, rfl⟩
      have o4 : Out t (t + 1) w W4 := by rw [← hW4]; exact ((Out.refl _ _ _).alloc _).setCell (p := ⟨t, 1, none⟩) (.inl ⟨Nat.le_refl _, Nat.lt_succ_self _⟩) _
      have x4 : Fx (fun b => b = t) w W4 := Fx.of_out o4 (fun b h1 h2 _ => by omega)
      have hT4 : TS W.heap.size W4 t (.pointer (some ⟨p, 0, none⟩)) (some ⟨g0, 0, none⟩) tc pa pc tasks pieces := by
        refine ⟨?_, ?_, own_fx hS.2.2.1 x4 (fun g e e2 => by have := (own_ge hS.2.2.1 e).1; have := hS.2.2.2.1; omega), hS.2.2.2.1, Nat.le_trans hS.2.2.2.2 x4.size⟩
        · rw [← hW4, hL]; exact (Bl.alloc hTL _).set 1 _
        · rw [hL]; exact own_fx hrow x4 (fun g e e2 => by have := (own_ge hrow e).1; have := hS.2.2.2.1; omega)
      have hF4 := hF.fx x4 (fun b h => by omega)
      have k4 : Bl W4 w.heap.size #[.int .i64 qa, .int .i64 qb, .int .i64 qc] 72 := by rw [← hW4]; exact (Bl.new w _ _).other (by show t ≠ w.heap.size; have := hTL.lt; omega) _
      have n0 := k4.cell (i := 0) rfl
      have n1 := k4.cell (i := 1) rfl
      have n2 := k4.cell (i := 2) rfl
      rw [← hW4] at n0 n1 n2
      have H4 := hid_mk (And.intro hT4 (And.intro hF4 (And.intro (hX.trans (x4.wide (fun b _ h => .inl (Nat.le_of_eq h.symm)))) hpl)))
      have HW4 := hid_mk hW4
      have hst := tx_step HK.out HRK.out HN.out hP hT4 hF4
      clear hS hF hX hTL hrow o4 x4 hT4 hF4 k4 hpl hg0 hLs HA HS HF HO
      have key : ∀ e w6, TxQ W.heap.size t p mb g k n rg gvs W4 r e w6 → (∃ v, e = .returned v) ∧ ∀ v1 v2 v3 v4 v5 v6 v7 v8 v9 v10 v11 v12 v13 v14 v15 v16 v17 v18 v19 v20 v21 v22 v23 v24 v25 v26 v27 v28 v29 v30 v31 v32 v33 v34 v35 v36 v37 v38 v39 v40 v41 v42 v43 v44 v45 v46 v47 v48 v49 v50 v51 v52 v53 v54 v55 v56 v57 v58 v59 v60 v61 v62 v63 v64 v65 v66 v67 v68, ∃ r', r' < r ∧ TxI W W.heap.size t p mb g k n rg gvs r' { tmps := #[.pointer (some ⟨t, 0, none⟩), v1, v2, v3, v4, v5, v6, v7, v8, v9, v10, v11, v12, v13, v14, v15, v16, v17, v18, v19, v20, v21, v22, v23, v24, v25, v26, v27, v28, v29, v30, v31, v32, v33, v34, v35, v36, v37, v38, v39, v40, v41, v42, v43, v44, v45, v46, v47, v48, v49, v50, v51, v52, v53, v54, v55, v56, v57, v58, v59, v60, v61, v62, v63, v64, v65, v66, v67, v68], defers := [] } w6 := by
        rintro e w6 ⟨r', tasks', pieces', td', hr, hP', ⟨hv, ta', tc', pa', pc', hT', x6, _⟩, hF'⟩
        exact ⟨hv, fun _ _ _ _ _ _ _ _ _ _ _ _ _ _ _ _ _ _ _ _ _ _ _ _ _ _ _ _ _ _ _ _ _ _ _ _ _ _ _ _ _ _ _ _ _ _ _ _ _ _ _ _ _ _ _ _ _ _ _ _ _ _ _ _ _ _ _ _ => ⟨r', hr, ⟨_, _, _, _, _, _, _, _, _, _, _, _, _, _, _, _, _, _, _, _, _, _, _, _, _, _, _, _, _, _, _, _, _, _, _, _, _, _, _, _, _, _, _, _, _, _, _, _, _, _, _, _, _, _, _, _, _, _, _, _, _, _, _, _, _, _, _, _, rfl⟩, ta', tc', pa', pc', tasks', pieces', td', hP', hT', hF', H4.out.2.2.1.trans x6⟩⟩
      have HKEY := hid_mk key
      clear key hP
      rcases hst with ⟨rfl, hC⟩ | ⟨rfl, hC⟩ | ⟨rfl, r', hr, hP'⟩
      · have HC := hid_mk hC
        rw [← hW4] at HC
        clear hC hW4
        go_wp2_with (go_at_call 20; refine HC.out.mono ?_; rintro e w6 hQ; rw [HW4.out] at hQ; have HQ := hid_mk (HKEY.out _ _ hQ); obtain ⟨v6, rfl⟩ := HQ.out.1; clear hQ)
        exact HQ.out.2 _ _ _ _ _ _ _ _ _ _ _ _ _ _ _ _ _ _ _ _ _ _ _ _ _ _ _ _ _ _ _ _ _ _ _ _ _ _ _ _ _ _ _ _ _ _ _ _ _ _ _ _ _ _ _ _ _ _ _ _ _ _ _ _ _ _ _ _
      · have HC := hid_mk hC
        rw [← hW4] at HC
        clear hC hW4
        go_wp2_with (go_at_call 21; refine HC.out.mono ?_; rintro e w6 hQ; rw [HW4.out] at hQ; have HQ := hid_mk (HKEY.out _ _ hQ); obtain ⟨v6, rfl⟩ := HQ.out.1; clear hQ)
        exact HQ.out.2 _ _ _ _ _ _ _ _ _ _ _ _ _ _ _ _ _ _ _ _ _ _ _ _ _ _ _ _ _ _ _ _ _ _ _ _ _ _ _ _ _ _ _ _ _ _ _ _ _ _ _ _ _ _ _ _ _ _ _ _ _ _ _ _ _ _ _ _
      · have HR := hid_mk (And.intro hr hP')
        clear hr hP'
        have hA := add_new (c := 1) H4.out.1 (cs := #[.string ⟨#[41]⟩]) (ss := [⟨#[41]⟩]) (m := 1) rfl rfl (by decide) (by decide) (by have := H4.out.2.2.2; omega)
        have hs4 : W4.heap.size = w.heap.size + 1 := by rw [← hW4, size_set, size_alloc]
        rw [hs4, ← hW4] at hA
        have HC := hid_mk hA
        clear hA hW4 hs4
        go_wp2_with (go_at_call 22; refine HC.out.mono ?_; rintro e w6 hQ; rw [HW4.out] at hQ; have HQ := hid_mk hQ; obtain ⟨v6, rfl⟩ := HQ.out.1; clear hQ)
        obtain ⟨hr, hP'⟩ := HR.out
        obtain ⟨hv, ta', tc', pa', pc', hT', x6, _⟩ := HQ.out
        have x7 := x6.wide (S' := fun b => t ≤ b ∨ b = g) (fun b _ h => .inl (RW.lt H4.out.1 h).1)
        exact ⟨r', hr, ⟨_, _, _, _, _, _, _, _, _, _, _, _, _, _, _, _, _, _, _, _, _, _, _, _, _, _, _, _, _, _, _, _, _, _, _, _, _, _, _, _, _, _, _, _, _, _, _, _, _, _, _, _, _, _, _, _, _, _, _, _, _, _, _, _, _, _, _, _, rfl⟩, ta', tc', pa', pc', _, _, td, hP', hT', H4.out.2.1.fx x6 (fun b h => (RW.lt H4.out.1 h).1), H4.out.2.2.1.trans x7⟩
end Go.Proofs.YtmfnkhonghemeaaDoor
