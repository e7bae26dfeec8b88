import Derived.Test.YtapjfokkcgdhhaaDoorQal
namespace Go.Proofs.YtapjfokkcgdhhaaDoor
open Go.RowKit
set_option linter.unusedVariables false
set_option linter.unusedSimpArgs false

theorem ByIn.own {w : World} {base : Nat} {A' : Option Addr} {n C' hi : Nat} {t : List Int} (hB : Byt t) (h : w.ownsRow base 5 1 (.slice A' n C') n (bvs t)) (hq : ∀ q, (Value.slice A' n C').ownBlock = some q → q < hi) : ByIn w hi A' t := by
  refine ⟨hB, ?_⟩
  rcases h.2 with ⟨e, h0⟩ | ⟨g, cap, cur, e, h1, h2, h3, h4, h5, h6⟩
  · left
    have := h.1
    rw [bvs_len, h0] at this
    exact List.eq_nil_of_length_eq_zero (by simpa using this)
  · right
    cases e
    refine ⟨g, 0, rfl, hq g rfl, fun j x hj => ?_⟩
    have hl := h.1
    rw [bvs_len] at hl
    have hj' := (List.getElem?_eq_some_iff.1 hj).1
    have e8 : (cur.toList.take (n * 1))[j]? = (bvs t)[j]? := by rw [h6]
    unfold bvs at e8
    rw [List.getElem?_take, if_pos (by omega), List.getElem?_map, hj] at e8
    have : cur[j]? = some (.int .u8 x) := by simpa using e8
    rw [Nat.zero_add]
    exact Bl.cell h2 this
theorem TR.tx {w : World} {g hi m : Nat} {ts : List (List Int)} (h : TR w g hi m ts) (hg : g < hi) : TxIn w hi (some ⟨g, 0, none⟩) ts := by
  obtain ⟨cs, h1, h2, h3, h4⟩ := h
  refine .inr ⟨g, 0, rfl, hg, fun j t hj => ?_⟩
  obtain ⟨hb, A', C', k1, k2, k3⟩ := h3 j t hj
  exact ⟨A', C', by rw [Nat.zero_add]; exact h1.cell k1, ByIn.own hb k2 k3⟩
theorem FR.fn {w : World} {g hi m : Nat} {fs : List (Int × Int × Int × List (Int × Int))} (h : FR w g hi m fs) (hg : g < hi) : FnIn w hi (some ⟨g, 0, none⟩) fs := by
  obtain ⟨cs, h1, h2, h3, h4⟩ := h
  refine .inr ⟨g, 0, rfl, hg, fun j f hj => ?_⟩
  obtain ⟨gc, a1, a2, a3, a4, a5, a6, cd, b1, b2, b3⟩ := h3 j f hj
  refine ⟨_, _, by rw [Nat.zero_add]; exact h1.cell a3, by rw [Nat.zero_add]; exact h1.cell a4, by rw [Nat.zero_add]; exact h1.cell a5, by rw [Nat.zero_add]; exact h1.cell a6, .inr ⟨gc, 0, rfl, a2, fun k x hk => ?_⟩⟩
  obtain ⟨d1, d2⟩ := b3 k x hk
  exact ⟨by rw [Nat.zero_add]; exact b1.cell d1, by rw [Nat.zero_add]; exact b1.cell d2⟩
theorem TxIn.up {w : World} {B C : Nat} {p : Option Addr} {ts : List (List Int)} (h : TxIn w B p ts) (hc : B ≤ C) : TxIn w C p ts := by
  rcases h with h | ⟨g, off, h1, h2, h3⟩
  · exact .inl h
  · refine .inr ⟨g, off, h1, by omega, fun j t hj => ?_⟩
    obtain ⟨pj, cj, c1, hb, c2⟩ := h3 j t hj
    refine ⟨pj, cj, c1, hb, ?_⟩
    rcases c2 with c2 | ⟨g2, o2, q1, q2, q3⟩
    · exact .inl c2
    · exact .inr ⟨g2, o2, q1, by omega, q3⟩
theorem FnIn.up {w : World} {B C : Nat} {p : Option Addr} {fs : List (Int × Int × Int × List (Int × Int))} (h : FnIn w B p fs) (hc : B ≤ C) : FnIn w C p fs := by
  rcases h with h | ⟨g, off, h1, h2, h3⟩
  · exact .inl h
  · refine .inr ⟨g, off, h1, by omega, fun j t hj => ?_⟩
    obtain ⟨pj, cj, c1, c2, c3, c4, c5⟩ := h3 j t hj
    refine ⟨pj, cj, c1, c2, c3, c4, ?_⟩
    rcases c5 with c5 | ⟨g2, o2, q1, q2, q3⟩
    · exact .inl c5
    · exact .inr ⟨g2, o2, q1, by omega, q3⟩
theorem ByIn.up {w : World} {B C : Nat} {p : Option Addr} {t : List Int} (h : ByIn w B p t) (hc : B ≤ C) : ByIn w C p t := by
  refine ⟨h.1, ?_⟩
  rcases h.2 with c5 | ⟨g2, o2, q1, q2, q3⟩
  · exact .inl c5
  · exact .inr ⟨g2, o2, q1, by omega, q3⟩
theorem PrAt.tx {w : World} {lo gt gf : Nat} {ts : List (List Int)} {fs : List (Int × Int × Int × List (Int × Int))} (h : PrAt w lo gt gf ts fs) : TxIn w w.heap.size (some ⟨gt, 0, none⟩) ts := (h.2.2.1.tx h.2.1).up (Nat.le_of_lt h.2.2.2.lt)
theorem PrAt.fn {w : World} {lo gt gf : Nat} {ts : List (List Int)} {fs : List (Int × Int × Int × List (Int × Int))} (h : PrAt w lo gt gf ts fs) : FnIn w w.heap.size (some ⟨gf, 0, none⟩) fs := h.2.2.2.fn h.2.2.2.lt
/-- the sample -/
def smT : List (List Int) := [[104, 105]]
def smF : List (Int × Int × Int × List (Int × Int)) := [(0, 2, 0, [(1, -300), (5, -2), (6, 1), (19, 0)])]
theorem sm_ok : okP (1, smT, smF) := by
  refine ⟨by decide, by decide, ?_, by decide, ?_⟩
  · intro t ht; simp [smT] at ht; subst ht; unfold okT; decide
  · intro f hf
    simp [smF] at hf
    subst hf
    refine ⟨by decide, by decide, by decide, by decide, ?_⟩
    intro x hx
    simp at hx
    rcases hx with rfl | rfl | rfl | rfl <;> (unfold okI opS; simp)
theorem sm_len : 20 < (encP (1, smT, smF)).length ∧ (encP (1, smT, smF)).length ≤ 100 := by
  have z1 : zig (-300) = 599 := by decide
  have n1 : numB 599 = [215, 4] := by rw [numB_ge (by decide), numB_lt (by decide)]; rfl
  have l8 : (le8 (-2)).length = 8 := by unfold le8; simp
  simp [encP, smT, smF, encT, encF, encI, opB, opS, numB_lt, z1, n1, l8]
theorem sm_mi : ∀ f ∈ smF, MI f.2.2.2 := by
  intro f hf
  simp [smF] at hf
  subst hf
  intro x hx
  simp at hx
  rcases hx with rfl | rfl | rfl | rfl <;> simp
/-- what sample leaves -/
def SpQ (w : World) (e : Ending) (w' : World) : Prop := Out 0 0 w w' ∧ ∃ g1 g2, e = .returned (.agg #[.int .i64 1, .slice (some ⟨g1, 0, none⟩) 1 1, .slice (some ⟨g2, 0, none⟩) 1 1]) ∧ TxIn w' w'.heap.size (some ⟨g1, 0, none⟩) smT ∧ FnIn w' w'.heap.size (some ⟨g2, 0, none⟩) smF
set_option maxRecDepth 100000 in
set_option maxHeartbeats 1000000 in
theorem sample_any (w : World) : Calls Tryd.prog 11 #[] w fun e w' => SpQ w e w' := by
  have hcv := Go.Joins.run_convert_bytes_const_at (P := Tryd.prog) (w.alloc (.cells #[.int .i64 0, .slice none 0 0, .slice none 0 0] 35)) 22 5 #[.int .u8 104, .int .u8 105] 2 2 (w.heap.size + 1) (size_alloc _ _).symm Tryd.underlying22 Tryd.underlying5
  go_enter Tryd.func11, Tryd.ntmps11
  go_wp2
  have o1 := fun (v : World) (x : Obj) => (Out.refl 0 0 v).alloc x
  refine ret_cell Tryd.results11 rfl rfl (load_pr ((((((Bl.new w _ _).alloc _).alloc _).alloc _).alloc _))) ⟨((((((Out.refl 0 0 w).alloc _).alloc _).alloc _).alloc _).alloc _), w.heap.size + 1 + 1, w.heap.size + 1 + 1 + 1 + 1, rfl, ?_, ?_⟩
  · refine .inr ⟨w.heap.size + 1 + 1, 0, rfl, by simp only [size_alloc]; omega, fun j t hj => ?_⟩
    match j, hj with
    | 0, hj =>
      cases hj
      refine ⟨some ⟨w.heap.size + 1, 0, none⟩, 2, ?_, ?_, .inr ⟨w.heap.size + 1, 0, rfl, by simp only [size_alloc]; omega, fun k x hk => ?_⟩⟩
      · have q := (Bl.new ((w.alloc (.cells #[.int .i64 1, .slice (some ⟨w.heap.size + 1 + 1, 0, none⟩) 1 1, .slice (some ⟨w.heap.size + 1 + 1 + 1 + 1, 0, none⟩) 1 1] 35)).alloc (.cells #[.int .u8 104, .int .u8 105] 5 (2, 3))) #[.slice (some ⟨w.heap.size + 1, 0, none⟩) 2 2] 22)
        simp only [size_alloc] at q
        exact ((q.alloc _).alloc _).cell (i := 0) rfl
      · intro b hb; simp at hb; omega
      · have q : ∀ (i : Nat) v, (#[Value.int .u8 104, .int .u8 105] : Array Value)[i]? = some v → ((w.alloc (.cells #[.int .i64 1, .slice (some ⟨w.heap.size + 1 + 1, 0, none⟩) 1 1, .slice (some ⟨w.heap.size + 1 + 1 + 1 + 1, 0, none⟩) 1 1] 35)).alloc (.cells #[.int .u8 104, .int .u8 105] 5 (2, 3))).cell? ⟨w.heap.size + 1, i, none⟩ = some v := fun i v hv => by
          rw [Go.Joins.cell_alloc_mark_at _ _ _ _ _ _ (size_alloc _ _).symm]; exact hv
        refine cell0 (cell0 (cell0 (q (0 + k) _ ?_) (o1 _ _)) (o1 _ _)) (o1 _ _)
        match k, hk with
        | 0, hk => cases hk; rfl
        | 1, hk => cases hk; rfl
        | k + 2, hk => simp at hk
    | j + 1, hj => simp [smT] at hj
  · refine .inr ⟨w.heap.size + 1 + 1 + 1 + 1, 0, rfl, by simp only [size_alloc]; omega, fun j f hj => ?_⟩
    match j, hj with
    | 0, hj =>
      cases hj
      have q := Bl.new ((((w.alloc (.cells #[.int .i64 1, .slice (some ⟨w.heap.size + 1 + 1, 0, none⟩) 1 1, .slice (some ⟨w.heap.size + 1 + 1 + 1 + 1, 0, none⟩) 1 1] 35)).alloc (.cells #[.int .u8 104, .int .u8 105] 5 (2, 3))).alloc (.cells #[.slice (some ⟨w.heap.size + 1, 0, none⟩) 2 2] 22)).alloc (.cells #[.int .i64 1, .int .i64 (-300), .int .i64 5, .int .i64 (-2), .int .i64 6, .int .i64 1, .int .i64 19, .int .i64 0] 61)) #[.int .i64 0, .int .i64 2, .int .i64 0, .slice (some ⟨w.heap.size + 1 + 1 + 1, 0, none⟩) 4 4] 40
      simp only [size_alloc] at q
      have q2 := (Bl.new (((w.alloc (.cells #[.int .i64 1, .slice (some ⟨w.heap.size + 1 + 1, 0, none⟩) 1 1, .slice (some ⟨w.heap.size + 1 + 1 + 1 + 1, 0, none⟩) 1 1] 35)).alloc (.cells #[.int .u8 104, .int .u8 105] 5 (2, 3))).alloc (.cells #[.slice (some ⟨w.heap.size + 1, 0, none⟩) 2 2] 22)) #[.int .i64 1, .int .i64 (-300), .int .i64 5, .int .i64 (-2), .int .i64 6, .int .i64 1, .int .i64 19, .int .i64 0] 61).alloc (.cells #[.int .i64 0, .int .i64 2, .int .i64 0, .slice (some ⟨w.heap.size + 1 + 1 + 1, 0, none⟩) 4 4] 40)
      simp only [size_alloc] at q2
      refine ⟨some ⟨w.heap.size + 1 + 1 + 1, 0, none⟩, 4, q.cell (i := 0) rfl, q.cell (i := 1) rfl, q.cell (i := 2) rfl, q.cell (i := 3) rfl, .inr ⟨w.heap.size + 1 + 1 + 1, 0, rfl, by simp only [size_alloc]; omega, fun k x hk => ?_⟩⟩
      match k, hk with
      | 0, hk => cases hk; exact ⟨q2.cell (i := 0) rfl, q2.cell (i := 1) rfl⟩
      | 1, hk => cases hk; exact ⟨q2.cell (i := 2) rfl, q2.cell (i := 3) rfl⟩
      | 2, hk => cases hk; exact ⟨q2.cell (i := 4) rfl, q2.cell (i := 5) rfl⟩
      | 3, hk => cases hk; exact ⟨q2.cell (i := 6) rfl, q2.cell (i := 7) rfl⟩
      | k + 4, hk => simp at hk
    | j + 1, hj => simp [smF] at hj
end Go.Proofs.YtapjfokkcgdhhaaDoor
namespace Go.Proofs.YtapjfokkcgdhhaaDoor
open Go.RowKit
set_option linter.unusedVariables false
set_option linter.unusedSimpArgs false

theorem rd_ok {w w' : World} {n : Nat} {bs : List Int} {e : Ending} {x : Int} {ts : List (List Int)} {fs : List (Int × Int × Int × List (Int × Int))} (h : RdQ w n bs e w') (hn : n ≤ 65536) (hw : wholeR bs = .inr (x, ts, fs)) : Out 0 0 w w' ∧ ∃ gt gf, PrAt w' w.heap.size gt gf ts fs ∧ e = .returned (.tuple #[.agg #[.int .i64 x, .slice (some ⟨gt, 0, none⟩) ts.length ts.length, .slice (some ⟨gf, 0, none⟩) fs.length fs.length], .int .i64 0, .int .i64 0]) := by
  obtain ⟨o, h | h | h⟩ := h
  · omega
  · obtain ⟨_, x', q, h1, _⟩ := h; rw [hw] at h1; cases h1
  · obtain ⟨_, x', ts', fs', gt, gf, h1, h2, h3⟩ := h
    rw [hw] at h1
    cases h1
    exact ⟨o, gt, gf, h2, h3⟩
theorem rd_err {w w' : World} {n : Nat} {bs : List Int} {e : Ending} {x : Int} {q : Nat} (h : RdQ w n bs e w') (hn : n ≤ 65536) (hw : wholeR bs = .inl (x, q)) : Out 0 0 w w' ∧ e = .returned (.tuple #[.agg #[.int .i64 0, .slice none 0 0, .slice none 0 0], .int .i64 (q : Int), .int .i64 x]) := by
  obtain ⟨o, h | h | h⟩ := h
  · omega
  · obtain ⟨_, x', q, h1, h2⟩ := h
    rw [hw] at h1
    cases h1
    exact ⟨o, h2⟩
  · obtain ⟨_, x', ts', fs', gt, gf, h1, h2, h3⟩ := h; rw [hw] at h1; cases h1
theorem rd_long {w w' : World} {n : Nat} {bs : List Int} {e : Ending} (h : RdQ w n bs e w') (hn : 65536 < n) : Out 0 0 w w' ∧ e = .returned (.tuple #[.agg #[.int .i64 0, .slice none 0 0, .slice none 0 0], .int .i64 0, .int .i64 2]) := by
  obtain ⟨o, h | h | h⟩ := h
  · exact ⟨o, h.2⟩
  · omega
  · omega
theorem enc_byt {P : Int × List (List Int) × List (Int × Int × Int × List (Int × Int))} (h : okP P) (ht : ∀ t ∈ P.2.1, Byt t) : Byt (encP P) := by
  have hI : ∀ x, okI x → Byt (encI x) := by
    intro x hx
    have := opS_in hx.1
    refine Byt.cons (by omega) (by omega) ?_
    unfold opB
    split
    · exact numB_byt _
    split
    · exact numB_byt _
    split
    · exact le8_byt _
    · exact Byt.nil
  have hflat : ∀ {α : Type} (f : α → List Int) (l : List α), (∀ x ∈ l, Byt (f x)) → Byt (l.flatMap f) := by
    intro α f l hl b hb
    obtain ⟨x, hx, hb⟩ := List.mem_flatMap.1 hb
    exact hl x hx b hb
  unfold encP
  refine Byt.app (by intro b hb; simp at hb; omega) ((numB_byt _).app ((numB_byt _).app ((hflat _ _ fun t h2 => ?_).app ((numB_byt _).app (hflat _ _ fun f h2 => ?_)))))
  · exact (numB_byt _).app (ht t h2)
  · exact (numB_byt _).app ((numB_byt _).app ((numB_byt _).app ((numB_byt _).app (hflat _ _ fun x h3 => hI x ((h.2.2.2.2 f h2).2.2.2.2 x h3)))))
theorem sm_byt : Byt (encP (1, smT, smF)) := enc_byt sm_ok (by intro t ht; simp [smT] at ht; subst ht; intro b hb; simp at hb; omega)
set_option maxRecDepth 100000 in
set_option maxHeartbeats 2000000 in
theorem alive_any {w : World} (hT : Ty w) : Calls Tryd.prog 5 #[] w fun e w' => e = .returned (.bool true) ∧ Out 0 0 w w' := by
  have HT := hid_mk hT
  obtain ⟨E, hE⟩ : ∃ E, encP (1, smT, smF) = E := ⟨_, rfl⟩
  obtain ⟨L, hL⟩ : ∃ L, E.length = L := ⟨_, rfl⟩
  have hw := wr_ok sm_ok (by have := sm_len; omega)
  rw [hE] at hw
  have hL1 : Hid (20 < L ∧ L ≤ 100) := hid_mk (by rw [← hL, ← hE]; exact sm_len)
  have hEB : Hid (Byt E) := hid_mk (by rw [← hE]; exact sm_byt)
  have hR : Hid (wholeR E = .inr (1, smT, smF)) := hid_mk (by rw [← hE]; exact rd_wr sm_ok)
  have HW := hid_mk hw
  have HL := hid_mk hL
  have HWr : Hid (∀ (w1 : World) (g1 g2 : Nat), Ty w1 → TxIn w1 w1.heap.size (some ⟨g1, 0, none⟩) smT → FnIn w1 w1.heap.size (some ⟨g2, 0, none⟩) smF → Calls Tryd.prog 10 #[.agg #[.int .i64 1, .slice (some ⟨g1, 0, none⟩) 1 1, .slice (some ⟨g2, 0, none⟩) 1 1]] w1 fun e w' => ∃ ra cap, e = .returned (.tuple #[.slice ra L cap, .int .i64 0]) ∧ Out 0 0 w1 w' ∧ ByIn w' w'.heap.size ra E ∧ L ≤ cap) := hid_mk fun w1 g1 g2 q1 q2 q3 => by
    refine (write_any q1 (Nat.le_refl _) 1 smT smF (some ⟨g1, 0, none⟩) (some ⟨g2, 0, none⟩) 1 1 1 1 rfl rfl q2 q3 sm_mi).mono fun e w' ⟨ra, K, cap, h1, h2, h3, h4⟩ => ?_
    rw [HW.out.1] at h1
    rw [HW.out.2] at h3 h4
    have hK : K = L := by rw [← h4]; exact HL.out
    subst hK
    refine ⟨ra, cap, h1, h2, ByIn.own hEB.out h3 (fun q hq => (own_ge h3 hq).2), ?_⟩
    rcases h3.2 with ⟨q, q'⟩ | ⟨g, c2, cur, q, _, _, h9, _⟩
    · omega
    · cases q; exact h9
  clear hT hE hL hw
  go_enter Tryd.func5, Tryd.ntmps5
  go_wp2_with (first
    | (go_at_call 11; refine (sample_any _).mono ?_; rintro e w1 ⟨o1, g1, g2, rfl, t1, f1⟩)
    | (go_at_call 10; refine (HWr.out _ _ _ (HT.out.out o1 (.inr rfl)) t1 f1).mono ?_; rintro e w2 ⟨ra, cap, rfl, o2, hb2, hcap⟩)
    | (go_at_call 12; refine (read_any ((HT.out.out o1 (.inr rfl)).out o2 (.inr rfl)) (Nat.le_refl _) hb2 HL.out hcap).mono ?_; intro e w3 hq; obtain ⟨o3, gt, gf, hp, rfl⟩ := rd_ok hq (by have := hL1.out; omega) hR.out))
  clear hq
  have HO := hid_mk ((o1.trans o2).trans o3)
  have HP := hid_mk hp
  clear o1 o2 o3 hp t1 f1 hb2 hcap
  rw [show smT.length = 1 from rfl, show smF.length = 1 from rfl]
  obtain ⟨V, hV⟩ : ∃ V, w3.alloc (.cells #[.int .i64 1, .slice (some ⟨gt, 0, none⟩) 1 1, .slice (some ⟨gf, 0, none⟩) 1 1] 35) = V := ⟨_, rfl⟩
  obtain ⟨g, hg⟩ : ∃ g, w3.heap.size = g := ⟨_, rfl⟩
  have oV : Out 0 0 w3 V := by rw [← hV]; exact (Out.refl 0 0 w3).alloc _
  have bV : Bl V g #[.int .i64 1, .slice (some ⟨gt, 0, none⟩) 1 1, .slice (some ⟨gf, 0, none⟩) 1 1] 35 := by rw [← hV, ← hg]; exact Bl.new _ _ _
  have HV := hid_mk (HO.out.trans oV)
  have HPV := hid_mk (HP.out.kept oV (Nat.zero_le _))
  have h20 : (20 : Int) < (L : Int) := by have := hL1.out; omega
  rw [hV, hg]
  clear hV hg oV
  have HB := hid_mk bV
  refine wp_region_held_drew (S := fun w' => w'.cell? ⟨g, 0, none⟩ = some (.int .i64 1) ∧ w'.cell? ⟨g, 1, none⟩ = some (.slice (some ⟨gt, 0, none⟩) 1 1) ∧ w'.cell? ⟨g, 2, none⟩ = some (.slice (some ⟨gf, 0, none⟩) 1 1)) (by kernel_rfl) ⟨bV.cell (i := 0) rfl, bV.cell (i := 1) rfl, bV.cell (i := 2) rfl⟩ (fun hHeld => ?_)
  clear bV
  refine tk 0 ?_
  refine tk 1 ?_
  refine tk 2 ?_
  refine tk 3 ?_
  refine tk 4 ?_
  refine tk 5 ?_
  refine tk 6 ?_
  refine tk 7 ?_
  refine tk 8 ?_
  refine tk 9 ?_
  refine tk 10 ?_
  refine tk 11 ?_
  refine tk 12 ?_
  refine tk 13 ?_
  refine tk 14 ?_
  refine tk 15 ?_
  refine tk 16 ?_
  refine wpAnyH_ready (rs := [17]) (by kernel_rfl) (by simp) ?_
  refine AllReadyH.cons rfl (fun KK hK => ?_) AllReadyH.nil
  simp only [xa, xb, xc]
  go_simp
  refine (sample_any _).mono ?_
  rintro e w4 ⟨o4, g3, g4, rfl, t4, f4⟩
  have HO4 : Hid (Out 0 0 V w4) := hid_mk (((Out.refl 0 0 V).drew).trans o4)
  have b4 := kept0 HB.out HO4.out
  refine hK.out _ _ ⟨b4.cell (i := 0) rfl, b4.cell (i := 1) rfl, b4.cell (i := 2) rfl⟩ (fun _ => ?_)
  refine wpAnyH_ready (rs := [18]) (by kernel_rfl) (by simp) ?_
  refine AllReadyH.cons rfl (fun KK hK => ?_) AllReadyH.nil
  simp only [xa, xb, xc]
  go_simp
  have hp4 := HPV.out.kept HO4.out (Nat.zero_le _)
  refine (same_any 1 1 smT smT smF smF (some ⟨gt, 0, none⟩) (some ⟨g3, 0, none⟩) (some ⟨gf, 0, none⟩) (some ⟨g4, 0, none⟩) 1 1 1 1 1 1 1 1 rfl rfl rfl rfl hp4.tx t4 hp4.fn f4 ⟨by decide, by decide, by intro f hf; simp [smF] at hf; subst hf; decide⟩).mono ?_
  rintro e w5 ⟨⟨b, rfl, hb⟩, o5⟩
  have hbt : b = true := hb.2 rfl
  subst hbt
  have HO5 : Hid (Out 0 0 w w5) := hid_mk ((HV.out.trans HO4.out).trans o5)
  have b5 := kept0 b4 o5
  refine hK.out _ _ ⟨b5.cell (i := 0) rfl, b5.cell (i := 1) rfl, b5.cell (i := 2) rfl⟩ (fun _ => ?_)
  clear b4 b5 hp4 o4 o5 hb t4 f4
  refine tk 19 ?_
  refine tk 20 ?_
  refine wpAnyH_done (by kernel_rfl) ?_ _
  go_wp2
  go_ret
  exact ⟨rfl, HO5.out⟩
/-- a number brought to 0 .. n - 1 -/
def wiV (x : Int) (n : Nat) : Nat := if x < 0 then ((-(x + 1)) % (n : Int)).toNat else (x % (n : Int)).toNat
theorem wi_lt {x : Int} {n : Nat} (h : 0 < n) : wiV x n < n := by
  unfold wiV
  split
  · have := Int.emod_lt_of_pos (-(x + 1)) (show (0 : Int) < n by omega)
    have := Int.emod_nonneg (-(x + 1)) (show (n : Int) ≠ 0 by omega)
    omega
  · have := Int.emod_lt_of_pos x (show (0 : Int) < n by omega)
    have := Int.emod_nonneg x (show (n : Int) ≠ 0 by omega)
    omega
end Go.Proofs.YtapjfokkcgdhhaaDoor
namespace Go.Proofs.YtapjfokkcgdhhaaDoor
open Go.RowKit
set_option linter.unusedVariables false
set_option linter.unusedSimpArgs false

theorem sum_wrap {a b : Int} (h0 : 0 ≤ a) (h1 : a ≤ 2305843009213693952) (h2 : 0 ≤ b) (h3 : b ≤ 2305843009213693952) : wrap64 (a + b) = a + b := by unfold wrap64; omega
/-- no list is longer than the machine's -/
def Lim (n : Nat) : Prop := (n : Int) ≤ 2305843009213693952
/-- what fits answers -/
def FtQ (w : World) (nt nf : Nat) (fs : List (Int × Int × Int × List (Int × Int))) (e : Ending) (w' : World) : Prop := (∃ b, e = .returned (.bool b) ∧ (b = true → (nt : Int) + (nf : Int) ≤ 300000 ∧ ∀ f ∈ fs, (f.2.2.2.length : Int) ≤ 300000)) ∧ Out 0 0 w w'
theorem FtQ.mk' {w w' : World} {nt nf : Nat} {fs : List (Int × Int × Int × List (Int × Int))} {b : Bool} (h : b = true → (nt : Int) + (nf : Int) ≤ 300000 ∧ ∀ f ∈ fs, (f.2.2.2.length : Int) ≤ 300000) (o : Out 0 0 w w') : FtQ w nt nf fs (.returned (.bool b)) w' := ⟨⟨b, rfl, h⟩, o⟩
theorem le_up {fs : List (Int × Int × Int × List (Int × Int))} {j : Nat} {f : Int × Int × Int × List (Int × Int)} {N : Int} {l : Nat} (hf : fs[j]? = some f) (hl : f.2.2.2.length = l) (h : ∀ e ∈ fs.take j, (e.2.2.2.length : Int) ≤ N) (h0 : 0 ≤ N) : ∀ e ∈ fs.take (j + 1), (e.2.2.2.length : Int) ≤ N + l := by
  intro e he
  rw [List.take_add_one, hf] at he
  rcases List.mem_append.1 he with q | q
  · have := h e q; omega
  · simp at q; subst q; omega
set_option maxRecDepth 100000 in
set_option maxHeartbeats 2000000 in
theorem fits_any {w : World} {B : Nat} (x : Int) (ts : List (List Int)) (fs : List (Int × Int × Int × List (Int × Int))) (ta fa : Option Addr) (nt nf tc fc : Nat) (hnt : ts.length = nt) (hnf : fs.length = nf) (hts : TxIn w B ta ts) (hfs : FnIn w B fa fs) (h1 : Lim nt) (h2 : Lim nf) (h3 : ∀ t ∈ ts, Lim t.length) (h4 : ∀ f ∈ fs, Lim f.2.2.2.length) :
    Calls Tryd.prog 8 #[.agg #[.int .i64 x, .slice ta nt tc, .slice fa nf fc]] w fun e w' => FtQ w nt nf fs e w' := by
  have HA := hid_mk (Bl.new w #[.int .i64 x, .slice ta nt tc, .slice fa nf fc] 35)
  have HO := hid_mk ((Out.refl 0 0 w).alloc (.cells #[.int .i64 x, .slice ta nt tc, .slice fa nf fc] 35))
  obtain ⟨V, hV⟩ : ∃ V, w.alloc (.cells #[.int .i64 x, .slice ta nt tc, .slice fa nf fc] 35) = V := ⟨_, rfl⟩
  rw [hV] at HA HO
  have HT := hid_mk (hts.kept (Lo.of_out HO.out) (Nat.le_refl _))
  have HF := hid_mk (hfs.kept (Lo.of_out HO.out) (Nat.le_refl _))
  have HN := hid_mk (And.intro hnt hnf)
  have HL3 := hid_mk h3
  have HL4 := hid_mk h4
  have hws := sum_wrap (a := (nt : Int)) (b := (nf : Int)) (by omega) h1 (by omega) h2
  have HL : Hid (Lim nt ∧ Lim nf) := hid_mk ⟨h1, h2⟩
  obtain ⟨p, hp⟩ : ∃ p, w.heap.size = p := ⟨_, rfl⟩
  rw [hp] at HA
  have a1 := HA.out.cell (i := 1) rfl
  have a2 := HA.out.cell (i := 2) rfl
  clear hts hfs hnt hnf h1 h2 h3 h4
  go_enter Tryd.func8, Tryd.ntmps8
  go_wp2_with fail
  (try rw [hV])
  (try rw [hp])
  have HWS := hid_mk hws
  have HWS := hid_mk hws
  clear hV hp hws
  go_loopw [3, 4] (fun nv iv wr => ∃ (i : Nat) (N : Int), iv = .int .i64 i ∧ i ≤ nt ∧ nv = .int .i64 N ∧ (nt : Int) + (nf : Int) ≤ N ∧ N ≤ 4611686018427387904 ∧ wr = V) (fun _ iv _ => nt - (intOf iv).toNat)
  case atStart => exact ⟨0, _, rfl, Nat.zero_le _, rfl, by rw [HWS.out]; exact Int.le_refl _, by rw [HWS.out]; have := HL.out; unfold Lim at this; omega, rfl⟩
  case round =>
    obtain ⟨i, N, rfl, him, rfl, hN1, hN2, hwr⟩ := hrel
    subst hwr
    have HN1 := hid_mk hN1
    have HN2 := hid_mk hN2
    clear hN1 hN2 HWS
    by_cases hi : i < nt
    · have g1 : (i : Int) < (nt : Int) := by omega
      by_cases hN : N ≤ 300000
      · have hNd : decide (N ≤ 300000) = true := by simpa using hN
        obtain ⟨t, ht⟩ : ∃ t, ts[i]? = some t := ⟨_, List.getElem?_eq_getElem (by have := HN.out.1; omega)⟩
        rcases HT.out with h0 | ⟨g, off, rfl, hg, hc⟩
        · rw [h0] at ht; cases ht
        obtain ⟨pj, cj, c0, hby⟩ := hc i _ ht
        obtain ⟨lt, hlt⟩ : ∃ k, t.length = k := ⟨_, rfl⟩
        rw [hlt] at c0
        have hlim : Hid ((lt : Int) ≤ 2305843009213693952) := hid_mk (by have := HL3.out _ (List.mem_of_getElem? ht); unfold Lim at this; rw [hlt] at this; exact this)
        have HW := hid_mk (sum_wrap (a := N) (b := (lt : Int)) (by have := HN1.out; omega) (by omega) (by omega) hlim.out)
        have HNl := hid_mk hN
        have nb : (nt : Int) ≤ 300000 := by have := HN1.out; omega
        clear ht hc hby hlt hg hN
        go_wp2
        go_roundw
        case rel => exact ⟨i + 1, N + lt, by go_num, by omega, by rw [HW.out], by have := HN1.out; omega, by have := hlim.out; have := HNl.out; omega, trivial⟩
        case measure => simp [intOf]; omega
      · have hNd : decide (N ≤ 300000) = false := by simpa using hN
        clear hN
        go_wp2
        go_loopw [3, 5] (fun nv jv wz => ∃ (j : Nat) (M : Int), jv = .int .i64 j ∧ j ≤ nf ∧ nv = .int .i64 M ∧ (nt : Int) + (nf : Int) ≤ M ∧ M ≤ 4611686018427387904 ∧ (∀ e ∈ fs.take j, (e.2.2.2.length : Int) ≤ M) ∧ wz = wr) (fun _ jv _ => nf - (intOf jv).toNat)
        case atStart => exact ⟨0, N, rfl, Nat.zero_le _, rfl, HN1.out, HN2.out, by simp, rfl⟩
        case round =>
          obtain ⟨j, M, rfl, hjm, rfl, hM1, hM2, hM3, hwr⟩ := hrel
          subst hwr
          have HM1 := hid_mk hM1
          have HM2 := hid_mk hM2
          have HM3 := hid_mk hM3
          clear hM1 hM2 hM3
          by_cases hj : j < nf
          · have g2 : (j : Int) < (nf : Int) := by omega
            by_cases hM : M ≤ 300000
            · have hMd : decide (M ≤ 300000) = true := by simpa using hM
              obtain ⟨⟨f1, f2, f3, fl⟩, hf⟩ : ∃ t, fs[j]? = some t := ⟨_, List.getElem?_eq_getElem (by have := HN.out.2; omega)⟩
              rcases HF.out with h0 | ⟨g, off, rfl, hg, hc⟩
              · rw [h0] at hf; cases hf
              obtain ⟨pj, cj, c0, c1, c2, c3, hin⟩ := hc j _ hf
              dsimp only at c3
              obtain ⟨lf, hlf⟩ : ∃ k, fl.length = k := ⟨_, rfl⟩
              rw [hlf] at c3
              have hlim : Hid ((lf : Int) ≤ 2305843009213693952) := hid_mk (by have := HL4.out _ (List.mem_of_getElem? hf); unfold Lim at this; dsimp only at this; rw [hlf] at this; exact this)
              have HW := hid_mk (sum_wrap (a := M) (b := (lf : Int)) (by have := HM1.out; omega) (by omega) (by omega) hlim.out)
              have HU := hid_mk (le_up hf hlf HM3.out (by have := HM1.out; omega))
              have HMl := hid_mk hM
              have nb : (nf : Int) ≤ 300000 := by have := HM1.out; omega
              clear hf hc c0 c1 c2 hin hlf hg hM
              go_wp2
              go_roundw
              case rel => exact ⟨j + 1, M + lf, by go_num, by omega, by rw [HW.out], by have := HM1.out; omega, by have := hlim.out; have := HMl.out; omega, HU.out, trivial⟩
              case measure => simp [intOf]; omega
            · have hMd : decide (M ≤ 300000) = false := by simpa using hM
              have HM0 := hid_mk hM
              clear hM
              go_wp2
              go_ret
              exact FtQ.mk' (fun q => by cases q) HO.out
          · have hjE : j = nf := by omega
            subst hjE
            have g2 : ¬ ((j : Int) < (j : Int)) := by omega
            go_wp2
            go_ret
            refine FtQ.mk' (fun q => ?_) HO.out
            have q' : M ≤ 300000 := by simpa using q
            refine ⟨Int.le_trans HM1.out q', fun f hf => Int.le_trans (HM3.out f ?_) q'⟩
            rw [take_all HN.out.2]; exact hf
    · have hiE : i = nt := by omega
      subst hiE
      have g1 : ¬ ((i : Int) < (i : Int)) := by omega
      go_wp2
      go_loopw [3, 5] (fun nv jv wz => ∃ (j : Nat) (M : Int), jv = .int .i64 j ∧ j ≤ nf ∧ nv = .int .i64 M ∧ (i : Int) + (nf : Int) ≤ M ∧ M ≤ 4611686018427387904 ∧ (∀ e ∈ fs.take j, (e.2.2.2.length : Int) ≤ M) ∧ wz = wr) (fun _ jv _ => nf - (intOf jv).toNat)
      case atStart => exact ⟨0, N, rfl, Nat.zero_le _, rfl, HN1.out, HN2.out, by simp, rfl⟩
      case round =>
        obtain ⟨j, M, rfl, hjm, rfl, hM1, hM2, hM3, hwr⟩ := hrel
        subst hwr
        have HM1 := hid_mk hM1
        have HM2 := hid_mk hM2
        have HM3 := hid_mk hM3
        clear hM1 hM2 hM3
        by_cases hj : j < nf
        · have g2 : (j : Int) < (nf : Int) := by omega
          by_cases hM : M ≤ 300000
          · have hMd : decide (M ≤ 300000) = true := by simpa using hM
            obtain ⟨⟨f1, f2, f3, fl⟩, hf⟩ : ∃ t, fs[j]? = some t := ⟨_, List.getElem?_eq_getElem (by have := HN.out.2; omega)⟩
            rcases HF.out with h0 | ⟨g, off, rfl, hg, hc⟩
            · rw [h0] at hf; cases hf
            obtain ⟨pj, cj, c0, c1, c2, c3, hin⟩ := hc j _ hf
            dsimp only at c3
            obtain ⟨lf, hlf⟩ : ∃ k, fl.length = k := ⟨_, rfl⟩
            rw [hlf] at c3
            have hlim : Hid ((lf : Int) ≤ 2305843009213693952) := hid_mk (by have := HL4.out _ (List.mem_of_getElem? hf); unfold Lim at this; dsimp only at this; rw [hlf] at this; exact this)
            have HW := hid_mk (sum_wrap (a := M) (b := (lf : Int)) (by have := HM1.out; omega) (by omega) (by omega) hlim.out)
            have HU := hid_mk (le_up hf hlf HM3.out (by have := HM1.out; omega))
            have HMl := hid_mk hM
            have nb : (nf : Int) ≤ 300000 := by have := HM1.out; omega
            clear hf hc c0 c1 c2 hin hlf hg hM
            go_wp2
            go_roundw
            case rel => exact ⟨j + 1, M + lf, by go_num, by omega, by rw [HW.out], by have := HM1.out; omega, by have := hlim.out; have := HMl.out; omega, HU.out, trivial⟩
            case measure => simp [intOf]; omega
          · have hMd : decide (M ≤ 300000) = false := by simpa using hM
            have HM0 := hid_mk hM
            clear hM
            go_wp2
            go_ret
            exact FtQ.mk' (fun q => by cases q) HO.out
        · have hjE : j = nf := by omega
          subst hjE
          have g2 : ¬ ((j : Int) < (j : Int)) := by omega
          go_wp2
          go_ret
          refine FtQ.mk' (fun q => ?_) HO.out
          have q' : M ≤ 300000 := by simpa using q
          refine ⟨Int.le_trans HM1.out q', fun f hf => Int.le_trans (HM3.out f ?_) q'⟩
          rw [take_all HN.out.2]; exact hf
end Go.Proofs.YtapjfokkcgdhhaaDoor
