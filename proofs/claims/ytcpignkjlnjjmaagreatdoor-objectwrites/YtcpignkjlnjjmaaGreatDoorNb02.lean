import Derived.Test.YtcpignkjlnjjmaaGreatDoorNb01
import Derived.Test.YtcpignkjlnjjmaaGreatDoorNa28
import Derived.Test.YtcpignkjlnjjmaaGreatDoorNa07
import Derived.Test.YtcpignkjlnjjmaaGreatDoorNa25
namespace Go.Proofs.YtcpignkjlnjjmaaGreatDoor
open Go.RowKit
attribute [local go_sem] Oper.semAt_some
set_option linter.unusedVariables false
set_option linter.unusedSimpArgs false

/-- the objects below p, by rising places -/
def objsTo (r : Raw) : Nat → List (Nat × Blk)
  | 0 => []
  | p + 1 => if r.P p then (match r.M (p : Int) with | some b => objsTo r p ++ [(p, b)] | none => objsTo r p) else objsTo r p
theorem objs_skip {r : Raw} {p : Nat} : ∀ {d : Nat}, (∀ j, p ≤ j → j < p + d → r.P j = false) → objsTo r (p + d) = objsTo r p
  | 0, _ => rfl
  | d + 1, h => by
    refine Eq.trans ?_ (objs_skip (r := r) (p := p) (d := d) (fun j a b => h j a (by omega)))
    show objsTo r ((p + d) + 1) = _
    conv => lhs; unfold objsTo
    rw [h _ (by omega) (by omega)]; rfl
theorem objs_to {r : Raw} {p k : Nat} (hp : p ≤ k) (h : ∀ j, p ≤ j → j < k → r.P j = false) : objsTo r k = objsTo r p := by
  obtain ⟨d, rfl⟩ : ∃ d, k = p + d := ⟨k - p, by omega⟩
  exact objs_skip h
theorem objs_step {r : Raw} {k : Nat} {b : Blk} (hP : r.P k = true) (hb : r.M (k : Int) = some b) : objsTo r (k + 1) = objsTo r k ++ [(k, b)] := by
  conv => lhs; unfold objsTo
  rw [hP, hb]; rfl
theorem objs_len (r : Raw) : ∀ p, (objsTo r p).length ≤ p
  | 0 => Nat.le_refl _
  | p + 1 => by
    have ih := objs_len r p
    unfold objsTo
    split
    · split
      · simp; omega
      · omega
    · omega
def bks (l : List (Nat × Blk)) : List Value := l.flatMap fun q => [.int .i64 (q.1 : Int), .int .i64 q.2.1, .int .i64 q.2.2.1, .int .i64 q.2.2.2.1, .int .i64 q.2.2.2.2]
theorem bks_cons (p : Nat × Blk) (l : List (Nat × Blk)) : bks (p :: l) = .int .i64 (p.1 : Int) :: .int .i64 p.2.1 :: .int .i64 p.2.2.1 :: .int .i64 p.2.2.2.1 :: .int .i64 p.2.2.2.2 :: bks l := rfl
theorem bks_append (a b : List (Nat × Blk)) : bks (a ++ b) = bks a ++ bks b := by unfold bks; rw [List.flatMap_append]
theorem bks_len (l : List (Nat × Blk)) : (bks l).length = l.length * 5 := by
  induction l with
  | nil => rfl
  | cons p l ih => rw [bks_cons]; simp [ih]; omega
def BListIs (w : World) (base : Nat) (v : Value) (l : List (Nat × Blk)) : Prop := w.ownsRow base 44 5 v l.length (bks l)
theorem own_same {w w' : World} {base : Nat} {T : TypeId} {size n : Nat} {v : Value} {xs : List Value} (h : w.ownsRow base T size v n xs) (hb : ∀ g o, v.ownBlock = some g → base ≤ g → w.heap[g]? = some o → w'.heap[g]? = some o) : w'.ownsRow base T size v n xs := by
  obtain ⟨h1, h2⟩ := h
  refine ⟨h1, ?_⟩
  rcases h2 with h2 | ⟨g, cap, cur, rfl, h3, h4, h5⟩
  · exact .inl h2
  · exact .inr ⟨g, cap, cur, rfl, h3, hb g _ rfl h3 h4, h5⟩
theorem ownk {w w' : World} {base x y : Nat} {T : TypeId} {size n : Nat} {v : Value} {xs : List Value} (h : w.ownsRow base T size v n xs) (o : Out x y w w') (hy : y ≤ base) : w'.ownsRow base T size v n xs :=
  own_same h fun g ob _ hg hh => o.heap hh (.inr (by omega))
theorem ownw {w : World} {base base' : Nat} {T : TypeId} {size n : Nat} {v : Value} {xs : List Value} (h : w.ownsRow base T size v n xs) (hb : base' ≤ base) : w.ownsRow base' T size v n xs := by
  obtain ⟨h1, h2⟩ := h
  refine ⟨h1, ?_⟩
  rcases h2 with h2 | ⟨g, cap, cur, rfl, h3, h4⟩
  · exact .inl h2
  · exact .inr ⟨g, cap, cur, rfl, by omega, h4⟩
theorem own_block {w : World} {base : Nat} {T : TypeId} {size n : Nat} {v : Value} {xs : List Value} (h : w.ownsRow base T size v n xs) : ∀ g, v.ownBlock = some g → base ≤ g ∧ g < w.heap.size := by
  intro g hg
  rcases h.2 with ⟨rfl, _⟩ | ⟨g', cap, cur, rfl, h3, h4, _⟩
  · cases hg
  · cases hg; exact ⟨h3, heap_lt h4⟩
theorem grown_out {w w' : World} {v : Value} {base : Nat} (h : w.grownBy w' v.ownBlock) (hb : ∀ g, v.ownBlock = some g → base ≤ g) : Out base w.heap.size w w' :=
  ⟨h.os, h.tape, h.output, h.size, fun k h1 h2 => h.block k h1 (fun e => by have := hb k e.symm; omega)⟩
theorem info_blk : (Tryz.prog.info? 44).map (fun i => (i.zero, i.size, i.bytes)) = some (some (.agg #[.int .i64 0, .int .i64 0, .int .i64 0, .int .i64 0, .int .i64 0]), 5, 40) := by kernel_rfl
section
variable {w : World} {lo hi n cap : Nat} {s : Nat → Nat} {r : Raw}
set_option maxRecDepth 100000 in
set_option maxHeartbeats 4000000 in
theorem appendSeq_any (h : RawAt w lo hi s n cap r) (hT : Told r) {g : Nat} (hg : Box w g 49 (.pointer (some ⟨s 14, 0, none⟩))) :
    Calls Tryz.prog 83 #[.slice none 0 0, .func (.func 84) #[] #[.pointer (some ⟨g, 0, none⟩)]] w fun e w' => ∃ v, e = .returned v ∧ BListIs w' w.heap.size v (objsTo r (64 * n)) ∧ Out 0 0 w w' := by
  obtain ⟨i0, hi0, hz0, hz1, hz2⟩ := info_parts info_blk
  have HR0 := hid_mk h
  have HTo := hid_mk hT
  have HTt : Hid (hi ≤ w.heap.size ∧ 4 ≤ w.heap.size ∧ 4 ≤ lo ∧ n ≤ 4096 ∧ 1 ≤ n ∧ g < w.heap.size) := ⟨h.top, h.tab.lt, h.glob, h.n2, h.n1, hg.lt⟩
  have HB0 := hid_mk hg
  clear h hT hg
  refine (callsIn_wide (n := 0)).1 ?_
  refine callsIn_of_wp_marks Tryz.func83 rfl trivial ?_ rfl
  simp only [Tryz.ntmps83, List.size_toArray, List.length_cons, List.length_nil, Nat.reduceAdd, Nat.reduceSub, Array.replicate_succ, Array.replicate_zero, List.push_toArray, List.append_toArray, List.nil_append, List.cons_append]
  gi_wp2_with fail
  obtain ⟨W1, hW1⟩ : ∃ W1, w.alloc (.cells #[.slice none 0 0] 62) = W1 := ⟨_, rfl⟩
  obtain ⟨G, hG⟩ : ∃ G, w.heap.size = G := ⟨_, rfl⟩
  have hs1 : W1.heap.size = G + 1 := by rw [← hW1, ← hG]; simp
  have HO1 : Hid (Out 0 0 w W1) := by rw [← hW1]; exact (Out.refl 0 0 w).alloc _
  have HX1 : Hid (Box W1 G 62 (.slice none 0 0)) := by rw [← hW1, ← hG]; exact heap_alloc_new _ _
  rw [hW1, hG]
  rw [hG] at HTt
  have HGw := hid_mk hG
  clear hW1 hG
  refine overAllW (lo := lo) (hi := hi) (n := n) (cap := cap) (g := g) (s := s) rfl rfl
    (fun p W => p ≤ 64 * n ∧ RawAt W lo hi s n cap r ∧ Box W g 49 (.pointer (some ⟨s 14, 0, none⟩)) ∧ (∃ v, Box W G 62 v ∧ BListIs W (G + 7) v (objsTo r p)) ∧ Out 0 0 w W)
    (fun W => (∃ v, Box W G 62 v ∧ BListIs W (G + 7) v (objsTo r (64 * n))) ∧ Out 0 0 w W)
    (fun c W => False) ?hm1 ?hq1 ?hqk1 ?hqx1 ?hy1 ?he1 ?hz1 ?hdone1 ?hstop1
  case hm1 =>
    rintro p W ⟨hp, a1, a2, a3, a4⟩
    exact ⟨hp, _, a1, HTo.out, a2⟩
  case hq1 =>
    rintro p W W' x y ⟨hp, a1, a2, ⟨v, a3, a4⟩, a5⟩ o hx
    have hT := HTt.out
    have hgw := HGw.out
    exact ⟨hp, a1.kept o (by omega) (by omega), a2.kept o (by omega), ⟨v, a3.kept o (by omega), ownk a4 o (by omega)⟩, out_far a5 o (by omega)⟩
  case hqk1 =>
    rintro W W' x y ⟨⟨v, a3, a4⟩, a5⟩ o hx
    have hT := HTt.out
    have hgw := HGw.out
    exact ⟨⟨v, a3.kept o (by omega), ownk a4 o (by omega)⟩, out_far a5 o (by omega)⟩
  case hqx1 => exact fun c W W' x y h _ _ => h
  case hstop1 => exact fun c W h _ => h.elim
  case hz1 => exact ⟨Nat.zero_le _, HR0.out.quiet HO1.out, HB0.out.kept HO1.out (.inr (Nat.zero_le _)), ⟨_, HX1.out, ⟨rfl, .inl ⟨rfl, rfl⟩⟩⟩, HO1.out⟩
  case he1 =>
    rintro p W rr ⟨hp, a1, a2, ⟨v, a3, a4⟩, a5⟩ hr hk
    obtain ⟨eP, eM⟩ := raw_one a1 hr
    rw [← eP] at hk
    rcases nxr_cases r.P (64 * n) p with ⟨_, hz⟩ | ⟨i, hi', _⟩
    · rw [objs_to hp hz]
      exact ⟨⟨v, a3, a4⟩, a5⟩
    · have : (-1 : Int) = i := hk.symm.trans hi'
      omega
  case hdone1 =>
    rintro W ⟨⟨v, a3, a4⟩, a5⟩ hd
    have c0 := a3.cell
    have HD := hid_mk hd
    have HA := hid_mk (And.intro a4 a5)
    clear a3 a4 a5 hd
    gi_wp2
    refine ⟨by simp, .inl ⟨_, _, rfl, run_takeDeferred HD.out, ?_⟩⟩
    have hgw := HGw.out
    have o := out_putObj W W1.heap.size (Obj.deferred none)
    have hl : BListIs (W.putObj W1.heap.size (Obj.deferred none)) w.heap.size v (objsTo r (64 * n)) := ownw (ownk (show W.ownsRow (G + 7) 44 5 v _ _ from HA.out.1) o (by omega)) (by omega)
    refine ⟨_, results_tmp rfl _ _ _, _, rfl, ?_⟩
    exact ⟨hl, out_far HA.out.2 o (.inl (by omega))⟩
  case hy1 =>
    rintro p W rr k b ⟨hp, a1, a2, ⟨v, a3, a4⟩, a5⟩ hr hk hb hsz
    obtain ⟨eP, eM⟩ := raw_one a1 hr
    rw [← eP] at hk
    rw [← eM] at hb
    obtain ⟨hpk, hkn, hPk, hz⟩ : p ≤ k ∧ k < 64 * n ∧ r.P k = true ∧ ∀ j, p ≤ j → j < k → r.P j = false := by
      rcases nxr_cases r.P (64 * n) p with ⟨e1, _⟩ | ⟨i, e1, e2, e3, e4, e5⟩
      · have : (-1 : Int) = k := e1.symm.trans hk
        omega
      · have : i = k := by have : (i : Int) = k := e1.symm.trans hk; omega
        subst this
        exact ⟨e3 hp, e2, e4, e5⟩
    rw [hs1] at hsz ⊢
    have hst := objs_step hPk hb
    rw [objs_to hpk hz] at hst
    obtain ⟨b1, b2, b3, b4⟩ := b
    have hlen := objs_len r p
    have A := hid_mk (And.intro a1 (And.intro a2 (And.intro a3 (And.intro a4 (And.intro a5 hst)))))
    have HK := hid_mk (And.intro hpk (And.intro hkn (And.intro hsz (And.intro hlen hp))))
    clear a1 a2 a3 a4 a5 hr hk hb eP eM hz hPk hp hpk hkn hsz hst hlen
    unfold blkV
    dsimp only at A ⊢
    obtain ⟨WA, hWA⟩ : ∃ WA, W.alloc (bo (k : Int) b1 b2 b3 b4) = WA := ⟨_, rfl⟩
    have HBA : Hid (WA.heap[W.heap.size]? = some (bo (k : Int) b1 b2 b3 b4)) := by rw [← hWA]; exact heap_alloc_new _ _
    have HOA : Hid (Out 0 0 W WA) := by rw [← hWA]; exact (Out.refl 0 0 W).alloc _
    have HSA : Hid (WA.heap.size = W.heap.size + 1) := by rw [← hWA]; exact World.size_alloc _ _
    obtain ⟨H, hH⟩ : ∃ H, W.heap.size = H := ⟨_, rfl⟩
    rw [hH] at HK HBA HSA
    unfold bo at hWA HBA
    gi_wp2
    (try rw [hWA])
    refine ⟨(HOA.out.any 0 _).sv, ?_⟩
    (try rw [hH])
    clear hWA hH
    intro W2 o2
    have hT := HTt.out
    have hkk := HK.out
    have hgw := HGw.out
    have HR2 := hid_mk ((A.out.1.quiet HOA.out).kept o2 (.inl (by omega)) (.inl (by omega)))
    have HG2 := hid_mk ((A.out.2.1.kept HOA.out (.inr (Nat.zero_le _))).kept o2 (.inl (by omega)))
    have HX2 := hid_mk ((A.out.2.2.1.kept HOA.out (.inr (Nat.zero_le _))).kept o2 (.inl (by omega)))
    have HL2 : Hid (W2.ownsRow (G + 7) 44 5 v (objsTo r p).length (bks (objsTo r p))) := ownk (ownk A.out.2.2.2.1 HOA.out (Nat.zero_le _)) o2 (by omega)
    have HB2 := hid_mk (o2.heap HBA.out (.inr (by omega)))
    have HO2 := hid_mk (out_far (A.out.2.2.2.2.1.trans HOA.out) o2 (.inl (by omega)))
    have c0 := HX2.out.cell
    have HS2 : Hid (H + 1 ≤ W2.heap.size) := by have := o2.size; have := HSA.out; show H + 1 ≤ _; omega
    have HA6 := hid_mk A.out.2.2.2.2.2
    obtain ⟨q0, q1, q2, q3, q4⟩ := bo_facts HB2.out
    obtain ⟨m, hm⟩ : ∃ m, (objsTo r p).length = m := ⟨_, rfl⟩
    obtain ⟨xs, hxs⟩ : ∃ xs, bks (objsTo r p) = xs := ⟨_, rfl⟩
    rw [hm, hxs] at HL2
    have HMm : Hid (m ≤ 64 * n ∧ n ≤ 4096) := by show _ ∧ _; omega
    have HL3 : Hid ((W2.alloc (.cells #[.int .i64 (k : Int), .int .i64 b1, .int .i64 b2, .int .i64 b3, .int .i64 b4] 44)).ownsRow (G + 7) 44 5 v m xs) := ownk HL2.out ((Out.refl 0 0 W2).alloc _) (Nat.zero_le _)
    have HN3 : Hid (∀ j u, ([.int .i64 (k : Int), .int .i64 b1, .int .i64 b2, .int .i64 b3, .int .i64 b4] : List Value)[j]? = some u → (W2.alloc (.cells #[.int .i64 (k : Int), .int .i64 b1, .int .i64 b2, .int .i64 b3, .int .i64 b4] 44)).cell? ((⟨W2.heap.size, 0, none⟩ : Addr).add j) = some u) := by
      intro j u hj
      have hh := heap_alloc_new W2 (.cells #[.int .i64 (k : Int), .int .i64 b1, .int .i64 b2, .int .i64 b3, .int .i64 b4] 44)
      have hj5 : j < 5 := by have := (List.getElem?_eq_some_iff.1 hj).1; simpa using this
      have : j = 0 ∨ j = 1 ∨ j = 2 ∨ j = 3 ∨ j = 4 := by omega
      rw [Addr.add_lit, Nat.zero_add]
      obtain ⟨f0, f1, f2, f3, f4⟩ := bo_facts (a := (k : Int)) (k := b1) (z := b2) (x := b3) (t := b4) hh
      rcases this with rfl | rfl | rfl | rfl | rfl <;> (simp at hj; subst hj; assumption)
    have HG3 : Hid (G + 7 ≤ (W2.alloc (.cells #[.int .i64 (k : Int), .int .i64 b1, .int .i64 b2, .int .i64 b3, .int .i64 b4] 44)).heap.size) := by
      show G + 7 ≤ _
      have := HS2.out; rw [World.size_alloc]; omega
    have HV := hid_mk (own_block HL2.out)
    have HMX := hid_mk (And.intro hm hxs)
    clear hm hxs
    gi_wp2_with (gi_at_builtin; refine wpListIn_append_own _ rfl _ _ 62 rfl (G + 7) 44 i0 (.agg #[.int .i64 0, .int .i64 0, .int .i64 0, .int .i64 0, .int .i64 0]) 5 40 Tryz.underlying62 hi0 hz0 hz1 hz2 rfl (by decide) v m xs rfl HL3.out ⟨W2.heap.size, 0, none⟩ 1 1 [.int .i64 (k : Int), .int .i64 b1, .int .i64 b2, .int .i64 b3, .int .i64 b4] rfl rfl HN3.out (by intro u hu; simp at hu; rcases hu with rfl | rfl | rfl | rfl | rfl <;> rfl) (by unfold maxLen; have := HMm.out; omega) (by have := HMm.out; omega) HG3.out ?_; intro v' w1 hown' hgrow hnil; obtain ⟨g4, cap4, rfl, hg4, _⟩ := hown'.form (by omega); have HP4 := hid_mk hown'; have HO4 := hid_mk (grown_out (base := G + 7) hgrow (fun g h => (HV.out g h).1)); have HX4 := hid_mk ((HX2.out.kept ((Out.refl 0 0 W2).alloc (.cells #[.int .i64 (k : Int), .int .i64 b1, .int .i64 b2, .int .i64 b3, .int .i64 b4] 44)) (.inr (Nat.zero_le _))).kept HO4.out (.inl (by omega))); have c4 := HX4.out.cell; have c5 : w1.frozen? ⟨G, 0, none⟩ = false := HX4.out.frozen; clear hown' hgrow hnil hg4)
    have o3 : Out 0 0 W2 (W2.alloc (.cells #[.int .i64 (k : Int), .int .i64 b1, .int .i64 b2, .int .i64 b3, .int .i64 b4] 44)) := (Out.refl 0 0 W2).alloc _
    have o5 : Out G (G + 1) w1 (w1.setCell ⟨G, 0, none⟩ (.slice (some ⟨g4, 0, none⟩) (m + 1) cap4)) := (Out.refl _ _ _).setCell (.inl ⟨Nat.le_refl _, Nat.lt_succ_self _⟩) _
    have hB := HS2.out
    refine ⟨fun x ob h1 h2 hx => o5.heap (HO4.out.heap (o3.heap hx (.inr (Nat.zero_le _))) (.inl (by omega))) (.inr (by omega)), by omega, ?_, ?_, ⟨_, HX4.out.set _, ?_⟩, ?_⟩
    · exact ((HR2.out.quiet o3).kept HO4.out (.inl (by omega)) (.inl (by omega))).kept o5 (.inl (by omega)) (.inl (by omega))
    · exact ((HG2.out.kept o3 (.inr (Nat.zero_le _))).kept HO4.out (.inl (by omega))).kept o5 (.inl (by omega))
    · have := ownk HP4.out o5 (by omega)
      unfold BListIs
      rw [HA6.out, bks_append, List.length_append, HMX.out.1, HMX.out.2]
      exact this
    · exact out_far (out_far (HO2.out.trans o3) HO4.out (.inl (by omega))) o5 (.inl (by omega))
set_option maxHeartbeats 1000000 in
theorem collect_any (h : RawAt w lo hi s n cap r) (hT : Told r) {g : Nat} (hg : Box w g 49 (.pointer (some ⟨s 14, 0, none⟩))) :
    Calls Tryz.prog 67 #[.func (.func 84) #[] #[.pointer (some ⟨g, 0, none⟩)]] w fun e w' => ∃ v, e = .returned v ∧ BListIs w' w.heap.size v (objsTo r (64 * n)) ∧ Out 0 0 w w' := by
  have HA := hid_mk (appendSeq_any h hT hg)
  clear h hT hg
  go_enter Tryz.func67, Tryz.ntmps67
  go_wp2_with (go_at_call 83; refine HA.out.mono ?_; rintro e w1 ⟨v, rfl, hl, ho⟩)
  go_ret
  exact ⟨v, rfl, hl, ho⟩
set_option maxHeartbeats 1000000 in
theorem spBlocks_any (h : RawAt w lo hi s n cap r) (hT : Told r) :
    Calls Tryz.prog 45 #[.pointer (some ⟨s 14, 0, none⟩)] w fun e w' => ∃ v, e = .returned v ∧ BListIs w' w.heap.size v (objsTo r (64 * n)) ∧ Out 0 0 w w' := by
  have ho0 : Out 0 0 w (w.alloc (.cells #[.pointer (some ⟨s 14, 0, none⟩)] 49)) := (Out.refl 0 0 w).alloc _
  have HC := hid_mk (collect_any (h.quiet ho0) hT (heap_alloc_new w (.cells #[.pointer (some ⟨s 14, 0, none⟩)] 49)))
  have HL := hid_mk (spAll_any (s 14) w)
  have HO0 := hid_mk ho0
  clear h hT ho0
  go_enter Tryz.func45, Tryz.ntmps45
  go_wp2_with (first | (go_at_call 68; refine HL.out.mono ?_; rintro e w1 ⟨rfl, rfl⟩) | (go_at_call 67; refine HC.out.mono ?_; rintro e w1 ⟨v, rfl, hl, ho⟩))
  go_ret
  exact ⟨v, rfl, ownw hl (by simp), HO0.out.trans ho⟩
end
end Go.Proofs.YtcpignkjlnjjmaaGreatDoor
namespace Go.Proofs.YtcpignkjlnjjmaaGreatDoor
open Go.RowKit
set_option linter.unusedVariables false
set_option linter.unusedSimpArgs false

theorem info_i64 : (Tryz.prog.info? 3).map (fun i => (i.zero, i.size, i.bytes)) = some (some (.int .i64 0), 1, 8) := by kernel_rfl
set_option maxHeartbeats 1000000 in
theorem cloneI_any {w : World} {bw k cap : Nat} {f : Nat → Int} (hr : Row w bw 3 k (fun i => .int .i64 (f i))) (hk : ∃ q, k ≤ 64 * q ∧ q ≤ 4096) :
    Calls Tryz.prog 43 #[.slice (some ⟨bw, 0, none⟩) k cap] w fun e w' => ∃ g cap', e = .returned (.slice (some ⟨g, 0, none⟩) k cap') ∧ k ≤ cap' ∧ w.heap.size ≤ g ∧ g < w'.heap.size ∧ w'.ownsRow w.heap.size 3 1 (.slice (some ⟨g, 0, none⟩) k cap') k ((List.range k).map fun i => .int .i64 (f i)) ∧ Out 0 0 w w' := by
  obtain ⟨i0, hi, hz0, hz1, hz2⟩ := info_parts info_i64
  have heq := fun w => Lib.run_eql_slice_nil (P := Tryz.prog) w 39 3 (some ⟨bw, 0, none⟩) k cap 0 0 Tryz.underlying39
  simp at heq
  have hown : (w.alloc (.cells #[] 3)).ownsRow w.heap.size 3 1 (.slice (some ⟨w.heap.size, 0, none⟩) 0 0) 0 [] :=
    ⟨rfl, .inr ⟨w.heap.size, 0, #[], rfl, Nat.le_refl _, heap_alloc_new _ _, Nat.le_refl _, Nat.zero_le _, rfl, rfl⟩⟩
  have hnews : ∀ j u, ((List.range k).map fun i => Value.int .i64 (f i))[j]? = some u → (w.alloc (.cells #[] 3)).cell? ((⟨bw, 0, none⟩ : Addr).add j) = some u := by
    intro j u hj
    have hjk : j < k := by
      have := (List.getElem?_eq_some_iff.1 hj).1
      simpa using this
    simp [hjk] at hj
    subst hj
    have := (Row.kept hr ((Out.refl 0 0 w).alloc (.cells #[] 3)) (.inr (Nat.zero_le _))).cell hjk
    rw [Addr.add_lit, Nat.zero_add]
    exact this
  have hone : ∀ u ∈ ((List.range k).map fun i => Value.int .i64 (f i)), u.oneCell' = true := by
    intro u hu
    simp at hu
    obtain ⟨i, _, rfl⟩ := hu
    rfl
  have HOW := hid_mk hown
  have HNE := hid_mk hnews
  have HON := hid_mk hone
  have HK := hid_mk hk
  clear hown hnews hone hr hk
  go_enter Tryz.func43, Tryz.ntmps43
  go_wp2_with (at_builtin; refine wpList_append_own _ rfl _ _ 39 rfl w.heap.size 3 i0 (.int .i64 0) 1 8 Tryz.underlying39 hi hz0 hz1 hz2 rfl (by decide) (.slice (some ⟨w.heap.size, 0, none⟩) 0 0) 0 [] rfl HOW.out ⟨bw, 0, none⟩ k cap ((List.range k).map fun i => .int .i64 (f i)) rfl (by simp) HNE.out HON.out (by unfold maxLen; obtain ⟨q, h1, h2⟩ := HK.out; omega) (by obtain ⟨q, h1, h2⟩ := HK.out; omega) (by simp) ?_; intro v' w1 hown' hgrow hnil)
  rw [Nat.zero_add, List.nil_append] at hown'
  have hO : Out 0 0 w w1 := by
    have h0 : Out 0 0 w (w.alloc (.cells #[] 3)) := (Out.refl _ _ _).alloc _
    exact ⟨hgrow.os.trans h0.1, hgrow.tape.trans h0.2.1, hgrow.output.trans h0.2.2.1, Nat.le_trans h0.size hgrow.size, fun j h1 h2 => (hgrow.block j (Nat.lt_of_lt_of_le h1 h0.size) (by simp [Value.ownBlock]; omega)).trans (h0.block h1 h2)⟩
  have hown2 := hown'
  obtain ⟨hlen, hcase⟩ := hown'
  rcases hcase with ⟨hv, _⟩ | ⟨g, cap', cur, rfl, hg1, hg2, hg3, hg4, hg5, hg6⟩
  · exact absurd (hnil.1 hv).1 (by simp)
  have HR := hid_mk hown2
  have HO := hid_mk hO
  have HG := hid_mk (heap_lt hg2)
  clear hg2 hg6 hgrow hnil hown2 hO hlen
  go_wp2
  go_ret
  exact ⟨g, cap', by simp, by omega, hg1, HG.out, HR.out, HO.out⟩
/-- what Dump has laid: the words, the pages, the objects -/
def DmpIs (w : World) (base n : Nat) (r : Raw) (gw cw gp cp : Nat) (vb : Value) : Prop :=
  w.ownsRow base 3 1 (.slice (some ⟨gw, 0, none⟩) (64 * n) cw) (64 * n) ((List.range (64 * n)).map fun i => .int .i64 (r.W i)) ∧ ListIs w base (.slice (some ⟨gp, 0, none⟩) n cp) (pgl r.S n) ∧ BListIs w base vb (objsTo r (64 * n)) ∧ gw < gp ∧ ∀ g, vb.ownBlock = some g → gp < g
theorem DmpIs.kept {w w' : World} {base n x y : Nat} {r : Raw} {gw cw gp cp : Nat} {vb : Value} (h : DmpIs w base n r gw cw gp cp vb) (o : Out x y w w') (hy : y ≤ base) : DmpIs w' base n r gw cw gp cp vb :=
  ⟨ownk h.1 o hy, ownk h.2.1 o hy, ownk h.2.2.1 o hy, h.2.2.2⟩
theorem own_form {w : World} {base : Nat} {T : TypeId} {size n : Nat} {v : Value} {xs : List Value} (h : w.ownsRow base T size v n xs) : ∃ o c, v = .slice o n c := by
  rcases h.2 with ⟨rfl, rfl⟩ | ⟨g, cap, cur, rfl, _⟩
  · exact ⟨_, _, rfl⟩
  · exact ⟨_, _, rfl⟩
theorem dz_facts {w : World} {g : Nat} {T : TypeId} (h : w.heap[g]? = some (.cells #[.slice none 0 0, .slice none 0 0, .slice none 0 0, .int .i64 0, .int .i64 0, .int .i64 0, .int .i64 0, .int .i64 0, .int .i64 0, .int .i64 0, .int .i64 0, .int .i64 0] T (0, 0))) :
    w.cell? ⟨g, 0, none⟩ = some (.slice none 0 0) ∧ w.cell? ⟨g, 1, none⟩ = some (.slice none 0 0) ∧ w.cell? ⟨g, 2, none⟩ = some (.slice none 0 0) ∧ w.cell? ⟨g, 3, none⟩ = some (.int .i64 0) ∧ w.cell? ⟨g, 4, none⟩ = some (.int .i64 0) ∧ w.cell? ⟨g, 5, none⟩ = some (.int .i64 0) ∧ w.cell? ⟨g, 6, none⟩ = some (.int .i64 0) ∧ w.cell? ⟨g, 7, none⟩ = some (.int .i64 0) ∧ w.cell? ⟨g, 8, none⟩ = some (.int .i64 0) ∧ w.cell? ⟨g, 9, none⟩ = some (.int .i64 0) ∧ w.cell? ⟨g, 10, none⟩ = some (.int .i64 0) ∧ w.cell? ⟨g, 11, none⟩ = some (.int .i64 0) ∧ ∀ i, w.frozen? ⟨g, i, none⟩ = false := by
  refine ⟨?_, ?_, ?_, ?_, ?_, ?_, ?_, ?_, ?_, ?_, ?_, ?_, fun i => ?_⟩ <;> simp [World.cell?, World.frozen?, h]
/-- the four parts of a dump written into it -/
def dS (X : World) (b : Nat) (v0 v1 v2 v3 : Value) : World :=
  (((((((((((X.setCell ⟨b, 0, none⟩ v0).setCell ⟨b, 1, none⟩ v1).setCell ⟨b, 2, none⟩ v2).setCell ⟨b, 3, none⟩ (.int .i64 0)).setCell ⟨b, 4, none⟩ (.int .i64 0)).setCell ⟨b, 5, none⟩ (.int .i64 0)).setCell ⟨b, 6, none⟩ (.int .i64 0)).setCell ⟨b, 7, none⟩ (.int .i64 0)).setCell ⟨b, 8, none⟩ (.int .i64 0)).setCell ⟨b, 9, none⟩ (.int .i64 0)).setCell ⟨b, 10, none⟩ (.int .i64 0)).setCell ⟨b, 11, none⟩ v3
theorem dS_heap {X : World} {b : Nat} {T : TypeId} (h : X.heap[b]? = some (.cells #[.slice none 0 0, .slice none 0 0, .slice none 0 0, .int .i64 0, .int .i64 0, .int .i64 0, .int .i64 0, .int .i64 0, .int .i64 0, .int .i64 0, .int .i64 0, .int .i64 0] T (0, 0))) (v0 v1 v2 v3 : Value) :
    (dS X b v0 v1 v2 v3).heap[b]? = some (.cells #[v0, v1, v2, .int .i64 0, .int .i64 0, .int .i64 0, .int .i64 0, .int .i64 0, .int .i64 0, .int .i64 0, .int .i64 0, v3] T (0, 0)) := by
  unfold dS
  simp [World.setCell, Array.getElem?_modify, h]
theorem dS_out (X : World) (b : Nat) (v0 v1 v2 v3 : Value) : Out b (b + 1) X (dS X b v0 v1 v2 v3) := by
  unfold dS
  have hb : ∀ {Y : World}, Out b (b + 1) X Y → ∀ (o : Nat) (v : Value), Out b (b + 1) X (Y.setCell ⟨b, o, none⟩ v) := fun h o v => h.setCell (p := ⟨b, o, none⟩) (.inl ⟨Nat.le_refl _, Nat.lt_succ_self _⟩) v
  exact hb (hb (hb (hb (hb (hb (hb (hb (hb (hb (hb (hb (Out.refl _ _ _) _ _) _ _) _ _) _ _) _ _) _ _) _ _) _ _) _ _) _ _) _ _) _ _
def dT (X : World) (b : Nat) (v0 v1 v2 v3 v4 v5 v6 v7 v8 v9 v10 v11 : Value) : World := ((((((((((((X.setCell ⟨b, 0, none⟩ v0).setCell ⟨b, 1, none⟩ v1).setCell ⟨b, 2, none⟩ v2).setCell ⟨b, 3, none⟩ v3).setCell ⟨b, 4, none⟩ v4).setCell ⟨b, 5, none⟩ v5).setCell ⟨b, 6, none⟩ v6).setCell ⟨b, 7, none⟩ v7).setCell ⟨b, 8, none⟩ v8).setCell ⟨b, 9, none⟩ v9).setCell ⟨b, 10, none⟩ v10).setCell ⟨b, 11, none⟩ v11)
theorem dT_heap {X : World} {b : Nat} {T : TypeId} (h : X.heap[b]? = some (.cells #[.slice none 0 0, .slice none 0 0, .slice none 0 0, .int .i64 0, .int .i64 0, .int .i64 0, .int .i64 0, .int .i64 0, .int .i64 0, .int .i64 0, .int .i64 0, .int .i64 0] T (0, 0))) (v0 v1 v2 v3 v4 v5 v6 v7 v8 v9 v10 v11 : Value) : (dT X b v0 v1 v2 v3 v4 v5 v6 v7 v8 v9 v10 v11).heap[b]? = some (.cells #[v0, v1, v2, v3, v4, v5, v6, v7, v8, v9, v10, v11] T (0, 0)) := by
  unfold dT
  simp [World.setCell, Array.getElem?_modify, h]
theorem dT_out (X : World) (b : Nat) (v0 v1 v2 v3 v4 v5 v6 v7 v8 v9 v10 v11 : Value) : Out b (b + 1) X (dT X b v0 v1 v2 v3 v4 v5 v6 v7 v8 v9 v10 v11) := by
  unfold dT
  have hb : ∀ {Y : World}, Out b (b + 1) X Y → ∀ (o : Nat) (v : Value), Out b (b + 1) X (Y.setCell ⟨b, o, none⟩ v) := fun h o v => h.setCell (p := ⟨b, o, none⟩) (.inl ⟨Nat.le_refl _, Nat.lt_succ_self _⟩) v
  exact hb (hb (hb (hb (hb (hb (hb (hb (hb (hb (hb (hb (Out.refl _ _ _) _ _) _ _) _ _) _ _) _ _) _ _) _ _) _ _) _ _) _ _) _ _) _ _
theorem infoD (v0 v1 v2 v3 v4 v5 v6 v7 v8 v9 v10 v11 : Value) : (Tryz.prog.info? 65).map (·.size) = some (#[v0, v1, v2, v3, v4, v5, v6, v7, v8, v9, v10, v11]).size := by
  rw [show (#[v0, v1, v2, v3, v4, v5, v6, v7, v8, v9, v10, v11]).size = 12 from rfl]; kernel_rfl
theorem retDmp {fn : Func} {p : Tmp} {a : Act} {w : World} {g : Nat} {v0 v1 v2 v3 v4 v5 v6 v7 v8 v9 v10 v11 : Value} {post : Ending → World → Prop} (hr : fn.results = #[.cell p 65]) (hp : a.tmps.getD p undef = .pointer (some ⟨g, 0, none⟩))
    (hd : a.defers = []) (hg : w.heap[g]? = some (.cells #[v0, v1, v2, v3, v4, v5, v6, v7, v8, v9, v10, v11] 65 (0, 0))) (h : post (.returned (.agg #[v0, v1, v2, v3, v4, v5, v6, v7, v8, v9, v10, v11])) w) : bodyPost Tryz.prog fn post Exit.ret a w :=
  bodyPost_ret (v := .agg #[v0, v1, v2, v3, v4, v5, v6, v7, v8, v9, v10, v11]) (results_cell_row hr a.tmps _ g 65 _ (0, 0) _ hp hg Tryz.underlying65 rfl (infoD v0 v1 v2 v3 v4 v5 v6 v7 v8 v9 v10 v11)) hd h
/-- a dump's cells with the first i heads told -/
def hdC (n : Nat) (r : Raw) (v0 v1 v2 : Value) (i j : Nat) : Value :=
  if j = 0 then v0 else if j = 1 then v1 else if j = 2 then v2 else if j = 11 then .int .i64 r.last else if j < 3 + i then .int .i64 (nxr (r.F (j - 3)) (64 * n) 0) else .int .i64 0
section
variable {w : World} {lo hi n cap : Nat} {s : Nat → Nat} {r : Raw}
set_option maxRecDepth 100000 in
set_option maxHeartbeats 8000000 in
theorem dump_any (h : RawAt w lo hi s n cap r) (hT : Told r) :
    Calls Tryz.prog 19 #[.pointer (some ⟨s 14, 0, none⟩)] w fun e w' => ∃ gw cw gp cp vb, e = .returned (.agg #[.slice (some ⟨gw, 0, none⟩) (64 * n) cw, .slice (some ⟨gp, 0, none⟩) n cp, vb, .int .i64 (nxr (r.F 0) (64 * n) 0), .int .i64 (nxr (r.F 1) (64 * n) 0), .int .i64 (nxr (r.F 2) (64 * n) 0), .int .i64 (nxr (r.F 3) (64 * n) 0), .int .i64 (nxr (r.F 4) (64 * n) 0), .int .i64 (nxr (r.F 5) (64 * n) 0), .int .i64 (nxr (r.F 6) (64 * n) 0), .int .i64 (nxr (r.F 7) (64 * n) 0), .int .i64 r.last]) ∧ DmpIs w' w.heap.size n r gw cw gp cp vb ∧ Out 0 0 w w' := by
  have HR0 := hid_mk h
  have HTo := hid_mk hT
  have HSelf := hid_mk (fun w => self_any (s 14) w)
  clear h hT
  go_enter Tryz.func19, Tryz.ntmps19
  go_wp2_with (go_at_call 42; refine calls_same (HSelf.out _) ?_)
  obtain ⟨W0, hW0⟩ : ∃ W0, w.alloc (.cells #[.slice none 0 0, .slice none 0 0, .slice none 0 0, .int .i64 0, .int .i64 0, .int .i64 0, .int .i64 0, .int .i64 0, .int .i64 0, .int .i64 0, .int .i64 0, .int .i64 0] 65) = W0 := ⟨_, rfl⟩
  obtain ⟨B, hB⟩ : ∃ B, w.heap.size + 1 = B := ⟨_, rfl⟩
  have HO0 : Hid (Out 0 0 w W0) := by rw [← hW0]; exact (Out.refl 0 0 w).alloc _
  have HE0 : Hid (W0.heap[w.heap.size]? = some (.cells #[.slice none 0 0, .slice none 0 0, .slice none 0 0, .int .i64 0, .int .i64 0, .int .i64 0, .int .i64 0, .int .i64 0, .int .i64 0, .int .i64 0, .int .i64 0, .int .i64 0] 65 (0, 0))) := by rw [← hW0]; exact heap_alloc_new _ _
  have hS0 : W0.heap.size = w.heap.size + 1 := by rw [← hW0]; exact World.size_alloc _ _
  rw [hW0]
  obtain ⟨R, hR⟩ : ∃ R, w.heap.size = R := ⟨_, rfl⟩
  have HRw := hid_mk hR
  rw [hR]
  rw [hR] at HE0 hS0 hB
  have HRQ := hid_mk (HR0.out.quiet HO0.out)
  obtain ⟨d0, d1, d2, d3, d4, d5⟩ := HRQ.out.cells
  have HB : Hid (B = W0.heap.size ∧ B = R + 1 ∧ s 14 < R ∧ hi ≤ R ∧ 4 ≤ R) := by
    have h1 := HR0.out.top
    have h2 := HR0.out.inn 14 (by omega)
    have h3 := HR0.out.tab.lt
    simp [ln] at h2
    show _ ∧ _
    omega
  have HCl := hid_mk (fun W (o : Out 0 0 W0 W) => cloneI_any (cap := cap) ((HRQ.out.quiet o).words) ⟨n, Nat.le_refl _, HRQ.out.n2⟩)
  have HAl := hid_mk (fun W (o : Out 0 0 W0 W) => all_any ((HRQ.out.quiet o).tbl))
  have HBl := hid_mk (fun W (o : Out 0 0 W0 W) => spBlocks_any (HRQ.out.quiet o) HTo.out)
  clear hW0 hB hR hS0 d2 d3 d4
  refine wp_post (Post := fun a W => ∃ gw cw gp cp ob mb cb bd, a = { tmps := #[.pointer (some ⟨s 14, 0, none⟩), undef, .pointer (some ⟨R, 0, none⟩), .pointer (some ⟨bd, 0, none⟩), undef, .pointer (some ⟨s 14, 0, none⟩), .pointer (some ⟨s 14, 0, none⟩), .pointer (some ⟨s 14, 0, none⟩), .pointer (some ⟨s 14, 0, none⟩), .pointer (some ⟨s 14, 0, none⟩), .slice (some ⟨s 11, 0, none⟩) (64 * n) cap, .slice (some ⟨gw, 0, none⟩) (64 * n) cw, .pointer (some ⟨s 14, 0, none⟩), .pointer (some ⟨s 14, 0, none⟩), .pointer (some ⟨s 14, 1, none⟩), .pointer (some ⟨s 9, 0, none⟩), .slice (some ⟨gp, 0, none⟩) n cp, .pointer (some ⟨s 14, 0, none⟩), .slice ob mb cb, .pointer (some ⟨s 14, 0, none⟩), .pointer (some ⟨s 14, 0, none⟩), .pointer (some ⟨s 14, 13, none⟩), .int .i64 r.last, .agg #[.slice (some ⟨gw, 0, none⟩) (64 * n) cw, .slice (some ⟨gp, 0, none⟩) n cp, .slice ob mb cb, .int .i64 0, .int .i64 0, .int .i64 0, .int .i64 0, .int .i64 0, .int .i64 0, .int .i64 0, .int .i64 0, .int .i64 r.last], undef, undef, undef, undef, undef, undef, undef, undef, undef, undef, undef, undef, undef, undef, undef], defers := [] } ∧
    DmpIs W B n r gw cw gp cp (.slice ob mb cb) ∧ W.heap[bd]? = some (.cells #[.slice (some ⟨gw, 0, none⟩) (64 * n) cw, .slice (some ⟨gp, 0, none⟩) n cp, .slice ob mb cb, .int .i64 0, .int .i64 0, .int .i64 0, .int .i64 0, .int .i64 0, .int .i64 0, .int .i64 0, .int .i64 0, .int .i64 r.last] 65 (0, 0)) ∧ B ≤ bd ∧ gw ≠ bd ∧ gp ≠ bd ∧ (∀ g, (Value.slice ob mb cb).ownBlock = some g → g ≠ bd) ∧ Out 0 0 W0 W) ?_ ?_
  · refine wp_region_held_drew (S := fun w' => w'.cell? ⟨s 14, 0, none⟩ = some (.slice (some ⟨s 11, 0, none⟩) (64 * n) cap) ∧ w'.cell? ⟨s 14, 1, none⟩ = some (.pointer (some ⟨s 9, 0, none⟩)) ∧ w'.cell? ⟨s 14, 13, none⟩ = some (.int .i64 r.last)) (by kernel_rfl) ?hS1 (fun hHeld => ?rest1)
    case hS1 => exact ⟨d0, d1, d5⟩
    obtain ⟨Z, hZ⟩ : ∃ Z, W0.drew = Z := ⟨_, rfl⟩
    have OZ : Out 0 0 W0 Z := by rw [← hZ]; exact (Out.refl 0 0 W0).drew
    rw [hZ] at hHeld ⊢
    clear hZ
    refine tk 0 ?_
    refine tk 1 ?_
    refine tk 2 ?_
    refine tk 3 ?_
    refine tk 5 ?_
    refine tk 6 ?_
    refine tk 7 ?_
    refine tk 8 ?_
    refine tk 10 ?_
    refine tk 12 ?_
    refine tk 13 ?_
    refine tk 14 ?_
    refine tk 15 ?_
    refine wpAnyH_ready (rs := [4, 17]) (by kernel_rfl) (by simp) ?_
    refine AllReadyH.cons rfl (fun KK hK => ?_) ?_
    · simp only [xa, xb, xc]
      go_simp
      refine (HCl.out _ OZ).mono ?_
      rintro e XW ⟨gw, cw, rfl, k1, k2, zW, fW, o1⟩
      replace fW := ownw (base' := B) fW (by have := OZ.size; have := HB.out; omega)
      have bW : B ≤ gw := by have := OZ.size; have := HB.out; omega
      have O2 : Out 0 0 W0 XW := OZ.trans o1
      (try clear O1)
      have O1 := O2
      clear O2
      clear k1 k2
      refine hK.out _ _ ?hS15 (fun hHeld2 => ?rest15)
      case hS15 => exact ⟨o1.cell hHeld.1 (.inr (Nat.zero_le _)), o1.cell hHeld.2.1 (.inr (Nat.zero_le _)), o1.cell hHeld.2.2 (.inr (Nat.zero_le _))⟩
      clear o1
      clear hK KK
      (try clear hHeld)
      have hHeld := hHeld2
      clear hHeld2
      (try simp only [Act.put, xa, xb, xc, xd, xe, xf])
      refine wpAnyH_ready (rs := [9, 17]) (by kernel_rfl) (by simp) ?_
      refine AllReadyH.cons rfl (fun KK hK => ?_) ?_
      · simp only [xa, xb, xc]
        go_simp
        refine (HAl.out _ O1).mono ?_
        rintro e XWP ⟨gp, cp, rfl, fP0, o1⟩
        have bP : XW.heap.size ≤ gp := (own_block fP0 gp rfl).1
        have zP : gp < XWP.heap.size := (own_block fP0 gp rfl).2
        have wP : gw < gp := Nat.lt_of_lt_of_le zW bP
        have fP := ownw (base' := B) fP0 (by have := O1.size; have := HB.out; omega)
        clear fP0
        replace fW := ownk fW o1 (Nat.zero_le _)
        replace zW := Nat.lt_of_lt_of_le zW o1.size
        have O2 : Out 0 0 W0 XWP := O1.trans o1
        (try clear O1)
        have O1 := O2
        clear O2
        clear bP
        refine hK.out _ _ ?hS16 (fun hHeld2 => ?rest16)
        case hS16 => exact ⟨o1.cell hHeld.1 (.inr (Nat.zero_le _)), o1.cell hHeld.2.1 (.inr (Nat.zero_le _)), o1.cell hHeld.2.2 (.inr (Nat.zero_le _))⟩
        clear o1
        clear hK KK
        (try clear hHeld)
        have hHeld := hHeld2
        clear hHeld2
        (try simp only [Act.put, xa, xb, xc, xd, xe, xf])
        refine wpAnyH_ready (rs := [11, 17]) (by kernel_rfl) (by simp) ?_
        refine AllReadyH.cons rfl (fun KK hK => ?_) ?_
        · simp only [xa, xb, xc]
          go_simp
          refine (HBl.out _ O1).mono ?_
          rintro e XWPB ⟨vb, rfl, fB0, o1⟩
          have bB : ∀ g, vb.ownBlock = some g → gp < g := fun g hg => Nat.lt_of_lt_of_le zP (own_block fB0 g hg).1
          have fB := ownw (base' := B) fB0 (by have := O1.size; have := HB.out; omega)
          clear fB0
          obtain ⟨ob, cb, rfl⟩ := own_form fB
          obtain ⟨mb, hmb⟩ : ∃ m, (objsTo r (64 * n)).length = m := ⟨_, rfl⟩
          rw [hmb] at bB fB ⊢
          replace fW := ownk fW o1 (Nat.zero_le _)
          replace zW := Nat.lt_of_lt_of_le zW o1.size
          replace fP := ownk fP o1 (Nat.zero_le _)
          replace zP := Nat.lt_of_lt_of_le zP o1.size
          have O2 : Out 0 0 W0 XWPB := O1.trans o1
          (try clear O1)
          have O1 := O2
          clear O2
          refine hK.out _ _ ?hS17 (fun hHeld2 => ?rest17)
          case hS17 => exact ⟨o1.cell hHeld.1 (.inr (Nat.zero_le _)), o1.cell hHeld.2.1 (.inr (Nat.zero_le _)), o1.cell hHeld.2.2 (.inr (Nat.zero_le _))⟩
          clear o1
          clear hK KK
          (try clear hHeld)
          have hHeld := hHeld2
          clear hHeld2
          (try simp only [Act.put, xa, xb, xc, xd, xe, xf])
          refine tk 16 ?_
          refine wpAnyH_ready (rs := [17]) (by kernel_rfl) (by simp) ?_
          refine AllReadyH.cons rfl (fun KK hK => ?_) ?_
          · simp only [xa, xb, xc]
            go_simp
            obtain ⟨bd, hbd⟩ : ∃ b, XWPB.heap.size = b := ⟨_, rfl⟩
            have nD : B ≤ bd := by have := O1.size; have := HB.out; omega
            obtain ⟨XWPBD, hW⟩ : ∃ W, XWPB.alloc (.cells #[.slice none 0 0, .slice none 0 0, .slice none 0 0, .int .i64 0, .int .i64 0, .int .i64 0, .int .i64 0, .int .i64 0, .int .i64 0, .int .i64 0, .int .i64 0, .int .i64 0] 65) = W := ⟨_, rfl⟩
            have o1 : Out 0 0 XWPB XWPBD := by rw [← hW]; exact (Out.refl 0 0 _).alloc _
            have fD : XWPBD.heap[bd]? = some (.cells #[.slice none 0 0, .slice none 0 0, .slice none 0 0, .int .i64 0, .int .i64 0, .int .i64 0, .int .i64 0, .int .i64 0, .int .i64 0, .int .i64 0, .int .i64 0, .int .i64 0] 65) := by rw [← hW, ← hbd]; exact heap_alloc_new _ _
            have zD : bd < XWPBD.heap.size := heap_lt fD
            have dW : gw < bd := by rw [← hbd]; exact zW
            have dP : gp < bd := by rw [← hbd]; exact zP
            have dB : ∀ g, (Value.slice ob mb cb).ownBlock = some g → g < bd := fun g hg => by rw [← hbd]; exact (own_block fB g hg).2
            replace fW := ownk fW o1 (Nat.zero_le _)
            replace zW := Nat.lt_of_lt_of_le zW o1.size
            replace fP := ownk fP o1 (Nat.zero_le _)
            replace zP := Nat.lt_of_lt_of_le zP o1.size
            replace fB := ownk fB o1 (Nat.zero_le _)
            (try rw [hW])
            (try rw [hbd])
            have O2 : Out 0 0 W0 XWPBD := O1.trans o1
            (try clear O1)
            have O1 := O2
            clear O2
            clear hW hbd
            refine hK.out _ _ ?hS19 (fun hHeld2 => ?rest19)
            case hS19 => exact ⟨o1.cell hHeld.1 (.inr (Nat.zero_le _)), o1.cell hHeld.2.1 (.inr (Nat.zero_le _)), o1.cell hHeld.2.2 (.inr (Nat.zero_le _))⟩
            clear o1
            clear hK KK
            (try clear hHeld)
            have hHeld := hHeld2
            clear hHeld2
            (try simp only [Act.put, xa, xb, xc, xd, xe, xf])
            refine wpAnyH_ready (rs := [18]) (by kernel_rfl) (by simp) ?_
            refine AllReadyH.cons rfl (fun KK hK => ?_) ?_
            · simp only [xa, xb, xc]
              have hf := dz_facts fD
              obtain ⟨y0, y1, y2, y3, y4, y5, y6, y7, y8, y9, ya, yb, yf⟩ := hf
              go_simp
              obtain ⟨XE, hXE⟩ : ∃ W, dS XWPBD bd (.slice (some ⟨gw, 0, none⟩) (64 * n) cw) (.slice (some ⟨gp, 0, none⟩) n cp) (.slice ob mb cb) (.int .i64 r.last) = W := ⟨_, rfl⟩
              have fE : XE.heap[bd]? = some (.cells #[.slice (some ⟨gw, 0, none⟩) (64 * n) cw, .slice (some ⟨gp, 0, none⟩) n cp, .slice ob mb cb, .int .i64 0, .int .i64 0, .int .i64 0, .int .i64 0, .int .i64 0, .int .i64 0, .int .i64 0, .int .i64 0, .int .i64 r.last] 65 (0, 0)) := by rw [← hXE]; exact dS_heap fD _ _ _ _
              have oE : Out bd (bd + 1) XWPBD XE := by rw [← hXE]; exact dS_out _ _ _ _ _ _
              unfold dS at hXE
              rw [hXE]
              clear hXE y0 y1 y2 y3 y4 y5 y6 y7 y8 y9 ya yb yf
              refine hK.out _ _ ?hS20 (fun hHeld2 => ?rest20)
              case hS20 => exact ⟨oE.cell hHeld.1 (.inl (by have := HB.out; omega)), oE.cell hHeld.2.1 (.inl (by have := HB.out; omega)), oE.cell hHeld.2.2 (.inl (by have := HB.out; omega))⟩
              clear hK KK
              (try clear hHeld)
              have hHeld := hHeld2
              clear hHeld2
              (try simp only [Act.put, xa, xb, xc, xd, xe, xf])
              refine wpAnyH_done (by kernel_rfl) ?_ _
              clear hHeld
              have uB : ∀ g, (Value.slice ob mb cb).ownBlock = some g → g ≠ bd := fun g hg => by have := dB g hg; omega
              refine ⟨gw, cw, gp, cp, ob, mb, cb, bd, rfl, ⟨?_, ?_, ?_, wP, bB⟩, fE, nD, by omega, by omega, uB, O1.past oE (by have := HB.out; omega)⟩
              · exact own_same fW fun g o hg _ hh => oE.heap hh (by have e : gw = g := by simpa [Value.ownBlock] using hg
                                                                    omega)
              · exact own_same fP fun g o hg _ hh => oE.heap hh (by have e : gp = g := by simpa [Value.ownBlock] using hg
                                                                    omega)
              · show XE.ownsRow _ _ _ _ _ _
                rw [hmb]
                exact own_same fB fun g o hg _ hh => oE.heap hh (by have := dB g hg; omega)
            · exact AllReadyH.nil
          · exact AllReadyH.nil
        · refine AllReadyH.cons rfl (fun KK hK => ?_) ?_
          · simp only [xa, xb, xc]
            go_simp
            obtain ⟨bd, hbd⟩ : ∃ b, XWP.heap.size = b := ⟨_, rfl⟩
            have nD : B ≤ bd := by have := O1.size; have := HB.out; omega
            obtain ⟨XWPD, hW⟩ : ∃ W, XWP.alloc (.cells #[.slice none 0 0, .slice none 0 0, .slice none 0 0, .int .i64 0, .int .i64 0, .int .i64 0, .int .i64 0, .int .i64 0, .int .i64 0, .int .i64 0, .int .i64 0, .int .i64 0] 65) = W := ⟨_, rfl⟩
            have o1 : Out 0 0 XWP XWPD := by rw [← hW]; exact (Out.refl 0 0 _).alloc _
            have fD : XWPD.heap[bd]? = some (.cells #[.slice none 0 0, .slice none 0 0, .slice none 0 0, .int .i64 0, .int .i64 0, .int .i64 0, .int .i64 0, .int .i64 0, .int .i64 0, .int .i64 0, .int .i64 0, .int .i64 0] 65) := by rw [← hW, ← hbd]; exact heap_alloc_new _ _
            have zD : bd < XWPD.heap.size := heap_lt fD
            have dW : gw < bd := by rw [← hbd]; exact zW
            have dP : gp < bd := by rw [← hbd]; exact zP
            replace fW := ownk fW o1 (Nat.zero_le _)
            replace zW := Nat.lt_of_lt_of_le zW o1.size
            replace fP := ownk fP o1 (Nat.zero_le _)
            replace zP := Nat.lt_of_lt_of_le zP o1.size
            (try rw [hW])
            (try rw [hbd])
            have O2 : Out 0 0 W0 XWPD := O1.trans o1
            (try clear O1)
            have O1 := O2
            clear O2
            clear hW hbd
            refine hK.out _ _ ?hS21 (fun hHeld2 => ?rest21)
            case hS21 => exact ⟨o1.cell hHeld.1 (.inr (Nat.zero_le _)), o1.cell hHeld.2.1 (.inr (Nat.zero_le _)), o1.cell hHeld.2.2 (.inr (Nat.zero_le _))⟩
            clear o1
            clear hK KK
            (try clear hHeld)
            have hHeld := hHeld2
            clear hHeld2
            (try simp only [Act.put, xa, xb, xc, xd, xe, xf])
            refine wpAnyH_ready (rs := [11]) (by kernel_rfl) (by simp) ?_
            refine AllReadyH.cons rfl (fun KK hK => ?_) ?_
            · simp only [xa, xb, xc]
              go_simp
              refine (HBl.out _ O1).mono ?_
              rintro e XWPDB ⟨vb, rfl, fB0, o1⟩
              have bB : ∀ g, vb.ownBlock = some g → gp < g := fun g hg => Nat.lt_of_lt_of_le zP (own_block fB0 g hg).1
              have dB : ∀ g, vb.ownBlock = some g → bd < g := fun g hg => Nat.lt_of_lt_of_le zD (own_block fB0 g hg).1
              have fB := ownw (base' := B) fB0 (by have := O1.size; have := HB.out; omega)
              clear fB0
              obtain ⟨ob, cb, rfl⟩ := own_form fB
              obtain ⟨mb, hmb⟩ : ∃ m, (objsTo r (64 * n)).length = m := ⟨_, rfl⟩
              rw [hmb] at bB fB ⊢
              rw [hmb] at dB
              replace fW := ownk fW o1 (Nat.zero_le _)
              replace zW := Nat.lt_of_lt_of_le zW o1.size
              replace fP := ownk fP o1 (Nat.zero_le _)
              replace zP := Nat.lt_of_lt_of_le zP o1.size
              replace fD := o1.heap fD (.inr (Nat.zero_le _))
              replace zD := Nat.lt_of_lt_of_le zD o1.size
              have O2 : Out 0 0 W0 XWPDB := O1.trans o1
              (try clear O1)
              have O1 := O2
              clear O2
              refine hK.out _ _ ?hS22 (fun hHeld2 => ?rest22)
              case hS22 => exact ⟨o1.cell hHeld.1 (.inr (Nat.zero_le _)), o1.cell hHeld.2.1 (.inr (Nat.zero_le _)), o1.cell hHeld.2.2 (.inr (Nat.zero_le _))⟩
              clear o1
              clear hK KK
              (try clear hHeld)
              have hHeld := hHeld2
              clear hHeld2
              (try simp only [Act.put, xa, xb, xc, xd, xe, xf])
              refine tk 16 ?_
              refine wpAnyH_ready (rs := [18]) (by kernel_rfl) (by simp) ?_
              refine AllReadyH.cons rfl (fun KK hK => ?_) ?_
              · simp only [xa, xb, xc]
                have hf := dz_facts fD
                obtain ⟨y0, y1, y2, y3, y4, y5, y6, y7, y8, y9, ya, yb, yf⟩ := hf
                go_simp
                obtain ⟨XE, hXE⟩ : ∃ W, dS XWPDB bd (.slice (some ⟨gw, 0, none⟩) (64 * n) cw) (.slice (some ⟨gp, 0, none⟩) n cp) (.slice ob mb cb) (.int .i64 r.last) = W := ⟨_, rfl⟩
                have fE : XE.heap[bd]? = some (.cells #[.slice (some ⟨gw, 0, none⟩) (64 * n) cw, .slice (some ⟨gp, 0, none⟩) n cp, .slice ob mb cb, .int .i64 0, .int .i64 0, .int .i64 0, .int .i64 0, .int .i64 0, .int .i64 0, .int .i64 0, .int .i64 0, .int .i64 r.last] 65 (0, 0)) := by rw [← hXE]; exact dS_heap fD _ _ _ _
                have oE : Out bd (bd + 1) XWPDB XE := by rw [← hXE]; exact dS_out _ _ _ _ _ _
                unfold dS at hXE
                rw [hXE]
                clear hXE y0 y1 y2 y3 y4 y5 y6 y7 y8 y9 ya yb yf
                refine hK.out _ _ ?hS24 (fun hHeld2 => ?rest24)
                case hS24 => exact ⟨oE.cell hHeld.1 (.inl (by have := HB.out; omega)), oE.cell hHeld.2.1 (.inl (by have := HB.out; omega)), oE.cell hHeld.2.2 (.inl (by have := HB.out; omega))⟩
                clear hK KK
                (try clear hHeld)
                have hHeld := hHeld2
                clear hHeld2
                (try simp only [Act.put, xa, xb, xc, xd, xe, xf])
                refine wpAnyH_done (by kernel_rfl) ?_ _
                clear hHeld
                have uB : ∀ g, (Value.slice ob mb cb).ownBlock = some g → g ≠ bd := fun g hg => by have := dB g hg; omega
                refine ⟨gw, cw, gp, cp, ob, mb, cb, bd, rfl, ⟨?_, ?_, ?_, wP, bB⟩, fE, nD, by omega, by omega, uB, O1.past oE (by have := HB.out; omega)⟩
                · exact own_same fW fun g o hg _ hh => oE.heap hh (by have e : gw = g := by simpa [Value.ownBlock] using hg
                                                                      omega)
                · exact own_same fP fun g o hg _ hh => oE.heap hh (by have e : gp = g := by simpa [Value.ownBlock] using hg
                                                                      omega)
                · show XE.ownsRow _ _ _ _ _ _
                  rw [hmb]
                  exact own_same fB fun g o hg _ hh => oE.heap hh (by have := dB g hg; omega)
              · exact AllReadyH.nil
            · exact AllReadyH.nil
          · exact AllReadyH.nil
      · refine AllReadyH.cons rfl (fun KK hK => ?_) ?_
        · simp only [xa, xb, xc]
          go_simp
          obtain ⟨bd, hbd⟩ : ∃ b, XW.heap.size = b := ⟨_, rfl⟩
          have nD : B ≤ bd := by have := O1.size; have := HB.out; omega
          obtain ⟨XWD, hW⟩ : ∃ W, XW.alloc (.cells #[.slice none 0 0, .slice none 0 0, .slice none 0 0, .int .i64 0, .int .i64 0, .int .i64 0, .int .i64 0, .int .i64 0, .int .i64 0, .int .i64 0, .int .i64 0, .int .i64 0] 65) = W := ⟨_, rfl⟩
          have o1 : Out 0 0 XW XWD := by rw [← hW]; exact (Out.refl 0 0 _).alloc _
          have fD : XWD.heap[bd]? = some (.cells #[.slice none 0 0, .slice none 0 0, .slice none 0 0, .int .i64 0, .int .i64 0, .int .i64 0, .int .i64 0, .int .i64 0, .int .i64 0, .int .i64 0, .int .i64 0, .int .i64 0] 65) := by rw [← hW, ← hbd]; exact heap_alloc_new _ _
          have zD : bd < XWD.heap.size := heap_lt fD
          have dW : gw < bd := by rw [← hbd]; exact zW
          replace fW := ownk fW o1 (Nat.zero_le _)
          replace zW := Nat.lt_of_lt_of_le zW o1.size
          (try rw [hW])
          (try rw [hbd])
          have O2 : Out 0 0 W0 XWD := O1.trans o1
          (try clear O1)
          have O1 := O2
          clear O2
          clear hW hbd
          refine hK.out _ _ ?hS25 (fun hHeld2 => ?rest25)
          case hS25 => exact ⟨o1.cell hHeld.1 (.inr (Nat.zero_le _)), o1.cell hHeld.2.1 (.inr (Nat.zero_le _)), o1.cell hHeld.2.2 (.inr (Nat.zero_le _))⟩
          clear o1
          clear hK KK
          (try clear hHeld)
          have hHeld := hHeld2
          clear hHeld2
          (try simp only [Act.put, xa, xb, xc, xd, xe, xf])
          refine wpAnyH_ready (rs := [9]) (by kernel_rfl) (by simp) ?_
          refine AllReadyH.cons rfl (fun KK hK => ?_) ?_
          · simp only [xa, xb, xc]
            go_simp
            refine (HAl.out _ O1).mono ?_
            rintro e XWDP ⟨gp, cp, rfl, fP0, o1⟩
            have bP : XWD.heap.size ≤ gp := (own_block fP0 gp rfl).1
            have zP : gp < XWDP.heap.size := (own_block fP0 gp rfl).2
            have wP : gw < gp := Nat.lt_of_lt_of_le zW bP
            have dP : bd < gp := Nat.lt_of_lt_of_le zD bP
            have fP := ownw (base' := B) fP0 (by have := O1.size; have := HB.out; omega)
            clear fP0
            replace fW := ownk fW o1 (Nat.zero_le _)
            replace zW := Nat.lt_of_lt_of_le zW o1.size
            replace fD := o1.heap fD (.inr (Nat.zero_le _))
            replace zD := Nat.lt_of_lt_of_le zD o1.size
            have O2 : Out 0 0 W0 XWDP := O1.trans o1
            (try clear O1)
            have O1 := O2
            clear O2
            clear bP
            refine hK.out _ _ ?hS26 (fun hHeld2 => ?rest26)
            case hS26 => exact ⟨o1.cell hHeld.1 (.inr (Nat.zero_le _)), o1.cell hHeld.2.1 (.inr (Nat.zero_le _)), o1.cell hHeld.2.2 (.inr (Nat.zero_le _))⟩
            clear o1
            clear hK KK
            (try clear hHeld)
            have hHeld := hHeld2
            clear hHeld2
            (try simp only [Act.put, xa, xb, xc, xd, xe, xf])
            refine wpAnyH_ready (rs := [11]) (by kernel_rfl) (by simp) ?_
            refine AllReadyH.cons rfl (fun KK hK => ?_) ?_
            · simp only [xa, xb, xc]
              go_simp
              refine (HBl.out _ O1).mono ?_
              rintro e XWDPB ⟨vb, rfl, fB0, o1⟩
              have bB : ∀ g, vb.ownBlock = some g → gp < g := fun g hg => Nat.lt_of_lt_of_le zP (own_block fB0 g hg).1
              have dB : ∀ g, vb.ownBlock = some g → bd < g := fun g hg => Nat.lt_of_lt_of_le zD (own_block fB0 g hg).1
              have fB := ownw (base' := B) fB0 (by have := O1.size; have := HB.out; omega)
              clear fB0
              obtain ⟨ob, cb, rfl⟩ := own_form fB
              obtain ⟨mb, hmb⟩ : ∃ m, (objsTo r (64 * n)).length = m := ⟨_, rfl⟩
              rw [hmb] at bB fB ⊢
              rw [hmb] at dB
              replace fW := ownk fW o1 (Nat.zero_le _)
              replace zW := Nat.lt_of_lt_of_le zW o1.size
              replace fD := o1.heap fD (.inr (Nat.zero_le _))
              replace zD := Nat.lt_of_lt_of_le zD o1.size
              replace fP := ownk fP o1 (Nat.zero_le _)
              replace zP := Nat.lt_of_lt_of_le zP o1.size
              have O2 : Out 0 0 W0 XWDPB := O1.trans o1
              (try clear O1)
              have O1 := O2
              clear O2
              refine hK.out _ _ ?hS27 (fun hHeld2 => ?rest27)
              case hS27 => exact ⟨o1.cell hHeld.1 (.inr (Nat.zero_le _)), o1.cell hHeld.2.1 (.inr (Nat.zero_le _)), o1.cell hHeld.2.2 (.inr (Nat.zero_le _))⟩
              clear o1
              clear hK KK
              (try clear hHeld)
              have hHeld := hHeld2
              clear hHeld2
              (try simp only [Act.put, xa, xb, xc, xd, xe, xf])
              refine tk 16 ?_
              refine wpAnyH_ready (rs := [18]) (by kernel_rfl) (by simp) ?_
              refine AllReadyH.cons rfl (fun KK hK => ?_) ?_
              · simp only [xa, xb, xc]
                have hf := dz_facts fD
                obtain ⟨y0, y1, y2, y3, y4, y5, y6, y7, y8, y9, ya, yb, yf⟩ := hf
                go_simp
                obtain ⟨XE, hXE⟩ : ∃ W, dS XWDPB bd (.slice (some ⟨gw, 0, none⟩) (64 * n) cw) (.slice (some ⟨gp, 0, none⟩) n cp) (.slice ob mb cb) (.int .i64 r.last) = W := ⟨_, rfl⟩
                have fE : XE.heap[bd]? = some (.cells #[.slice (some ⟨gw, 0, none⟩) (64 * n) cw, .slice (some ⟨gp, 0, none⟩) n cp, .slice ob mb cb, .int .i64 0, .int .i64 0, .int .i64 0, .int .i64 0, .int .i64 0, .int .i64 0, .int .i64 0, .int .i64 0, .int .i64 r.last] 65 (0, 0)) := by rw [← hXE]; exact dS_heap fD _ _ _ _
                have oE : Out bd (bd + 1) XWDPB XE := by rw [← hXE]; exact dS_out _ _ _ _ _ _
                unfold dS at hXE
                rw [hXE]
                clear hXE y0 y1 y2 y3 y4 y5 y6 y7 y8 y9 ya yb yf
                refine hK.out _ _ ?hS29 (fun hHeld2 => ?rest29)
                case hS29 => exact ⟨oE.cell hHeld.1 (.inl (by have := HB.out; omega)), oE.cell hHeld.2.1 (.inl (by have := HB.out; omega)), oE.cell hHeld.2.2 (.inl (by have := HB.out; omega))⟩
                clear hK KK
                (try clear hHeld)
                have hHeld := hHeld2
                clear hHeld2
                (try simp only [Act.put, xa, xb, xc, xd, xe, xf])
                refine wpAnyH_done (by kernel_rfl) ?_ _
                clear hHeld
                have uB : ∀ g, (Value.slice ob mb cb).ownBlock = some g → g ≠ bd := fun g hg => by have := dB g hg; omega
                refine ⟨gw, cw, gp, cp, ob, mb, cb, bd, rfl, ⟨?_, ?_, ?_, wP, bB⟩, fE, nD, by omega, by omega, uB, O1.past oE (by have := HB.out; omega)⟩
                · exact own_same fW fun g o hg _ hh => oE.heap hh (by have e : gw = g := by simpa [Value.ownBlock] using hg
                                                                      omega)
                · exact own_same fP fun g o hg _ hh => oE.heap hh (by have e : gp = g := by simpa [Value.ownBlock] using hg
                                                                      omega)
                · show XE.ownsRow _ _ _ _ _ _
                  rw [hmb]
                  exact own_same fB fun g o hg _ hh => oE.heap hh (by have := dB g hg; omega)
              · exact AllReadyH.nil
            · exact AllReadyH.nil
          · exact AllReadyH.nil
        · exact AllReadyH.nil
    · refine AllReadyH.cons rfl (fun KK hK => ?_) ?_
      · simp only [xa, xb, xc]
        go_simp
        obtain ⟨bd, hbd⟩ : ∃ b, Z.heap.size = b := ⟨_, rfl⟩
        have nD : B ≤ bd := by have := OZ.size; have := HB.out; omega
        obtain ⟨XD, hW⟩ : ∃ W, Z.alloc (.cells #[.slice none 0 0, .slice none 0 0, .slice none 0 0, .int .i64 0, .int .i64 0, .int .i64 0, .int .i64 0, .int .i64 0, .int .i64 0, .int .i64 0, .int .i64 0, .int .i64 0] 65) = W := ⟨_, rfl⟩
        have o1 : Out 0 0 Z XD := by rw [← hW]; exact (Out.refl 0 0 _).alloc _
        have fD : XD.heap[bd]? = some (.cells #[.slice none 0 0, .slice none 0 0, .slice none 0 0, .int .i64 0, .int .i64 0, .int .i64 0, .int .i64 0, .int .i64 0, .int .i64 0, .int .i64 0, .int .i64 0, .int .i64 0] 65) := by rw [← hW, ← hbd]; exact heap_alloc_new _ _
        have zD : bd < XD.heap.size := heap_lt fD
        (try rw [hW])
        (try rw [hbd])
        have O2 : Out 0 0 W0 XD := OZ.trans o1
        (try clear O1)
        have O1 := O2
        clear O2
        clear hW hbd
        refine hK.out _ _ ?hS30 (fun hHeld2 => ?rest30)
        case hS30 => exact ⟨o1.cell hHeld.1 (.inr (Nat.zero_le _)), o1.cell hHeld.2.1 (.inr (Nat.zero_le _)), o1.cell hHeld.2.2 (.inr (Nat.zero_le _))⟩
        clear o1
        clear hK KK
        (try clear hHeld)
        have hHeld := hHeld2
        clear hHeld2
        (try simp only [Act.put, xa, xb, xc, xd, xe, xf])
        refine wpAnyH_ready (rs := [4]) (by kernel_rfl) (by simp) ?_
        refine AllReadyH.cons rfl (fun KK hK => ?_) ?_
        · simp only [xa, xb, xc]
          go_simp
          refine (HCl.out _ O1).mono ?_
          rintro e XDW ⟨gw, cw, rfl, k1, k2, zW, fW, o1⟩
          replace fW := ownw (base' := B) fW (by have := O1.size; have := HB.out; omega)
          have bW : B ≤ gw := by have := O1.size; have := HB.out; omega
          have dW : bd < gw := Nat.lt_of_lt_of_le zD k2
          replace fD := o1.heap fD (.inr (Nat.zero_le _))
          replace zD := Nat.lt_of_lt_of_le zD o1.size
          have O2 : Out 0 0 W0 XDW := O1.trans o1
          (try clear O1)
          have O1 := O2
          clear O2
          clear k1 k2
          refine hK.out _ _ ?hS31 (fun hHeld2 => ?rest31)
          case hS31 => exact ⟨o1.cell hHeld.1 (.inr (Nat.zero_le _)), o1.cell hHeld.2.1 (.inr (Nat.zero_le _)), o1.cell hHeld.2.2 (.inr (Nat.zero_le _))⟩
          clear o1
          clear hK KK
          (try clear hHeld)
          have hHeld := hHeld2
          clear hHeld2
          (try simp only [Act.put, xa, xb, xc, xd, xe, xf])
          refine wpAnyH_ready (rs := [9]) (by kernel_rfl) (by simp) ?_
          refine AllReadyH.cons rfl (fun KK hK => ?_) ?_
          · simp only [xa, xb, xc]
            go_simp
            refine (HAl.out _ O1).mono ?_
            rintro e XDWP ⟨gp, cp, rfl, fP0, o1⟩
            have bP : XDW.heap.size ≤ gp := (own_block fP0 gp rfl).1
            have zP : gp < XDWP.heap.size := (own_block fP0 gp rfl).2
            have wP : gw < gp := Nat.lt_of_lt_of_le zW bP
            have dP : bd < gp := Nat.lt_of_lt_of_le zD bP
            have fP := ownw (base' := B) fP0 (by have := O1.size; have := HB.out; omega)
            clear fP0
            replace fD := o1.heap fD (.inr (Nat.zero_le _))
            replace zD := Nat.lt_of_lt_of_le zD o1.size
            replace fW := ownk fW o1 (Nat.zero_le _)
            replace zW := Nat.lt_of_lt_of_le zW o1.size
            have O2 : Out 0 0 W0 XDWP := O1.trans o1
            (try clear O1)
            have O1 := O2
            clear O2
            clear bP
            refine hK.out _ _ ?hS32 (fun hHeld2 => ?rest32)
            case hS32 => exact ⟨o1.cell hHeld.1 (.inr (Nat.zero_le _)), o1.cell hHeld.2.1 (.inr (Nat.zero_le _)), o1.cell hHeld.2.2 (.inr (Nat.zero_le _))⟩
            clear o1
            clear hK KK
            (try clear hHeld)
            have hHeld := hHeld2
            clear hHeld2
            (try simp only [Act.put, xa, xb, xc, xd, xe, xf])
            refine wpAnyH_ready (rs := [11]) (by kernel_rfl) (by simp) ?_
            refine AllReadyH.cons rfl (fun KK hK => ?_) ?_
            · simp only [xa, xb, xc]
              go_simp
              refine (HBl.out _ O1).mono ?_
              rintro e XDWPB ⟨vb, rfl, fB0, o1⟩
              have bB : ∀ g, vb.ownBlock = some g → gp < g := fun g hg => Nat.lt_of_lt_of_le zP (own_block fB0 g hg).1
              have dB : ∀ g, vb.ownBlock = some g → bd < g := fun g hg => Nat.lt_of_lt_of_le zD (own_block fB0 g hg).1
              have fB := ownw (base' := B) fB0 (by have := O1.size; have := HB.out; omega)
              clear fB0
              obtain ⟨ob, cb, rfl⟩ := own_form fB
              obtain ⟨mb, hmb⟩ : ∃ m, (objsTo r (64 * n)).length = m := ⟨_, rfl⟩
              rw [hmb] at bB fB ⊢
              rw [hmb] at dB
              replace fD := o1.heap fD (.inr (Nat.zero_le _))
              replace zD := Nat.lt_of_lt_of_le zD o1.size
              replace fW := ownk fW o1 (Nat.zero_le _)
              replace zW := Nat.lt_of_lt_of_le zW o1.size
              replace fP := ownk fP o1 (Nat.zero_le _)
              replace zP := Nat.lt_of_lt_of_le zP o1.size
              have O2 : Out 0 0 W0 XDWPB := O1.trans o1
              (try clear O1)
              have O1 := O2
              clear O2
              refine hK.out _ _ ?hS33 (fun hHeld2 => ?rest33)
              case hS33 => exact ⟨o1.cell hHeld.1 (.inr (Nat.zero_le _)), o1.cell hHeld.2.1 (.inr (Nat.zero_le _)), o1.cell hHeld.2.2 (.inr (Nat.zero_le _))⟩
              clear o1
              clear hK KK
              (try clear hHeld)
              have hHeld := hHeld2
              clear hHeld2
              (try simp only [Act.put, xa, xb, xc, xd, xe, xf])
              refine tk 16 ?_
              refine wpAnyH_ready (rs := [18]) (by kernel_rfl) (by simp) ?_
              refine AllReadyH.cons rfl (fun KK hK => ?_) ?_
              · simp only [xa, xb, xc]
                have hf := dz_facts fD
                obtain ⟨y0, y1, y2, y3, y4, y5, y6, y7, y8, y9, ya, yb, yf⟩ := hf
                go_simp
                obtain ⟨XE, hXE⟩ : ∃ W, dS XDWPB bd (.slice (some ⟨gw, 0, none⟩) (64 * n) cw) (.slice (some ⟨gp, 0, none⟩) n cp) (.slice ob mb cb) (.int .i64 r.last) = W := ⟨_, rfl⟩
                have fE : XE.heap[bd]? = some (.cells #[.slice (some ⟨gw, 0, none⟩) (64 * n) cw, .slice (some ⟨gp, 0, none⟩) n cp, .slice ob mb cb, .int .i64 0, .int .i64 0, .int .i64 0, .int .i64 0, .int .i64 0, .int .i64 0, .int .i64 0, .int .i64 0, .int .i64 r.last] 65 (0, 0)) := by rw [← hXE]; exact dS_heap fD _ _ _ _
                have oE : Out bd (bd + 1) XDWPB XE := by rw [← hXE]; exact dS_out _ _ _ _ _ _
                unfold dS at hXE
                rw [hXE]
                clear hXE y0 y1 y2 y3 y4 y5 y6 y7 y8 y9 ya yb yf
                refine hK.out _ _ ?hS35 (fun hHeld2 => ?rest35)
                case hS35 => exact ⟨oE.cell hHeld.1 (.inl (by have := HB.out; omega)), oE.cell hHeld.2.1 (.inl (by have := HB.out; omega)), oE.cell hHeld.2.2 (.inl (by have := HB.out; omega))⟩
                clear hK KK
                (try clear hHeld)
                have hHeld := hHeld2
                clear hHeld2
                (try simp only [Act.put, xa, xb, xc, xd, xe, xf])
                refine wpAnyH_done (by kernel_rfl) ?_ _
                clear hHeld
                have uB : ∀ g, (Value.slice ob mb cb).ownBlock = some g → g ≠ bd := fun g hg => by have := dB g hg; omega
                refine ⟨gw, cw, gp, cp, ob, mb, cb, bd, rfl, ⟨?_, ?_, ?_, wP, bB⟩, fE, nD, by omega, by omega, uB, O1.past oE (by have := HB.out; omega)⟩
                · exact own_same fW fun g o hg _ hh => oE.heap hh (by have e : gw = g := by simpa [Value.ownBlock] using hg
                                                                      omega)
                · exact own_same fP fun g o hg _ hh => oE.heap hh (by have e : gp = g := by simpa [Value.ownBlock] using hg
                                                                      omega)
                · show XE.ownsRow _ _ _ _ _ _
                  rw [hmb]
                  exact own_same fB fun g o hg _ hh => oE.heap hh (by have := dB g hg; omega)
              · exact AllReadyH.nil
            · exact AllReadyH.nil
          · exact AllReadyH.nil
        · exact AllReadyH.nil
      · exact AllReadyH.nil
  · rintro a W ⟨gw, cw, gp, cp, ob, mb, cb, bd, rfl, l1, l2, l3, l4, l5, l6, l7⟩
    have HL := hid_mk (And.intro l1 (And.intro l3 (And.intro l4 (And.intro l5 (And.intro l6 l7)))))
    have HE := hid_mk l2
    clear l1 l2 l3 l4 l5 l6 l7 d0 d1 d5 HCl HAl HBl
    go_wp2_with fail
    go_loopw [24] (fun u wr => ∃ i : Nat, u = .int .i64 (i : Int) ∧ i ≤ 8 ∧ Row wr bd 65 12 (hdC n r (.slice (some ⟨gw, 0, none⟩) (64 * n) cw) (.slice (some ⟨gp, 0, none⟩) n cp) (.slice ob mb cb) i) ∧ Out bd (bd + 1) W wr) (fun u _ => (8 - intOf u).toNat)
    case atStart =>
      refine ⟨0, rfl, by omega, ⟨_, HE.out, Nat.le_refl _, fun j hj => ?_⟩, Out.refl _ _ _⟩
      have : j = 0 ∨ j = 1 ∨ j = 2 ∨ j = 3 ∨ j = 4 ∨ j = 5 ∨ j = 6 ∨ j = 7 ∨ j = 8 ∨ j = 9 ∨ j = 10 ∨ j = 11 := by omega
      rcases this with rfl | rfl | rfl | rfl | rfl | rfl | rfl | rfl | rfl | rfl | rfl | rfl <;> rfl
    case round =>
      obtain ⟨i, rfl, i8, r1, r2⟩ := hrel
      have hbd := HL.out.2.1
      have hbb := HB.out
      have hwr : RawAt wr lo hi s n cap r := (HRQ.out.quiet HL.out.2.2.2.2.2).kept r2 (.inl (by omega)) (.inl (by omega))
      by_cases hlt : i < 8
      · have k0 : (0 : Int) ≤ (i : Int) := by omega
        have k1 : (i : Int) < 8 := by omega
        have cF := hwr.cellF hlt
        have HX := hid_mk (next_any (hwr.free i hlt) 0)
        rw [show (0 : Int).toNat = 0 from rfl] at HX
        have d0 : wr.cell? ⟨bd, 3 + i, none⟩ = some (.int .i64 0) := by
          have := r1.cell (i := 3 + i) (by omega)
          unfold hdC at this
          rw [if_neg (by omega), if_neg (by omega), if_neg (by omega), if_neg (by omega), if_neg (by omega)] at this
          exact this
        have d1 := Row.frozen r1 (3 + i)
        have HRr := hid_mk (And.intro r1 r2)
        clear r1 r2 hwr hbd hbb
        go_wp2_with (go_at_call 46; refine HX.out.mono ?_; rintro e w5 ⟨rfl, ho⟩; have e0 := ho.cell d0 (.inr (Nat.zero_le _)); have HR5 := hid_mk (And.intro (HRr.out.1.kept ho (.inr (Nat.zero_le _))) ho); have e1 := Row.frozen HR5.out.1 (3 + i); clear d0 d1 cF ho)
        go_roundw
        case rel =>
          refine ⟨i + 1, by go_num, by omega, (HR5.out.1.set (3 + i) _).congr fun j hj => ?_, ((HRr.out.2.trans (HR5.out.2.any _ _)).setCell (p := ⟨bd, 3 + i, none⟩) (.inl ⟨Nat.le_refl _, Nat.lt_succ_self _⟩) _)⟩
          unfold hdC
          by_cases e : j = 3 + i
          · rw [if_pos e, if_neg (by omega), if_neg (by omega), if_neg (by omega), if_neg (by omega), if_pos (by omega), show j - 3 = i from by omega]
          · rw [if_neg e]
            by_cases f0 : j = 0
            · rw [if_pos f0, if_pos f0]
            · rw [if_neg f0, if_neg f0]
              by_cases f1 : j = 1
              · rw [if_pos f1, if_pos f1]
              · rw [if_neg f1, if_neg f1]
                by_cases f2 : j = 2
                · rw [if_pos f2, if_pos f2]
                · rw [if_neg f2, if_neg f2]
                  by_cases f3 : j = 11
                  · rw [if_pos f3, if_pos f3]
                  · rw [if_neg f3, if_neg f3]
                    by_cases f4 : j < 3 + i
                    · rw [if_pos f4, if_pos (by omega)]
                    · rw [if_neg f4, if_neg (by omega)]
        case measure => simp [intOf]; omega
      · have e : i = 8 := by omega
        subst e
        have y0 : wr.cell? ⟨bd, 0, none⟩ = some (.slice (some ⟨gw, 0, none⟩) (64 * n) cw) := r1.cell (i := 0) (by omega)
        have y1 : wr.cell? ⟨bd, 1, none⟩ = some (.slice (some ⟨gp, 0, none⟩) n cp) := r1.cell (i := 1) (by omega)
        have y2 : wr.cell? ⟨bd, 2, none⟩ = some (.slice ob mb cb) := r1.cell (i := 2) (by omega)
        have y3 : wr.cell? ⟨bd, 3, none⟩ = some (.int .i64 (nxr (r.F 0) (64 * n) 0)) := r1.cell (i := 3) (by omega)
        have y4 : wr.cell? ⟨bd, 4, none⟩ = some (.int .i64 (nxr (r.F 1) (64 * n) 0)) := r1.cell (i := 4) (by omega)
        have y5 : wr.cell? ⟨bd, 5, none⟩ = some (.int .i64 (nxr (r.F 2) (64 * n) 0)) := r1.cell (i := 5) (by omega)
        have y6 : wr.cell? ⟨bd, 6, none⟩ = some (.int .i64 (nxr (r.F 3) (64 * n) 0)) := r1.cell (i := 6) (by omega)
        have y7 : wr.cell? ⟨bd, 7, none⟩ = some (.int .i64 (nxr (r.F 4) (64 * n) 0)) := r1.cell (i := 7) (by omega)
        have y8 : wr.cell? ⟨bd, 8, none⟩ = some (.int .i64 (nxr (r.F 5) (64 * n) 0)) := r1.cell (i := 8) (by omega)
        have y9 : wr.cell? ⟨bd, 9, none⟩ = some (.int .i64 (nxr (r.F 6) (64 * n) 0)) := r1.cell (i := 9) (by omega)
        have y10 : wr.cell? ⟨bd, 10, none⟩ = some (.int .i64 (nxr (r.F 7) (64 * n) 0)) := r1.cell (i := 10) (by omega)
        have y11 : wr.cell? ⟨bd, 11, none⟩ = some (.int .i64 r.last) := r1.cell (i := 11) (by omega)
        have hER : wr.heap[R]? = some (.cells #[.slice none 0 0, .slice none 0 0, .slice none 0 0, .int .i64 0, .int .i64 0, .int .i64 0, .int .i64 0, .int .i64 0, .int .i64 0, .int .i64 0, .int .i64 0, .int .i64 0] 65 (0, 0)) := r2.heap (HL.out.2.2.2.2.2.heap HE0.out (.inr (Nat.zero_le _))) (.inl (by omega))
        obtain ⟨x0, x1, x2, x3, x4, x5, x6, x7, x8, x9, xa, xb, xf⟩ := dz_facts hER
        have HER := hid_mk hER
        have HR2 := hid_mk r2
        clear hlt i8 hER r1 r2 hwr hbd hbb
        go_wp2
        have oF := dT_out wr R (.slice (some ⟨gw, 0, none⟩) (64 * n) cw) (.slice (some ⟨gp, 0, none⟩) n cp) (.slice ob mb cb) (.int .i64 (nxr (r.F 0) (64 * n) 0)) (.int .i64 (nxr (r.F 1) (64 * n) 0)) (.int .i64 (nxr (r.F 2) (64 * n) 0)) (.int .i64 (nxr (r.F 3) (64 * n) 0)) (.int .i64 (nxr (r.F 4) (64 * n) 0)) (.int .i64 (nxr (r.F 5) (64 * n) 0)) (.int .i64 (nxr (r.F 6) (64 * n) 0)) (.int .i64 (nxr (r.F 7) (64 * n) 0)) (.int .i64 r.last)
        have hrw := HRw.out
        have hB := HB.out
        have hL := HL.out
        refine retDmp Tryz.results19 rfl rfl (dT_heap HER.out (.slice (some ⟨gw, 0, none⟩) (64 * n) cw) (.slice (some ⟨gp, 0, none⟩) n cp) (.slice ob mb cb) (.int .i64 (nxr (r.F 0) (64 * n) 0)) (.int .i64 (nxr (r.F 1) (64 * n) 0)) (.int .i64 (nxr (r.F 2) (64 * n) 0)) (.int .i64 (nxr (r.F 3) (64 * n) 0)) (.int .i64 (nxr (r.F 4) (64 * n) 0)) (.int .i64 (nxr (r.F 5) (64 * n) 0)) (.int .i64 (nxr (r.F 6) (64 * n) 0)) (.int .i64 (nxr (r.F 7) (64 * n) 0)) (.int .i64 r.last)) ?_
        have oW : Out 0 0 W0 wr := hL.2.2.2.2.2.past HR2.out (by omega)
        have oR : Out 0 0 w (dT wr R (.slice (some ⟨gw, 0, none⟩) (64 * n) cw) (.slice (some ⟨gp, 0, none⟩) n cp) (.slice ob mb cb) (.int .i64 (nxr (r.F 0) (64 * n) 0)) (.int .i64 (nxr (r.F 1) (64 * n) 0)) (.int .i64 (nxr (r.F 2) (64 * n) 0)) (.int .i64 (nxr (r.F 3) (64 * n) 0)) (.int .i64 (nxr (r.F 4) (64 * n) 0)) (.int .i64 (nxr (r.F 5) (64 * n) 0)) (.int .i64 (nxr (r.F 6) (64 * n) 0)) (.int .i64 (nxr (r.F 7) (64 * n) 0)) (.int .i64 r.last)) := (HO0.out.trans oW).past oF (by omega)
        refine ⟨gw, cw, gp, cp, _, rfl, ⟨?_, ?_, ?_, hL.1.2.2.2⟩, oR⟩
        · exact ownw (own_same hL.1.1 fun g o hg hbs hh => oF.heap (HR2.out.heap hh (by have e : gw = g := by simpa [Value.ownBlock] using hg
                                                                                        omega)) (by omega)) (by omega)
        · exact ownw (own_same hL.1.2.1 fun g o hg hbs hh => oF.heap (HR2.out.heap hh (by have e : gp = g := by simpa [Value.ownBlock] using hg
                                                                                          omega)) (by omega)) (by omega)
        · exact ownw (own_same hL.1.2.2.1 fun g o hg hbs hh => oF.heap (HR2.out.heap hh (by have e := hL.2.2.2.2.1 g hg; omega)) (by omega)) (by omega)
end
end Go.Proofs.YtcpignkjlnjjmaaGreatDoor
