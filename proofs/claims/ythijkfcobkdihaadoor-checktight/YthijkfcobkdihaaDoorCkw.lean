/- the law: sameInts, alive -/
import Derived.Test.YthijkfcobkdihaaDoorCku
namespace Go.Proofs.YthijkfcobkdihaaDoor
open Go.RowKit
set_option linter.unusedVariables false
set_option linter.unusedSimpArgs false

/-- numbers that lie somewhere -/
def IvIn (w : World) (a : Option Addr) (l : List Int) : Prop := l = [] ∨ ∃ q off, a = some ⟨q, off, none⟩ ∧ ∀ (j : Nat) x, l[j]? = some x → w.cell? ⟨q, off + j, none⟩ = some (.int .i64 x)
theorem IvIn.of_bl {w : World} {g : Nat} {D : List Int} (h : Bl w g (ivs D).toArray 3) : IvIn w (some ⟨g, 0, none⟩) D := .inr ⟨g, 0, rfl, fun j x hj => by rw [Nat.zero_add]; exact iv_cell h hj⟩
theorem IvIn.of_own {w : World} {base K cap : Nat} {ta : Option Addr} {F : List Int} (h : w.ownsRow base 3 1 (.slice ta K cap) K (ivs F)) : IvIn w ta F := by
  obtain ⟨h1, _, _, h4⟩ := own_cells h
  rcases h4 with h4 | ⟨q, h5, h6⟩
  · exact .inl (List.eq_nil_of_length_eq_zero (by omega))
  · exact .inr ⟨q, 0, h5, h6⟩
theorem IvIn.kept {w w' : World} {a : Option Addr} {l : List Int} (h : IvIn w a l) (o : Out 0 0 w w') : IvIn w' a l := by
  rcases h with h | ⟨q, off, h1, h2⟩
  · exact .inl h
  · exact .inr ⟨q, off, h1, fun j x hj => o.cell (h2 j x hj) (.inr (Nat.zero_le _))⟩
theorem ms_z {k n : Nat} (h : k < n) : n - (intOf (.int .i64 ((k : Int) + 1))).toNat < n - (intOf (.int .i64 (k : Int))).toNat := by simp [intOf]; omega
theorem eq_take {a b : List Int} {k : Nat} {x : Int} (h : a.take k = b.take k) (h1 : a[k]? = some x) (h2 : b[k]? = some x) : a.take (k + 1) = b.take (k + 1) := by
  rw [List.take_add_one, List.take_add_one, h, h1, h2]
set_option maxRecDepth 100000 in
theorem same_any {w : World} (a b : List Int) (pa pb : Option Addr) (n m ca cb : Nat) (ha : a.length = n) (hb : b.length = m) (h1 : IvIn w pa a) (h2 : IvIn w pb b) (hn : n ≤ 300000) :
    Calls Tryd.prog 30 #[.slice pa n ca, .slice pb m cb] w fun e w' => e = .returned (.bool (decide (a = b))) ∧ Out 0 0 w w' := by
  by_cases hnm : n = m
  · subst hnm
    have e1 : ((n : Int) != (n : Int)) = false := by simp
    have H1 := hid_mk (And.intro h1 (And.intro h2 (And.intro ha hb)))
    have HN : Hid (n ≤ 1000000) := hid_mk (by omega)
    clear h1 h2 ha hb hn
    go_enter Tryd.func30, Tryd.ntmps30
    go_wp2
    go_loopw [5] (fun c wr => ∃ k : Nat, c = .int .i64 k ∧ k ≤ n ∧ a.take k = b.take k ∧ Out 0 0 w wr) (fun c _ => n - (intOf c).toNat)
    case atStart => exact ⟨0, rfl, Nat.zero_le _, rfl, Out.refl _ _ _⟩
    case round =>
      obtain ⟨k, rfl, hk, ht, ho⟩ := hrel
      by_cases hgo : k < n
      · obtain ⟨l1, l2⟩ := lt_dec hgo
        obtain ⟨h1, h2, ha, hb⟩ := H1.out
        obtain ⟨x, hx⟩ : ∃ x, a[k]? = some x := ⟨_, List.getElem?_eq_getElem (by omega)⟩
        obtain ⟨y, hy⟩ : ∃ y, b[k]? = some y := ⟨_, List.getElem?_eq_getElem (by omega)⟩
        obtain ⟨q1, f1, rfl, c1⟩ : ∃ q off, pa = some ⟨q, off, none⟩ ∧ ∀ (j : Nat) x, a[j]? = some x → w.cell? ⟨q, off + j, none⟩ = some (.int .i64 x) := by
          rcases h1 with c | c
          · rw [c] at hx; simp at hx
          · exact c
        obtain ⟨q2, f2, rfl, c2⟩ : ∃ q off, pb = some ⟨q, off, none⟩ ∧ ∀ (j : Nat) x, b[j]? = some x → w.cell? ⟨q, off + j, none⟩ = some (.int .i64 x) := by
          rcases h2 with c | c
          · rw [c] at hy; simp at hy
          · exact c
        have d1 := ho.cell (c1 k x hx) (.inr (Nat.zero_le _))
        have d2 := ho.cell (c2 k y hy) (.inr (Nat.zero_le _))
        have hki : (k : Int) < (n : Int) := by omega
        have HT := hid_mk (And.intro ht (And.intro hx (And.intro hy hgo)))
        have HO := hid_mk ho
        clear h1 h2 ha hb c1 c2 hx hy ht ho hk hgo
        by_cases hxy : x = y
        · subst hxy
          have hne : (x != x) = false := by simp
          go_wp2
          go_region
          go_wp2
          exact ⟨⟨k + 1, up_v HT.out.2.2.2 HN.out, HT.out.2.2.2, eq_take HT.out.1 HT.out.2.1 HT.out.2.2.1, HO.out.drew⟩, by rw [up_w HT.out.2.2.2 HN.out]; exact ms_n HT.out.2.2.2⟩
        · have hne : (x != y) = true := by simpa using hxy
          have HE : Hid (decide (a = b) = false) := hid_mk (by
            simp only [decide_eq_false_iff_not]
            rintro rfl
            rw [HT.out.2.1] at *
            exact hxy (Option.some.inj HT.out.2.2.1))
          clear hxy
          go_wp2
          go_region
          go_wp2
          go_ret
          exact ⟨by rw [HE.out]; rfl, HO.out.drew⟩
      · obtain rfl : k = n := by omega
        have l1 : decide ((k : Int) < (k : Int)) = false := by simp
        have HE : Hid (decide (a = b) = true) := hid_mk (by
          have := H1.out.2.2
          rw [List.take_of_length_le (by omega), List.take_of_length_le (by omega)] at ht
          simpa using ht)
        have HO := hid_mk ho
        clear hgo hk ht ho
        go_wp2
        go_ret
        exact ⟨by rw [HE.out]; rfl, HO.out⟩
  · have e1 : ((n : Int) != (m : Int)) = true := by simp; omega
    have e2 : (n != m) = true := by simpa using hnm
    have HE : Hid (decide (a = b) = false) := hid_mk (by
      simp only [decide_eq_false_iff_not]
      rintro rfl
      omega)
    clear hnm
    go_enter Tryd.func30, Tryd.ntmps30
    go_wp2
    go_ret
    exact ⟨by rw [HE.out]; rfl, Out.refl _ _ _⟩
def alF : List (Int × Int × Int × List (Int × Int)) := [(0, 1, 0, [(1, 5), (19, 0)])]
theorem al_ok : okP (0, [], alF) := by
  refine ⟨by simp, by simp, (by intro t ht; cases ht), by simp [alF], ?_⟩
  intro f hf
  simp [alF] at hf
  subst hf
  refine ⟨by simp, by simp, by simp, by simp, ?_⟩
  intro z hz
  simp at hz
  rcases hz with rfl | rfl <;> (unfold okI opS; simp)
theorem al_wr : wrE (0, [], alF) = 0 := (wr_ok al_ok (by simp [encP, alF, encF, encI, opB, opS, numB_lt, zig])).1
theorem al_ck : ckV (0, [], alF) = .inr ([2], [[0, 1]]) := by
  unfold ckV
  rw [if_pos al_wr]
  decide +kernel
theorem al_mi : ∀ f ∈ alF, MI f.2.2.2 := by
  intro f hf
  simp [alF] at hf
  subst hf
  intro z hz
  simp at hz
  rcases hz with rfl | rfl <;> simp
theorem fn_new {w : World} {g1 g2 : Nat} {P L C : Int} {cd : List (Int × Int)} {n : Nat} (hc : InIn w w.heap.size (some ⟨g1, 0, none⟩) cd) (hn : cd.length = n) (h2 : Bl w g2 #[.int .i64 P, .int .i64 L, .int .i64 C, .slice (some ⟨g1, 0, none⟩) n n] 31) : FnIn w w.heap.size (some ⟨g2, 0, none⟩) [(P, L, C, cd)] := by
  refine .inr ⟨g2, 0, rfl, h2.lt, fun j f hj => ?_⟩
  cases j with
  | zero =>
    simp at hj
    subst hj
    exact ⟨some ⟨g1, 0, none⟩, n, h2.cell (i := 0) rfl, h2.cell (i := 1) rfl, h2.cell (i := 2) rfl, by rw [hn]; exact h2.cell (i := 3) rfl, hc⟩
  | succ j => simp at hj
/-- instructions as cells -/
def ics : List (Int × Int) → List Value
  | [] => []
  | x :: l => .int .i64 x.1 :: .int .i64 x.2 :: ics l
theorem ics_at : ∀ {l : List (Int × Int)} {j : Nat} {x : Int × Int}, l[j]? = some x → (ics l)[j * 2]? = some (.int .i64 x.1) ∧ (ics l)[j * 2 + 1]? = some (.int .i64 x.2)
  | [], j, x, h => by simp at h
  | y :: l, 0, x, h => by
    simp at h
    subst h
    exact ⟨rfl, rfl⟩
  | y :: l, j + 1, x, h => by
    have := ics_at (l := l) (j := j) (x := x) (by simpa using h)
    rw [show (j + 1) * 2 = j * 2 + 1 + 1 by omega]
    exact this
theorem in_new {w : World} {g : Nat} {cd : List (Int × Int)} (h : Bl w g (ics cd).toArray 28) : InIn w w.heap.size (some ⟨g, 0, none⟩) cd := .inr ⟨g, 0, rfl, h.lt, fun j x hj => by
  obtain ⟨h1, h2⟩ := ics_at hj
  rw [Nat.zero_add]
  exact ⟨h.cell (by rw [List.getElem?_toArray]; exact h1), h.cell (by rw [List.getElem?_toArray]; exact h2)⟩⟩
theorem ck_one {w' : World} {lo : Nat} {sv dv : Value} {s : Int} {D : List Int} {dgs : List Nat} (h : CkAt w' lo sv dv [s] [D] dgs) : ∃ q c dq d dg, sv = .slice (some ⟨q, 0, none⟩) 1 c ∧ w'.cell? ⟨q, 0, none⟩ = some (.int .i64 s) ∧ dv = .slice (some ⟨dq, 0, none⟩) 1 d ∧ w'.cell? ⟨dq, 0, none⟩ = some (.slice (some ⟨dg, 0, none⟩) D.length D.length) ∧ Bl w' dg (ivs D).toArray 3 := by
  obtain ⟨h1, h2, h3, h4, _⟩ := h
  match dgs, h3 with
  | [dg], _ =>
    obtain ⟨_, hb⟩ := h4 0 dg D rfl rfl
    rcases h1.2 with ⟨_, q⟩ | ⟨q, c, cur, rfl, _, q2, _, _, _, q6⟩
    · cases q
    rcases h2.2 with ⟨_, q⟩ | ⟨dq, d, dcur, rfl, _, p2, _, _, _, p6⟩
    · cases q
    have B1 : Bl w' q cur 3 := q2
    have B2 : Bl w' dq dcur 50 := p2
    refine ⟨q, c, dq, d, dg, rfl, B1.cell ?_, rfl, B2.cell ?_, hb⟩
    · have : (cur.toList.take 1)[0]? = some (.int .i64 s) := by rw [show cur.toList.take 1 = _ from q6]; rfl
      rw [List.getElem?_take_of_lt (by omega)] at this
      simpa using this
    · have : (dcur.toList.take 1)[0]? = some (.slice (some ⟨dg, 0, none⟩) D.length D.length) := by rw [show dcur.toList.take 1 = _ from p6]; rfl
      rw [List.getElem?_take_of_lt (by omega)] at this
      simpa using this
set_option maxRecDepth 100000 in
set_option maxHeartbeats 2000000 in
theorem alive_any {w : World} (hT : Ty w) : Calls Tryd.prog 15 #[] w fun e w' => e = .returned (.bool true) ∧ Out 0 0 w w' := by
  obtain ⟨g1, hg1⟩ : ∃ g1, w.heap.size = g1 := ⟨_, rfl⟩
  obtain ⟨V, hV⟩ : ∃ V, (w.alloc (.cells #[.int .i64 1, .int .i64 5, .int .i64 19, .int .i64 0] 28)).alloc (.cells #[.int .i64 0, .int .i64 1, .int .i64 0, .slice (some ⟨g1, 0, none⟩) 2 2] 31) = V := ⟨_, rfl⟩
  have oV : Out 0 0 w V := by rw [← hV]; exact ((Out.refl 0 0 w).alloc _).alloc _
  have B1 : Bl V g1 (ics [(1, 5), (19, 0)]).toArray 28 := by rw [← hV, ← hg1]; exact (Bl.new _ _ _).alloc _
  have B2 : Bl V (g1 + 1) #[.int .i64 0, .int .i64 1, .int .i64 0, .slice (some ⟨g1, 0, none⟩) 2 2] 31 := by
    rw [← hV]
    have := Bl.new (w.alloc (.cells #[.int .i64 1, .int .i64 5, .int .i64 19, .int .i64 0] 28)) #[.int .i64 0, .int .i64 1, .int .i64 0, .slice (some ⟨g1, 0, none⟩) 2 2] 31
    rwa [size_alloc, hg1] at this
  have HCk := hid_mk (check_any (hT.out oV (.inr rfl)) (Nat.le_refl _) 0 [] alF none (some ⟨g1 + 1, 0, none⟩) 0 0 1 1 rfl rfl (.inl rfl) (fn_new (in_new B1) rfl B2) al_mi)
  rw [al_ck] at HCk
  have HO := hid_mk oV
  clear hT oV B1 B2
  go_enter Tryd.func15, Tryd.ntmps15
  go_wp2_with fail
  (try rw [hV])
  (try rw [hg1])
  refine HCk.out.mono ?_
  clear hV hg1
  rintro e w1 ⟨o1, ⟨S, Ds, sv, dv, dgs, z1, rfl, z2⟩ | ⟨er, f, i, z1, rfl⟩⟩
  · cases z1
    obtain ⟨q, c, dq, d, dg, rfl, c1, rfl, c2, hb⟩ := ck_one z2
    simp only [List.length_cons, List.length_nil] at c2
    have hlt1 := cell_lt c1
    have hlt2 := cell_lt c2
    have HI := hid_mk (IvIn.of_bl hb)
    have HO1 := hid_mk (HO.out.trans o1)
    clear z2 o1 hb HCk HO
    have HJ : Hid (IvIn ((w1.alloc (.cells #[.slice (some ⟨q, 0, none⟩) 1 c, .slice (some ⟨dq, 0, none⟩) 1 d] 53)).alloc (.cells #[.int .i64 0, .int .i64 1] 3)) (some ⟨w1.heap.size + 1, 0, none⟩) [0, 1]) := hid_mk (by
      have := Bl.new (w1.alloc (.cells #[.slice (some ⟨q, 0, none⟩) 1 c, .slice (some ⟨dq, 0, none⟩) 1 d] 53)) (ivs [0, 1]).toArray 3
      rw [size_alloc] at this
      exact IvIn.of_bl this)
    go_wp2_with (go_at_call 30; refine (same_any [0, 1] [0, 1] _ _ 2 2 _ _ rfl rfl (HI.out.kept (((Out.refl 0 0 w1).alloc _).alloc _)) HJ.out (by omega)).mono ?_; rintro e w2 ⟨rfl, o2⟩; replace HO1 := hid_mk ((HO1.out.trans (((Out.refl 0 0 w1).alloc _).alloc _)).trans o2); clear o2)
    go_ret
    exact ⟨rfl, HO1.out⟩
  · cases z1
end Go.Proofs.YthijkfcobkdihaaDoor
