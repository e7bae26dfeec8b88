import Derived.Test.YtkghabmgofgclaaDoorQap
namespace Go.Proofs.YtkghabmgofgclaaDoor
open Go.RowKit
set_option linter.unusedVariables false
set_option linter.unusedSimpArgs false

/-- a number brought to 0 .. n - 1 -/
def wiV (x : Int) (n : Nat) : Nat := if x < 0 then ((-(x + 1)) % (n : Int)).toNat else (x % (n : Int)).toNat
theorem wi_lt {x : Int} {n : Nat} (h : 0 < n) : wiV x n < n := by
  unfold wiV
  split
  · have := Int.emod_lt_of_pos (-(x + 1)) (show (0 : Int) < n by omega)
    have := Int.emod_nonneg (-(x + 1)) (show (n : Int) ≠ 0 by omega)
    omega
  · have := Int.emod_lt_of_pos x (show (0 : Int) < n by omega)
    have := Int.emod_nonneg x (show (n : Int) ≠ 0 by omega)
    omega
theorem sum_wrap {a b : Int} (h0 : 0 ≤ a) (h1 : a ≤ 2305843009213693952) (h2 : 0 ≤ b) (h3 : b ≤ 2305843009213693952) : wrap64 (a + b) = a + b := by unfold wrap64; omega
/-- no list is longer than the machine's -/
def Lim (n : Nat) : Prop := (n : Int) ≤ 2305843009213693952
/-- what fits answers -/
def FtQ (w : World) (nt nf : Nat) (fs : List (Int × Int × Int × List (Int × Int))) (e : Ending) (w' : World) : Prop := (∃ b, e = .returned (.bool b) ∧ (b = true → (nt : Int) + (nf : Int) ≤ 300000 ∧ ∀ f ∈ fs, (f.2.2.2.length : Int) ≤ 300000)) ∧ Out 0 0 w w'
theorem FtQ.mk' {w w' : World} {nt nf : Nat} {fs : List (Int × Int × Int × List (Int × Int))} {b : Bool} (h : b = true → (nt : Int) + (nf : Int) ≤ 300000 ∧ ∀ f ∈ fs, (f.2.2.2.length : Int) ≤ 300000) (o : Out 0 0 w w') : FtQ w nt nf fs (.returned (.bool b)) w' := ⟨⟨b, rfl, h⟩, o⟩
theorem le_up {fs : List (Int × Int × Int × List (Int × Int))} {j : Nat} {f : Int × Int × Int × List (Int × Int)} {N : Int} {l : Nat} (hf : fs[j]? = some f) (hl : f.2.2.2.length = l) (h : ∀ e ∈ fs.take j, (e.2.2.2.length : Int) ≤ N) (h0 : 0 ≤ N) : ∀ e ∈ fs.take (j + 1), (e.2.2.2.length : Int) ≤ N + l := by
  intro e he
  rw [List.take_add_one, hf] at he
  rcases List.mem_append.1 he with q | q
  · have := h e q; omega
  · simp at q; subst q; omega
set_option maxRecDepth 100000 in
set_option maxHeartbeats 2000000 in
theorem fits_any {w : World} {B : Nat} (x : Int) (ts : List (List Int)) (fs : List (Int × Int × Int × List (Int × Int))) (ta fa : Option Addr) (nt nf tc fc : Nat) (hnt : ts.length = nt) (hnf : fs.length = nf) (hts : TxIn w B ta ts) (hfs : FnIn w B fa fs) (h1 : Lim nt) (h2 : Lim nf) (h3 : ∀ t ∈ ts, Lim t.length) (h4 : ∀ f ∈ fs, Lim f.2.2.2.length) :
    Calls Tryd.prog 13 #[.agg #[.int .i64 x, .slice ta nt tc, .slice fa nf fc]] w fun e w' => FtQ w nt nf fs e w' := by
  have HA := hid_mk (Bl.new w #[.int .i64 x, .slice ta nt tc, .slice fa nf fc] 25)
  have HO := hid_mk ((Out.refl 0 0 w).alloc (.cells #[.int .i64 x, .slice ta nt tc, .slice fa nf fc] 25))
  obtain ⟨V, hV⟩ : ∃ V, w.alloc (.cells #[.int .i64 x, .slice ta nt tc, .slice fa nf fc] 25) = V := ⟨_, rfl⟩
  rw [hV] at HA HO
  have HT := hid_mk (hts.kept (Lo.of_out HO.out) (Nat.le_refl _))
  have HF := hid_mk (hfs.kept (Lo.of_out HO.out) (Nat.le_refl _))
  have HN := hid_mk (And.intro hnt hnf)
  have HL3 := hid_mk h3
  have HL4 := hid_mk h4
  have hws := sum_wrap (a := (nt : Int)) (b := (nf : Int)) (by omega) h1 (by omega) h2
  have HL : Hid (Lim nt ∧ Lim nf) := hid_mk ⟨h1, h2⟩
  obtain ⟨p, hp⟩ : ∃ p, w.heap.size = p := ⟨_, rfl⟩
  rw [hp] at HA
  have a1 := HA.out.cell (i := 1) rfl
  have a2 := HA.out.cell (i := 2) rfl
  clear hts hfs hnt hnf h1 h2 h3 h4
  go_enter Tryd.func13, Tryd.ntmps13
  go_wp2_with fail
  (try rw [hV])
  (try rw [hp])
  have HWS := hid_mk hws
  have HWS := hid_mk hws
  clear hV hp hws
  go_loopw [3, 4] (fun nv iv wr => ∃ (i : Nat) (N : Int), iv = .int .i64 i ∧ i ≤ nt ∧ nv = .int .i64 N ∧ (nt : Int) + (nf : Int) ≤ N ∧ N ≤ 4611686018427387904 ∧ wr = V) (fun _ iv _ => nt - (intOf iv).toNat)
  case atStart => exact ⟨0, _, rfl, Nat.zero_le _, rfl, by rw [HWS.out]; exact Int.le_refl _, by rw [HWS.out]; have := HL.out; unfold Lim at this; omega, rfl⟩
  case round =>
    obtain ⟨i, N, rfl, him, rfl, hN1, hN2, hwr⟩ := hrel
    subst hwr
    have HN1 := hid_mk hN1
    have HN2 := hid_mk hN2
    clear hN1 hN2 HWS
    by_cases hi : i < nt
    · have g1 : (i : Int) < (nt : Int) := by omega
      by_cases hN : N ≤ 300000
      · have hNd : decide (N ≤ 300000) = true := by simpa using hN
        obtain ⟨t, ht⟩ : ∃ t, ts[i]? = some t := ⟨_, List.getElem?_eq_getElem (by have := HN.out.1; omega)⟩
        rcases HT.out with h0 | ⟨g, off, rfl, hg, hc⟩
        · rw [h0] at ht; cases ht
        obtain ⟨pj, cj, c0, hby⟩ := hc i _ ht
        obtain ⟨lt, hlt⟩ : ∃ k, t.length = k := ⟨_, rfl⟩
        rw [hlt] at c0
        have hlim : Hid ((lt : Int) ≤ 2305843009213693952) := hid_mk (by have := HL3.out _ (List.mem_of_getElem? ht); unfold Lim at this; rw [hlt] at this; exact this)
        have HW := hid_mk (sum_wrap (a := N) (b := (lt : Int)) (by have := HN1.out; omega) (by omega) (by omega) hlim.out)
        have HNl := hid_mk hN
        have nb : (nt : Int) ≤ 300000 := by have := HN1.out; omega
        clear ht hc hby hlt hg hN
        go_wp2
        go_roundw
        case rel => exact ⟨i + 1, N + lt, by go_num, by omega, by rw [HW.out], by have := HN1.out; omega, by have := hlim.out; have := HNl.out; omega, trivial⟩
        case measure => simp [intOf]; omega
      · have hNd : decide (N ≤ 300000) = false := by simpa using hN
        clear hN
        go_wp2
        go_loopw [3, 5] (fun nv jv wz => ∃ (j : Nat) (M : Int), jv = .int .i64 j ∧ j ≤ nf ∧ nv = .int .i64 M ∧ (nt : Int) + (nf : Int) ≤ M ∧ M ≤ 4611686018427387904 ∧ (∀ e ∈ fs.take j, (e.2.2.2.length : Int) ≤ M) ∧ wz = wr) (fun _ jv _ => nf - (intOf jv).toNat)
        case atStart => exact ⟨0, N, rfl, Nat.zero_le _, rfl, HN1.out, HN2.out, by simp, rfl⟩
        case round =>
          obtain ⟨j, M, rfl, hjm, rfl, hM1, hM2, hM3, hwr⟩ := hrel
          subst hwr
          have HM1 := hid_mk hM1
          have HM2 := hid_mk hM2
          have HM3 := hid_mk hM3
          clear hM1 hM2 hM3
          by_cases hj : j < nf
          · have g2 : (j : Int) < (nf : Int) := by omega
            by_cases hM : M ≤ 300000
            · have hMd : decide (M ≤ 300000) = true := by simpa using hM
              obtain ⟨⟨f1, f2, f3, fl⟩, hf⟩ : ∃ t, fs[j]? = some t := ⟨_, List.getElem?_eq_getElem (by have := HN.out.2; omega)⟩
              rcases HF.out with h0 | ⟨g, off, rfl, hg, hc⟩
              · rw [h0] at hf; cases hf
              obtain ⟨pj, cj, c0, c1, c2, c3, hin⟩ := hc j _ hf
              dsimp only at c3
              obtain ⟨lf, hlf⟩ : ∃ k, fl.length = k := ⟨_, rfl⟩
              rw [hlf] at c3
              have hlim : Hid ((lf : Int) ≤ 2305843009213693952) := hid_mk (by have := HL4.out _ (List.mem_of_getElem? hf); unfold Lim at this; dsimp only at this; rw [hlf] at this; exact this)
              have HW := hid_mk (sum_wrap (a := M) (b := (lf : Int)) (by have := HM1.out; omega) (by omega) (by omega) hlim.out)
              have HU := hid_mk (le_up hf hlf HM3.out (by have := HM1.out; omega))
              have HMl := hid_mk hM
              have nb : (nf : Int) ≤ 300000 := by have := HM1.out; omega
              clear hf hc c0 c1 c2 hin hlf hg hM
              go_wp2
              go_roundw
              case rel => exact ⟨j + 1, M + lf, by go_num, by omega, by rw [HW.out], by have := HM1.out; omega, by have := hlim.out; have := HMl.out; omega, HU.out, trivial⟩
              case measure => simp [intOf]; omega
            · have hMd : decide (M ≤ 300000) = false := by simpa using hM
              have HM0 := hid_mk hM
              clear hM
              go_wp2
              go_ret
              exact FtQ.mk' (fun q => by cases q) HO.out
          · have hjE : j = nf := by omega
            subst hjE
            have g2 : ¬ ((j : Int) < (j : Int)) := by omega
            go_wp2
            go_ret
            refine FtQ.mk' (fun q => ?_) HO.out
            have q' : M ≤ 300000 := by simpa using q
            refine ⟨Int.le_trans HM1.out q', fun f hf => Int.le_trans (HM3.out f ?_) q'⟩
            rw [take_all HN.out.2]; exact hf
    · have hiE : i = nt := by omega
      subst hiE
      have g1 : ¬ ((i : Int) < (i : Int)) := by omega
      go_wp2
      go_loopw [3, 5] (fun nv jv wz => ∃ (j : Nat) (M : Int), jv = .int .i64 j ∧ j ≤ nf ∧ nv = .int .i64 M ∧ (i : Int) + (nf : Int) ≤ M ∧ M ≤ 4611686018427387904 ∧ (∀ e ∈ fs.take j, (e.2.2.2.length : Int) ≤ M) ∧ wz = wr) (fun _ jv _ => nf - (intOf jv).toNat)
      case atStart => exact ⟨0, N, rfl, Nat.zero_le _, rfl, HN1.out, HN2.out, by simp, rfl⟩
      case round =>
        obtain ⟨j, M, rfl, hjm, rfl, hM1, hM2, hM3, hwr⟩ := hrel
        subst hwr
        have HM1 := hid_mk hM1
        have HM2 := hid_mk hM2
        have HM3 := hid_mk hM3
        clear hM1 hM2 hM3
        by_cases hj : j < nf
        · have g2 : (j : Int) < (nf : Int) := by omega
          by_cases hM : M ≤ 300000
          · have hMd : decide (M ≤ 300000) = true := by simpa using hM
            obtain ⟨⟨f1, f2, f3, fl⟩, hf⟩ : ∃ t, fs[j]? = some t := ⟨_, List.getElem?_eq_getElem (by have := HN.out.2; omega)⟩
            rcases HF.out with h0 | ⟨g, off, rfl, hg, hc⟩
            · rw [h0] at hf; cases hf
            obtain ⟨pj, cj, c0, c1, c2, c3, hin⟩ := hc j _ hf
            dsimp only at c3
            obtain ⟨lf, hlf⟩ : ∃ k, fl.length = k := ⟨_, rfl⟩
            rw [hlf] at c3
            have hlim : Hid ((lf : Int) ≤ 2305843009213693952) := hid_mk (by have := HL4.out _ (List.mem_of_getElem? hf); unfold Lim at this; dsimp only at this; rw [hlf] at this; exact this)
            have HW := hid_mk (sum_wrap (a := M) (b := (lf : Int)) (by have := HM1.out; omega) (by omega) (by omega) hlim.out)
            have HU := hid_mk (le_up hf hlf HM3.out (by have := HM1.out; omega))
            have HMl := hid_mk hM
            have nb : (nf : Int) ≤ 300000 := by have := HM1.out; omega
            clear hf hc c0 c1 c2 hin hlf hg hM
            go_wp2
            go_roundw
            case rel => exact ⟨j + 1, M + lf, by go_num, by omega, by rw [HW.out], by have := HM1.out; omega, by have := hlim.out; have := HMl.out; omega, HU.out, trivial⟩
            case measure => simp [intOf]; omega
          · have hMd : decide (M ≤ 300000) = false := by simpa using hM
            have HM0 := hid_mk hM
            clear hM
            go_wp2
            go_ret
            exact FtQ.mk' (fun q => by cases q) HO.out
        · have hjE : j = nf := by omega
          subst hjE
          have g2 : ¬ ((j : Int) < (j : Int)) := by omega
          go_wp2
          go_ret
          refine FtQ.mk' (fun q => ?_) HO.out
          have q' : M ≤ 300000 := by simpa using q
          refine ⟨Int.le_trans HM1.out q', fun f hf => Int.le_trans (HM3.out f ?_) q'⟩
          rw [take_all HN.out.2]; exact hf
end Go.Proofs.YtkghabmgofgclaaDoor
namespace Go.Proofs.YtkghabmgofgclaaDoor
open Go.RowKit
set_option linter.unusedVariables false
set_option linter.unusedSimpArgs false

/-- numbers that lie somewhere -/
def IvIn (w : World) (a : Option Addr) (l : List Int) : Prop := l = [] ∨ ∃ q off, a = some ⟨q, off, none⟩ ∧ ∀ (j : Nat) x, l[j]? = some x → w.cell? ⟨q, off + j, none⟩ = some (.int .i64 x)
theorem IvIn.of_bl {w : World} {g : Nat} {D : List Int} (h : Bl w g (ivs D).toArray 3) : IvIn w (some ⟨g, 0, none⟩) D := .inr ⟨g, 0, rfl, fun j x hj => by rw [Nat.zero_add]; exact iv_cell h hj⟩
theorem IvIn.of_own {w : World} {base K cap : Nat} {ta : Option Addr} {F : List Int} (h : w.ownsRow base 3 1 (.slice ta K cap) K (ivs F)) : IvIn w ta F := by
  obtain ⟨h1, _, _, h4⟩ := own_cells h
  rcases h4 with h4 | ⟨q, h5, h6⟩
  · exact .inl (List.eq_nil_of_length_eq_zero (by omega))
  · exact .inr ⟨q, 0, h5, h6⟩
theorem IvIn.kept {w w' : World} {a : Option Addr} {l : List Int} (h : IvIn w a l) (o : Out 0 0 w w') : IvIn w' a l := by
  rcases h with h | ⟨q, off, h1, h2⟩
  · exact .inl h
  · exact .inr ⟨q, off, h1, fun j x hj => o.cell (h2 j x hj) (.inr (Nat.zero_le _))⟩
theorem ms_z {k n : Nat} (h : k < n) : n - (intOf (.int .i64 ((k : Int) + 1))).toNat < n - (intOf (.int .i64 (k : Int))).toNat := by simp [intOf]; omega
theorem eq_take {a b : List Int} {k : Nat} {x : Int} (h : a.take k = b.take k) (h1 : a[k]? = some x) (h2 : b[k]? = some x) : a.take (k + 1) = b.take (k + 1) := by
  rw [List.take_add_one, List.take_add_one, h, h1, h2]
set_option maxRecDepth 100000 in
theorem same_any {w : World} (a b : List Int) (pa pb : Option Addr) (n m ca cb : Nat) (ha : a.length = n) (hb : b.length = m) (h1 : IvIn w pa a) (h2 : IvIn w pb b) (hn : n ≤ 300000) :
    Calls Tryd.prog 31 #[.slice pa n ca, .slice pb m cb] w fun e w' => e = .returned (.bool (decide (a = b))) ∧ Out 0 0 w w' := by
  by_cases hnm : n = m
  · subst hnm
    have e1 : ((n : Int) != (n : Int)) = false := by simp
    have H1 := hid_mk (And.intro h1 (And.intro h2 (And.intro ha hb)))
    have HN : Hid (n ≤ 1000000) := hid_mk (by omega)
    clear h1 h2 ha hb hn
    go_enter Tryd.func31, Tryd.ntmps31
    go_wp2
    go_loopw [5] (fun c wr => ∃ k : Nat, c = .int .i64 k ∧ k ≤ n ∧ a.take k = b.take k ∧ Out 0 0 w wr) (fun c _ => n - (intOf c).toNat)
    case atStart => exact ⟨0, rfl, Nat.zero_le _, rfl, Out.refl _ _ _⟩
    case round =>
      obtain ⟨k, rfl, hk, ht, ho⟩ := hrel
      by_cases hgo : k < n
      · obtain ⟨l1, l2⟩ := lt_dec hgo
        obtain ⟨h1, h2, ha, hb⟩ := H1.out
        obtain ⟨x, hx⟩ : ∃ x, a[k]? = some x := ⟨_, List.getElem?_eq_getElem (by omega)⟩
        obtain ⟨y, hy⟩ : ∃ y, b[k]? = some y := ⟨_, List.getElem?_eq_getElem (by omega)⟩
        obtain ⟨q1, f1, rfl, c1⟩ : ∃ q off, pa = some ⟨q, off, none⟩ ∧ ∀ (j : Nat) x, a[j]? = some x → w.cell? ⟨q, off + j, none⟩ = some (.int .i64 x) := by
          rcases h1 with c | c
          · rw [c] at hx; simp at hx
          · exact c
        obtain ⟨q2, f2, rfl, c2⟩ : ∃ q off, pb = some ⟨q, off, none⟩ ∧ ∀ (j : Nat) x, b[j]? = some x → w.cell? ⟨q, off + j, none⟩ = some (.int .i64 x) := by
          rcases h2 with c | c
          · rw [c] at hy; simp at hy
          · exact c
        have d1 := ho.cell (c1 k x hx) (.inr (Nat.zero_le _))
        have d2 := ho.cell (c2 k y hy) (.inr (Nat.zero_le _))
        have hki : (k : Int) < (n : Int) := by omega
        have HT := hid_mk (And.intro ht (And.intro hx (And.intro hy hgo)))
        have HO := hid_mk ho
        clear h1 h2 ha hb c1 c2 hx hy ht ho hk hgo
        by_cases hxy : x = y
        · subst hxy
          have hne : (x != x) = false := by simp
          go_wp2
          go_region
          go_wp2
          exact ⟨⟨k + 1, up_v HT.out.2.2.2 HN.out, HT.out.2.2.2, eq_take HT.out.1 HT.out.2.1 HT.out.2.2.1, HO.out.drew⟩, by rw [up_w HT.out.2.2.2 HN.out]; exact ms_n HT.out.2.2.2⟩
        · have hne : (x != y) = true := by simpa using hxy
          have HE : Hid (decide (a = b) = false) := hid_mk (by
            simp only [decide_eq_false_iff_not]
            rintro rfl
            rw [HT.out.2.1] at *
            exact hxy (Option.some.inj HT.out.2.2.1))
          clear hxy
          go_wp2
          go_region
          go_wp2
          go_ret
          exact ⟨by rw [HE.out]; rfl, HO.out.drew⟩
      · obtain rfl : k = n := by omega
        have l1 : decide ((k : Int) < (k : Int)) = false := by simp
        have HE : Hid (decide (a = b) = true) := hid_mk (by
          have := H1.out.2.2
          rw [List.take_of_length_le (by omega), List.take_of_length_le (by omega)] at ht
          simpa using ht)
        have HO := hid_mk ho
        clear hgo hk ht ho
        go_wp2
        go_ret
        exact ⟨by rw [HE.out]; rfl, HO.out⟩
  · have e1 : ((n : Int) != (m : Int)) = true := by simp; omega
    have e2 : (n != m) = true := by simpa using hnm
    have HE : Hid (decide (a = b) = false) := hid_mk (by
      simp only [decide_eq_false_iff_not]
      rintro rfl
      omega)
    clear hnm
    go_enter Tryd.func31, Tryd.ntmps31
    go_wp2
    go_ret
    exact ⟨by rw [HE.out]; rfl, Out.refl _ _ _⟩
def alF : List (Int × Int × Int × List (Int × Int)) := [(0, 1, 0, [(1, 5), (19, 0)])]
theorem al_ok : okP (0, [], alF) := by
  refine ⟨by simp, by simp, (by intro t ht; cases ht), by simp [alF], ?_⟩
  intro f hf
  simp [alF] at hf
  subst hf
  refine ⟨by simp, by simp, by simp, by simp, ?_⟩
  intro z hz
  simp at hz
  rcases hz with rfl | rfl <;> (unfold okI opS; simp)
theorem al_wr : wrE (0, [], alF) = 0 := (wr_ok al_ok (by simp [encP, alF, encF, encI, opB, opS, numB_lt, zig])).1
theorem al_ck : ckV (0, [], alF) = .inr ([2], [[0, 1]]) := by
  unfold ckV
  rw [if_pos al_wr]
  decide +kernel
theorem al_mi : ∀ f ∈ alF, MI f.2.2.2 := by
  intro f hf
  simp [alF] at hf
  subst hf
  intro z hz
  simp at hz
  rcases hz with rfl | rfl <;> simp
theorem fn_new {w : World} {g1 g2 : Nat} {P L C : Int} {cd : List (Int × Int)} {n : Nat} (hc : InIn w w.heap.size (some ⟨g1, 0, none⟩) cd) (hn : cd.length = n) (h2 : Bl w g2 #[.int .i64 P, .int .i64 L, .int .i64 C, .slice (some ⟨g1, 0, none⟩) n n] 41) : FnIn w w.heap.size (some ⟨g2, 0, none⟩) [(P, L, C, cd)] := by
  refine .inr ⟨g2, 0, rfl, h2.lt, fun j f hj => ?_⟩
  cases j with
  | zero =>
    simp at hj
    subst hj
    exact ⟨some ⟨g1, 0, none⟩, n, h2.cell (i := 0) rfl, h2.cell (i := 1) rfl, h2.cell (i := 2) rfl, by rw [hn]; exact h2.cell (i := 3) rfl, hc⟩
  | succ j => simp at hj
/-- instructions as cells -/
def ics : List (Int × Int) → List Value
  | [] => []
  | x :: l => .int .i64 x.1 :: .int .i64 x.2 :: ics l
theorem ics_at : ∀ {l : List (Int × Int)} {j : Nat} {x : Int × Int}, l[j]? = some x → (ics l)[j * 2]? = some (.int .i64 x.1) ∧ (ics l)[j * 2 + 1]? = some (.int .i64 x.2)
  | [], j, x, h => by simp at h
  | y :: l, 0, x, h => by
    simp at h
    subst h
    exact ⟨rfl, rfl⟩
  | y :: l, j + 1, x, h => by
    have := ics_at (l := l) (j := j) (x := x) (by simpa using h)
    rw [show (j + 1) * 2 = j * 2 + 1 + 1 by omega]
    exact this
theorem in_new {w : World} {g : Nat} {cd : List (Int × Int)} (h : Bl w g (ics cd).toArray 61) : InIn w w.heap.size (some ⟨g, 0, none⟩) cd := .inr ⟨g, 0, rfl, h.lt, fun j x hj => by
  obtain ⟨h1, h2⟩ := ics_at hj
  rw [Nat.zero_add]
  exact ⟨h.cell (by rw [List.getElem?_toArray]; exact h1), h.cell (by rw [List.getElem?_toArray]; exact h2)⟩⟩
theorem ck_one {w' : World} {lo : Nat} {sv dv : Value} {s : Int} {D : List Int} {dgs : List Nat} (h : CkAt w' lo sv dv [s] [D] dgs) : ∃ q c dq d dg, sv = .slice (some ⟨q, 0, none⟩) 1 c ∧ w'.cell? ⟨q, 0, none⟩ = some (.int .i64 s) ∧ dv = .slice (some ⟨dq, 0, none⟩) 1 d ∧ w'.cell? ⟨dq, 0, none⟩ = some (.slice (some ⟨dg, 0, none⟩) D.length D.length) ∧ Bl w' dg (ivs D).toArray 3 := by
  obtain ⟨h1, h2, h3, h4, _⟩ := h
  match dgs, h3 with
  | [dg], _ =>
    obtain ⟨_, hb⟩ := h4 0 dg D rfl rfl
    rcases h1.2 with ⟨_, q⟩ | ⟨q, c, cur, rfl, _, q2, _, _, _, q6⟩
    · cases q
    rcases h2.2 with ⟨_, q⟩ | ⟨dq, d, dcur, rfl, _, p2, _, _, _, p6⟩
    · cases q
    have B1 : Bl w' q cur 3 := q2
    have B2 : Bl w' dq dcur 68 := p2
    refine ⟨q, c, dq, d, dg, rfl, B1.cell ?_, rfl, B2.cell ?_, hb⟩
    · have : (cur.toList.take 1)[0]? = some (.int .i64 s) := by rw [show cur.toList.take 1 = _ from q6]; rfl
      rw [List.getElem?_take_of_lt (by omega)] at this
      simpa using this
    · have : (dcur.toList.take 1)[0]? = some (.slice (some ⟨dg, 0, none⟩) D.length D.length) := by rw [show dcur.toList.take 1 = _ from p6]; rfl
      rw [List.getElem?_take_of_lt (by omega)] at this
      simpa using this
set_option maxRecDepth 100000 in
set_option maxHeartbeats 2000000 in
theorem alive_any {w : World} (hT : Ty w) : Calls Tryd.prog 14 #[] w fun e w' => e = .returned (.bool true) ∧ Out 0 0 w w' := by
  obtain ⟨g1, hg1⟩ : ∃ g1, w.heap.size = g1 := ⟨_, rfl⟩
  obtain ⟨V, hV⟩ : ∃ V, (w.alloc (.cells #[.int .i64 1, .int .i64 5, .int .i64 19, .int .i64 0] 61)).alloc (.cells #[.int .i64 0, .int .i64 1, .int .i64 0, .slice (some ⟨g1, 0, none⟩) 2 2] 41) = V := ⟨_, rfl⟩
  have oV : Out 0 0 w V := by rw [← hV]; exact ((Out.refl 0 0 w).alloc _).alloc _
  have B1 : Bl V g1 (ics [(1, 5), (19, 0)]).toArray 61 := by rw [← hV, ← hg1]; exact (Bl.new _ _ _).alloc _
  have B2 : Bl V (g1 + 1) #[.int .i64 0, .int .i64 1, .int .i64 0, .slice (some ⟨g1, 0, none⟩) 2 2] 41 := by
    rw [← hV]
    have := Bl.new (w.alloc (.cells #[.int .i64 1, .int .i64 5, .int .i64 19, .int .i64 0] 61)) #[.int .i64 0, .int .i64 1, .int .i64 0, .slice (some ⟨g1, 0, none⟩) 2 2] 41
    rwa [size_alloc, hg1] at this
  have HCk := hid_mk (check_any (hT.out oV (.inr rfl)) (Nat.le_refl _) 0 [] alF none (some ⟨g1 + 1, 0, none⟩) 0 0 1 1 rfl rfl (.inl rfl) (fn_new (in_new B1) rfl B2) al_mi)
  rw [al_ck] at HCk
  have HO := hid_mk oV
  clear hT oV B1 B2
  go_enter Tryd.func14, Tryd.ntmps14
  go_wp2_with fail
  (try rw [hV])
  (try rw [hg1])
  refine HCk.out.mono ?_
  clear hV hg1
  rintro e w1 ⟨o1, ⟨S, Ds, sv, dv, dgs, z1, rfl, z2⟩ | ⟨er, f, i, z1, rfl⟩⟩
  · cases z1
    obtain ⟨q, c, dq, d, dg, rfl, c1, rfl, c2, hb⟩ := ck_one z2
    simp only [List.length_cons, List.length_nil] at c2
    have hlt1 := cell_lt c1
    have hlt2 := cell_lt c2
    have HI := hid_mk (IvIn.of_bl hb)
    have HO1 := hid_mk (HO.out.trans o1)
    clear z2 o1 hb HCk HO
    have HJ : Hid (IvIn ((w1.alloc (.cells #[.slice (some ⟨q, 0, none⟩) 1 c, .slice (some ⟨dq, 0, none⟩) 1 d] 71)).alloc (.cells #[.int .i64 0, .int .i64 1] 3)) (some ⟨w1.heap.size + 1, 0, none⟩) [0, 1]) := hid_mk (by
      have := Bl.new (w1.alloc (.cells #[.slice (some ⟨q, 0, none⟩) 1 c, .slice (some ⟨dq, 0, none⟩) 1 d] 71)) (ivs [0, 1]).toArray 3
      rw [size_alloc] at this
      exact IvIn.of_bl this)
    go_wp2_with (go_at_call 31; refine (same_any [0, 1] [0, 1] _ _ 2 2 _ _ rfl rfl (HI.out.kept (((Out.refl 0 0 w1).alloc _).alloc _)) HJ.out (by omega)).mono ?_; rintro e w2 ⟨rfl, o2⟩; replace HO1 := hid_mk ((HO1.out.trans (((Out.refl 0 0 w1).alloc _).alloc _)).trans o2); clear o2)
    go_ret
    exact ⟨rfl, HO1.out⟩
  · cases z1
end Go.Proofs.YtkghabmgofgclaaDoor
