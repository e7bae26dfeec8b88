/- the law CheckRefuses: its walk -/
import Derived.Test.YthijkfcobkdihaaDoorRfbc
namespace Go.Proofs.YthijkfcobkdihaaDoor
open Go.RowKit
set_option linter.unusedVariables false
set_option linter.unusedSimpArgs false

def bdL (u v : Int) : List (Int × Int) := [(2, 55296 + u), (2, 1114112 + v), (3, 5 + v), (4, 1 + v), (6, 2 + v), (7, 2 + v), (8, v), (9, 1 + v), (10, 1 + v), (16, 2 + v), (17, 9 + v), (18, 9 + v)]
theorem bd_at {u v : Nat} (hu : u < 2048) (hv : v < 1000) {k : Nat} (hk : k < 12) : ∃ op a, (bdL u v)[k]? = some (op, a) ∧ rtB 1 1 2 2 0 (op, a) = false ∧ smI (op, a) := by
  match k, hk with
  | 0, _ => exact ⟨_, _, rfl, by simp [rtB]; omega, sm_2 (by simp [opS]) (by omega) (by omega)⟩
  | 1, _ => exact ⟨_, _, rfl, by simp [rtB]; omega, sm_2 (by simp [opS]) (by omega) (by omega)⟩
  | 2, _ => exact ⟨_, _, rfl, by simp [rtB]; omega, sm_2 (by simp [opS]) (by omega) (by omega)⟩
  | 3, _ => exact ⟨_, _, rfl, by simp [rtB]; omega, sm_2 (by simp [opS]) (by omega) (by omega)⟩
  | 4, _ => exact ⟨_, _, rfl, by simp [rtB]; omega, sm_2 (by simp [opS]) (by omega) (by omega)⟩
  | 5, _ => exact ⟨_, _, rfl, by simp [rtB]; omega, sm_2 (by simp [opS]) (by omega) (by omega)⟩
  | 6, _ => exact ⟨_, _, rfl, by simp [rtB], sm_2 (by simp [opS]) (by omega) (by omega)⟩
  | 7, _ => exact ⟨_, _, rfl, by simp [rtB]; omega, sm_2 (by simp [opS]) (by omega) (by omega)⟩
  | 8, _ => exact ⟨_, _, rfl, by simp [rtB]; omega, sm_2 (by simp [opS]) (by omega) (by omega)⟩
  | 9, _ => exact ⟨_, _, rfl, by simp [rtB]; omega, sm_2 (by simp [opS]) (by omega) (by omega)⟩
  | 10, _ => exact ⟨_, _, rfl, by simp [rtB]; omega, sm_2 (by simp [opS]) (by omega) (by omega)⟩
  | 11, _ => exact ⟨_, _, rfl, by simp [rtB]; omega, sm_2 (by simp [opS]) (by omega) (by omega)⟩
theorem wz {c : Int} {v : Nat} (h : v < 2048) (h1 : 0 ≤ c) (h2 : c ≤ 2000000) : wrap64 (c + (v : Int)) = c + (v : Int) := by unfold wrap64; omega
theorem bd_ex {u v : Nat} (hu : u < 2048) (hv : v < 1000) : ∃ z0 z1 z5 y1 y2 y9 : Int, wrap64 (55296 + (u : Int)) = z0 ∧ wrap64 (1114112 + (v : Int)) = z1 ∧ wrap64 (5 + (v : Int)) = z5 ∧ wrap64 (1 + (v : Int)) = y1 ∧ wrap64 (2 + (v : Int)) = y2 ∧ wrap64 (9 + (v : Int)) = y9 ∧ bdL u v = [(2, z0), (2, z1), (3, z5), (4, y1), (6, y2), (7, y2), (8, (v : Int)), (9, y1), (10, y1), (16, y2), (17, y9), (18, y9)] :=
  have hv' : v < 2048 := by omega
  ⟨_, _, _, _, _, _, wz hu (by decide) (by decide), wz hv' (by decide) (by decide), wz hv' (by decide) (by decide), wz hv' (by decide) (by decide), wz hv' (by decide) (by decide), wz hv' (by decide) (by decide), rfl⟩
theorem sm_two : ∀ x ∈ ([(1, 0), (21, 0)] : List (Int × Int)), smI x := by
  intro x hx
  simp only [List.mem_cons, List.not_mem_nil, or_false] at hx
  rcases hx with rfl | rfl
  · exact sm_1 (by omega)
  · exact sm_0 (by simp [opS]) (by omega)
theorem sm_cons {x : Int × Int} {l : List (Int × Int)} (h : smI x) (h2 : ∀ y ∈ l, smI y) : ∀ y ∈ x :: l, smI y := by
  intro y hy
  rcases List.mem_cons.1 hy with rfl | hy
  · exact h
  · exact h2 y hy
theorem sm_none : ∀ x ∈ ([] : List (Int × Int)), smI x := by intro x hx; cases hx
theorem sm_11 : smI (11, 0) := sm_0 (by simp [opS]) (by omega)
theorem sm_21 : smI (21, 0) := sm_0 (by simp [opS]) (by omega)
theorem sm_10 : smI (1, 0) := sm_1 (by omega)
theorem twenty {k : Nat} (h : k < 20) : k < 12 ∨ k = 12 ∨ k = 13 ∨ k = 14 ∨ k = 15 ∨ k = 16 ∨ k = 17 ∨ k = 18 ∨ k = 19 := by omega
theorem CS.at {w0 w W : World} {F : Nat} {ta : Option Addr} {K cap : Nat} {l : List (Int × Int)} (h : CS w0 w F ta K cap l) (f : Fx (fun k => k = F) w W) : Out 0 0 w0 W ∧ InIn W W.heap.size ta l ∧ l.length = K := by
  obtain ⟨a1, a2, a3, a4, a5⟩ := h
  have q := in_own (own_fx a1 f (fun g hg e => a3 (by rw [hg, e])))
  exact ⟨out_lo (dg := F) a4 (f.wide fun k _ hk => by omega) a5, q.2, q.1⟩
theorem fx_set {F : Nat} {a w : World} (h : Fx (fun z => z = F) a w) (i : Nat) (v : Value) : Fx (fun z => z = F) a (w.setCell ⟨F, i, none⟩ v) := Fx.set (S := fun z => z = F) (p := ⟨F, i, none⟩) h (.inl rfl) v
theorem w_2m {m : Nat} (h : m < 60) : ((2 * m : Nat) : Int) = wrap64 (2 * (m : Int)) := by unfold wrap64; omega
theorem w_m1 {m : Nat} (h : m < 60) : ((m + 1 : Nat) : Int) = wrap64 ((m : Int) + 1) := by unfold wrap64; omega
theorem w_mv {m v : Nat} (h : m < 60) (hv : v < 1000) : wrap64 (wrap64 ((m : Int) + 1) + (v : Int)) = (m : Int) + 1 + (v : Int) := by unfold wrap64; omega
theorem rep_up9 {m i : Nat} {y : Int × Int} (h : m ≤ i) (l : List (Int × Int)) : l ++ List.replicate (i + 1 - m) y = l ++ List.replicate (i - m) y ++ [y] := by
  rw [show i + 1 - m = i - m + 1 by omega, List.replicate_succ', List.append_assoc]
theorem le_dec9 {i : Nat} (h : i ≤ 64) : decide ((i : Int) ≤ 64) = true ∧ decide (i ≤ 64) = true := ⟨by simp; omega, by simpa using h⟩
theorem lt_12 {k : Nat} (h : k < 12) : decide ((k : Int) < 12) = true ∧ decide (k < 12) = true ∧ (k : Int) < 12 := ⟨by simp; omega, by simpa using h, by omega⟩
theorem up_65 {i : Nat} (h : i ≤ 64) : wrap64 ((i : Int) + 1) = ((i + 1 : Nat) : Int) := by unfold wrap64; omega
theorem ms_65 {i : Nat} (h : i ≤ 64) : 65 - (intOf (.int .i64 (wrap64 ((i : Int) + 1)))).toNat < 65 - (intOf (.int .i64 (i : Int))).toNat := by rw [up_65 h]; simp [intOf]; omega
set_option maxRecDepth 100000 in
set_option maxHeartbeats 20000000 in
theorem refuses_any {w : World} (hT : Ty w) (what ahead a : Int) (hx : -9223372036854775808 ≤ what ∧ what ≤ 9223372036854775807) (hh : -9223372036854775808 ≤ ahead ∧ ahead ≤ 9223372036854775807) (ha : -9223372036854775808 ≤ a ∧ a ≤ 9223372036854775807) :
    Calls Tryd.prog 8 #[.int .i64 what, .int .i64 ahead, .int .i64 a] w fun e w' => e = .returned (.bool true) ∧ Out 0 0 w w' := by
  have HW60 := hid_mk (fun w : World => within_any (w := w) ahead 60 (by decide) hh)
  have HWa := hid_mk (fun w : World => within_any (w := w) a 1000 (by decide) ha)
  have HWb := hid_mk (fun w : World => within_any (w := w) a 2048 (by decide) ha)
  have HWw := hid_mk (fun w : World => within_any (w := w) what 20 (by decide) hx)
  have hn := wi_lt (x := ahead) (n := 60) (by decide)
  have hv := wi_lt (x := a) (n := 1000) (by decide)
  have hu := wi_lt (x := a) (n := 2048) (by decide)
  have hk := wi_lt (x := what) (n := 20) (by decide)
  generalize wiV ahead 60 = n at *
  generalize wiV a 1000 = v at *
  generalize wiV a 2048 = u at *
  generalize wiV what 20 = k at *
  have HN : Hid (n < 60 ∧ v < 1000 ∧ u < 2048 ∧ k < 20) := hid_mk ⟨hn, hv, hu, hk⟩
  have HT := hid_mk hT
  clear hT hx hh ha hn hv hu hk
  go_enter Tryd.func8, Tryd.ntmps8
  go_wp2_with fail
  refine calls_same (HW60.out _) ?_
  clear HW60
  go_wp2_with fail
  go_loopw [8, 9] (fun cv iv wr => ∃ (m : Nat) (ta : Option Addr) (cap : Nat), iv = .int .i64 m ∧ m ≤ n ∧ cv = .slice ta m cap ∧ wr.ownsRow w.heap.size 28 2 (.slice ta m cap) m (ics (preL m)) ∧ Out 0 0 w wr) (fun _ iv _ => n - (intOf iv).toNat)
  case atStart => exact ⟨0, none, 0, rfl, Nat.zero_le _, rfl, World.ownsRow_nil _ _ _ 2, Out.refl 0 0 w⟩
  case round =>
    obtain ⟨m, ta, cap, rfl, hm, rfl, hown, ho⟩ := hrel
    have HOw := hid_mk hown
    have HO := hid_mk ho
    by_cases hgo : m < n
    · obtain ⟨l1, l2⟩ := lt_dec hgo
      have HM := hid_mk hgo
      have HB : Hid (Bl (wr.alloc (.cells #[.int .i64 1, .int .i64 m] 28)) wr.heap.size #[.int .i64 1, .int .i64 m] 28) := hid_mk (Bl.new _ _ _)
      have HO1 : Hid (Out 0 0 wr (wr.alloc (.cells #[.int .i64 1, .int .i64 m] 28))) := hid_mk ((Out.refl 0 0 wr).alloc _)
      clear hown ho hgo hm
      go_wp2_with (at_builtin; refine app_ins rfl _ _ rfl rfl rfl (y := [(1, (m : Int))]) (own_fx (S := fun _ => False) HOw.out (Fx.of_out HO1.out) (fun _ _ z => z)) (by have := (HO.out.trans HO1.out).size; omega) HB.out rfl rfl (by have := HM.out; have := HN.out; omega) (by omega) (by omega) ?_; intro a' cap' w2 q1 q2 q3; have H1 := hid_mk q1; have H2 := hid_mk q2; clear q1 q2 q3)
      refine ⟨⟨m + 1, a', cap', up_v HM.out (by have := HN.out; omega), HM.out, rfl, by rw [pre_up]; exact H1.out, out_lo (dg := w.heap.size) (HO.out.trans HO1.out) (H2.out.wide fun z _ hz => (own_ge HOw.out hz).1) (Nat.le_refl _)⟩, ?_⟩
      rw [up_w HM.out (by have := HN.out; omega)]
      exact ms_n HM.out
    · obtain rfl : m = n := by omega
      have l1 : decide ((m : Int) < (m : Int)) = false := by simp
      obtain ⟨z0, z1, z5, y1, y2, y9, e0, e1, e5, f1, f2, f9, hZ⟩ := bd_ex HN.out.2.2.1 HN.out.2.1
      have HZ := hid_mk hZ
      clear hZ
      obtain ⟨bg, hbg⟩ : ∃ g, wr.heap.size = g := ⟨_, rfl⟩
      obtain ⟨V, hV⟩ : ∃ V, wr.alloc (.cells #[.int .i64 2, .int .i64 z0, .int .i64 2, .int .i64 z1, .int .i64 3, .int .i64 z5, .int .i64 4, .int .i64 y1, .int .i64 6, .int .i64 y2, .int .i64 7, .int .i64 y2, .int .i64 8, .int .i64 v, .int .i64 9, .int .i64 y1, .int .i64 10, .int .i64 y1, .int .i64 16, .int .i64 y2, .int .i64 17, .int .i64 y9, .int .i64 18, .int .i64 y9] 28) = V := ⟨_, rfl⟩
      have hVs : V.heap.size = bg + 1 := by rw [← hV, size_alloc, hbg]
      have BB : Bl V bg (ics [(2, z0), (2, z1), (3, z5), (4, y1), (6, y2), (7, y2), (8, (v : Int)), (9, y1), (10, y1), (16, y2), (17, y9), (18, y9)]).toArray 28 := by rw [← hV, ← hbg]; exact Bl.new _ _ _
      rw [← HZ.out] at BB
      have HBV := hid_mk BB
      have HBB := hid_mk (BB.alloc (.cells #[.int .i64 0, .int .i64 2, .int .i64 0, .slice none 0 0] 31))
      have oV : Out 0 0 wr V := by rw [← hV]; exact (Out.refl 0 0 wr).alloc _
      have oV2 : Out 0 0 wr (V.alloc (.cells #[.int .i64 0, .int .i64 2, .int .i64 0, .slice none 0 0] 31)) := oV.alloc _
      have HC : Hid (CS w (V.alloc (.cells #[.int .i64 0, .int .i64 2, .int .i64 0, .slice none 0 0] 31)) (bg + 1) ta m cap (preL m)) := hid_mk ⟨own_fx (S := fun _ => False) hown (Fx.of_out oV2) (fun _ _ z => z), by
          have := Bl.new V #[.int .i64 0, .int .i64 2, .int .i64 0, .slice none 0 0] 31
          rwa [hVs] at this, (fun q => by have := (own_ge hown q).2; omega), ho.trans oV2, by have := ho.size; omega⟩
      have HB : Hid (∀ cs, Bl ((V.alloc (.cells #[.int .i64 0, .int .i64 2, .int .i64 0, .slice none 0 0] 31)).alloc (.cells cs 28)) (bg + 1 + 1) cs 28) := hid_mk fun cs => by
        have := Bl.new (V.alloc (.cells #[.int .i64 0, .int .i64 2, .int .i64 0, .slice none 0 0] 31)) cs 28
        rwa [size_alloc, hVs] at this
      clear hown ho hgo hm BB oV oV2 HOw HO
      go_wp2_with fail
      refine calls_same (HWb.out _) ?_
      iterate 11 (go_wp2_with fail; refine calls_same (HWa.out _) ?_)
      go_wp2_with fail
      refine calls_same (HWw.out _) ?_
      clear HWw HWb e0 e1 e5 f1 f2 f9 HZ l1
      rcases twenty HN.out.2.2.2 with hk | rfl | rfl | rfl | rfl | rfl | rfl | rfl | rfl
      · obtain ⟨l1, l2, l3⟩ := lt_12 hk
        obtain ⟨op, aa, hop, hrt, hsm⟩ := bd_at HN.out.2.2.1 HN.out.2.1 hk
        obtain ⟨i0, i1⟩ := ics_at hop
        have c0 := HBV.out.cell (by rw [List.getElem?_toArray]; exact i0)
        have c1 := HBV.out.cell (by rw [List.getElem?_toArray]; exact i1)
        have HR : Hid (rtB 1 1 2 2 0 (op, aa) = false ∧ smI (op, aa)) := hid_mk ⟨hrt, hsm⟩
        clear hk hop hrt hsm i0 i1
        go_wp2_with (at_builtin; refine app_cs rfl _ _ rfl [(op, aa), (1, 0), (21, 0)] rfl rfl HC.out ((Out.refl 0 0 _).alloc _) (HB.out _) rfl rfl (by have := HN.out; omega) (by omega) (by omega) ?_; intro a1 c1 w2 q; have HC9 := hid_mk q; have s0 := q.2.1.cell (i := 0) rfl; have s1 := q.2.1.cell (i := 1) rfl; have s2 := q.2.1.cell (i := 2) rfl; have s3 := q.2.1.cell (i := 3) rfl; have t0 := q.2.1.frozen 0; have t2 := q.2.1.frozen 2; have t3 := q.2.1.frozen 3; clear q)
        have HRf : Hid (∀ W, Fx (fun z => z = bg + 1) w2 W → Calls Tryd.prog 21 #[.agg #[.int .i64 0, .int .i64 2, .int .i64 0, .slice a1 (m + 3) c1], .int .i64 1] W fun e W' => e = .returned (.tuple #[.int .i64 72, .int .i64 0, .int .i64 (m)]) ∧ Out 0 0 w W') := hid_mk fun W f => (refusal_any (HT.out.out (HC9.out.at f).1 (.inr rfl)) (HC9.out.at f).2.2 (HC9.out.at f).2.1 (re_mi (sm_app (sm_pre (by have := HN.out; omega)) (sm_cons HR.out.2 sm_two))) (e := 72) (k := 0) (i := m) ((re_ck (by decide) (by decide) (by simp only [List.length_append, List.length_cons, List.length_nil, List.length_replicate, pre_len]; have := HN.out; omega) (sm_app (sm_pre (by have := HN.out; omega)) (sm_cons HR.out.2 sm_two))).trans (re_op HR.out.1))).mono fun e W' h => ⟨by rw [h.1]; rfl, (HC9.out.at f).1.trans h.2⟩
        refine (HRf.out _ (fx_set (Fx.refl _ _) _ _)).mono ?_
        rintro e w5 ⟨rfl, o5⟩
        have HO5 := hid_mk o5
        clear o5 HRf
        go_wp2_with fail
        refine (alive_any (HT.out.out HO5.out (.inr rfl))).mono ?_
        rintro e w6 ⟨rfl, o6⟩
        have HO6 := hid_mk (HO5.out.trans o6)
        clear o6
        go_wp2
        go_ret
        exact ⟨rfl, HO6.out⟩
      · go_wp2_with fail
        refine calls_same (HWa.out _) ?_
        go_wp2_with (at_builtin; refine app_cs rfl _ _ rfl [(14, wrap64 (wrap64 ((m : Int) + 1) + (v : Int)))] rfl rfl HC.out ((Out.refl 0 0 _).alloc _) (HB.out _) rfl rfl (by have := HN.out; omega) (by omega) (by omega) ?_; intro a1 c1 w2 q; have HC9 := hid_mk q; have s0 := q.2.1.cell (i := 0) rfl; have s1 := q.2.1.cell (i := 1) rfl; have s2 := q.2.1.cell (i := 2) rfl; have s3 := q.2.1.cell (i := 3) rfl; have t0 := q.2.1.frozen 0; have t2 := q.2.1.frozen 2; have t3 := q.2.1.frozen 3; clear q)
        replace HC9 := HC9.out
        rw [w_mv HN.out.1 HN.out.2.1] at HC9
        replace HC9 := hid_mk HC9
        have HRf : Hid (∀ W, Fx (fun z => z = bg + 1) w2 W → Calls Tryd.prog 21 #[.agg #[.int .i64 0, .int .i64 2, .int .i64 0, .slice a1 (m + 1) c1], .int .i64 1] W fun e W' => e = .returned (.tuple #[.int .i64 73, .int .i64 0, .int .i64 (m)]) ∧ Out 0 0 w W') := hid_mk fun W f => (refusal_any (HT.out.out (HC9.out.at f).1 (.inr rfl)) (HC9.out.at f).2.2 (HC9.out.at f).2.1 (re_mi (sm_app (sm_pre (by have := HN.out; omega)) (sm_cons (sm_2 (by simp [opS]) (by decide) (by have := HN.out; omega)) sm_none))) (e := 73) (k := 0) (i := m) ((re_ck (by decide) (by decide) (by simp only [List.length_append, List.length_cons, List.length_nil, List.length_replicate, pre_len]; have := HN.out; omega) (sm_app (sm_pre (by have := HN.out; omega)) (sm_cons (sm_2 (by simp [opS]) (by decide) (by have := HN.out; omega)) sm_none))).trans (re_ju (by omega)))).mono fun e W' h => ⟨by rw [h.1]; rfl, (HC9.out.at f).1.trans h.2⟩
        refine (HRf.out _ (fx_set (Fx.refl _ _) _ _)).mono ?_
        rintro e w5 ⟨rfl, o5⟩
        have HO5 := hid_mk o5
        clear o5 HRf
        go_wp2_with fail
        refine (alive_any (HT.out.out HO5.out (.inr rfl))).mono ?_
        rintro e w6 ⟨rfl, o6⟩
        have HO6 := hid_mk (HO5.out.trans o6)
        clear o6
        go_wp2
        go_ret
        exact ⟨rfl, HO6.out⟩
      · go_wp2_with fail
        go_loopw [8, 15] (fun cv iv wz => ∃ (j : Nat) (tb : Option Addr) (cb : Nat), iv = .int .i64 j ∧ j ≤ m ∧ cv = .slice tb (m + j) cb ∧ CS w wz (bg + 1) tb (m + j) cb (preL m ++ List.replicate j (11, 0))) (fun _ iv _ => m - (intOf iv).toNat)
        case atStart => exact ⟨0, ta, cap, rfl, Nat.zero_le _, rfl, by rw [List.replicate_zero, List.append_nil]; exact HC.out⟩
        case round =>
          obtain ⟨j, tb, cb, rfl, hj, rfl, hcs⟩ := hrel
          have HC2 := hid_mk hcs
          by_cases hgo : j < m
          · obtain ⟨l1, l2⟩ := lt_dec hgo
            have HJ := hid_mk hgo
            clear hcs hgo hj
            go_wp2_with (at_builtin; refine app_cs rfl _ _ rfl [(11, 0)] rfl rfl HC2.out ((Out.refl 0 0 _).alloc _) (Bl.new _ _ _) rfl rfl (by have := HN.out; have := HJ.out; omega) (by omega) (by omega) ?_; intro a1 c1 w2 q; have HC9 := hid_mk q; have s0 := q.2.1.cell (i := 0) rfl; have s1 := q.2.1.cell (i := 1) rfl; have s2 := q.2.1.cell (i := 2) rfl; have s3 := q.2.1.cell (i := 3) rfl; have t0 := q.2.1.frozen 0; have t2 := q.2.1.frozen 2; have t3 := q.2.1.frozen 3; clear q)
            refine ⟨⟨j + 1, a1, c1, up_v HJ.out (by have := HN.out; omega), HJ.out, rfl, by rw [List.replicate_succ', ← List.append_assoc]; exact HC9.out⟩, ?_⟩
            rw [up_w HJ.out (by have := HN.out; omega)]
            exact ms_n HJ.out
          · obtain rfl : j = m := by omega
            have l1 : decide ((j : Int) < (j : Int)) = false := by simp
            clear hcs hgo hj
            go_wp2_with (at_builtin; refine app_cs rfl _ _ rfl [(11, 0), (1, 0), (21, 0)] rfl rfl HC2.out ((Out.refl 0 0 _).alloc _) (Bl.new _ _ _) rfl rfl (by have := HN.out; omega) (by omega) (by omega) ?_; intro a1 c1 w2 q; have HC9 := hid_mk q; have s0 := q.2.1.cell (i := 0) rfl; have s1 := q.2.1.cell (i := 1) rfl; have s2 := q.2.1.cell (i := 2) rfl; have s3 := q.2.1.cell (i := 3) rfl; have t0 := q.2.1.frozen 0; have t2 := q.2.1.frozen 2; have t3 := q.2.1.frozen 3; clear q)
            have HRf : Hid (∀ W, Fx (fun z => z = bg + 1) w2 W → Calls Tryd.prog 21 #[.agg #[.int .i64 0, .int .i64 2, .int .i64 0, .slice a1 (j + j + 3) c1], .int .i64 1] W fun e W' => e = .returned (.tuple #[.int .i64 74, .int .i64 0, .int .i64 (wrap64 (2 * (j : Int)))]) ∧ Out 0 0 w W') := hid_mk fun W f => (refusal_any (HT.out.out (HC9.out.at f).1 (.inr rfl)) (HC9.out.at f).2.2 (HC9.out.at f).2.1 (re_mi (sm_app (sm_app (sm_pre (by have := HN.out; omega)) (sm_rep sm_11)) (sm_cons sm_11 sm_two))) (e := 74) (k := 0) (i := 2 * j) ((re_ck (by decide) (by decide) (by simp only [List.length_append, List.length_cons, List.length_nil, List.length_replicate, pre_len]; have := HN.out; omega) (sm_app (sm_app (sm_pre (by have := HN.out; omega)) (sm_rep sm_11)) (sm_cons sm_11 sm_two))).trans (re_13 j HN.out.1))).mono fun e W' h => ⟨by rw [h.1]; rw [w_2m HN.out.1]; rfl, (HC9.out.at f).1.trans h.2⟩
            refine (HRf.out _ (fx_set (Fx.refl _ _) _ _)).mono ?_
            rintro e w5 ⟨rfl, o5⟩
            have HO5 := hid_mk o5
            clear o5 HRf
            go_wp2_with fail
            refine (alive_any (HT.out.out HO5.out (.inr rfl))).mono ?_
            rintro e w6 ⟨rfl, o6⟩
            have HO6 := hid_mk (HO5.out.trans o6)
            clear o6
            go_wp2
            go_ret
            exact ⟨rfl, HO6.out⟩
      · go_wp2_with fail
        go_loopw [8, 16] (fun cv iv wz => ∃ (i : Nat) (tb : Option Addr) (cb : Nat), iv = .int .i64 i ∧ m ≤ i ∧ i ≤ 65 ∧ cv = .slice tb i cb ∧ CS w wz (bg + 1) tb i cb (preL m ++ List.replicate (i - m) (1, 0))) (fun _ iv _ => 65 - (intOf iv).toNat)
        case atStart => exact ⟨m, ta, cap, rfl, Nat.le_refl _, by have := HN.out; omega, rfl, by rw [Nat.sub_self, List.replicate_zero, List.append_nil]; exact HC.out⟩
        case round =>
          obtain ⟨i, tb, cb, rfl, hi1, hi2, rfl, hcs⟩ := hrel
          have HC2 := hid_mk hcs
          by_cases hgo : i ≤ 64
          · obtain ⟨l1, l2⟩ := le_dec9 hgo
            have HJ := hid_mk (And.intro hi1 hgo)
            clear hcs hgo hi1 hi2
            go_wp2_with (at_builtin; refine app_cs rfl _ _ rfl [(1, 0)] rfl rfl HC2.out ((Out.refl 0 0 _).alloc _) (Bl.new _ _ _) rfl rfl (by have := HJ.out; omega) (by omega) (by omega) ?_; intro a1 c1 w2 q; have HC9 := hid_mk q; have s0 := q.2.1.cell (i := 0) rfl; have s1 := q.2.1.cell (i := 1) rfl; have s2 := q.2.1.cell (i := 2) rfl; have s3 := q.2.1.cell (i := 3) rfl; have t0 := q.2.1.frozen 0; have t2 := q.2.1.frozen 2; have t3 := q.2.1.frozen 3; clear q)
            exact ⟨⟨i + 1, a1, c1, by rw [up_65 HJ.out.2], by have := HJ.out; omega, by have := HJ.out; omega, rfl, by rw [rep_up9 HJ.out.1]; exact HC9.out⟩, ms_65 HJ.out.2⟩
          · obtain rfl : i = 65 := by omega
            clear hcs hgo hi1 hi2
            go_wp2_with (at_builtin; refine app_cs rfl _ _ rfl [(21, 0)] rfl rfl HC2.out ((Out.refl 0 0 _).alloc _) (Bl.new _ _ _) rfl rfl (by omega) (by omega) (by omega) ?_; intro a1 c1 w2 q; have HC9 := hid_mk q; have s0 := q.2.1.cell (i := 0) rfl; have s1 := q.2.1.cell (i := 1) rfl; have s2 := q.2.1.cell (i := 2) rfl; have s3 := q.2.1.cell (i := 3) rfl; have t0 := q.2.1.frozen 0; have t2 := q.2.1.frozen 2; have t3 := q.2.1.frozen 3; clear q)
            have HRf : Hid (∀ W, Fx (fun z => z = bg + 1) w2 W → Calls Tryd.prog 21 #[.agg #[.int .i64 0, .int .i64 2, .int .i64 0, .slice a1 (65 + 1) c1], .int .i64 1] W fun e W' => e = .returned (.tuple #[.int .i64 75, .int .i64 0, .int .i64 (64)]) ∧ Out 0 0 w W') := hid_mk fun W f => (refusal_any (HT.out.out (HC9.out.at f).1 (.inr rfl)) (HC9.out.at f).2.2 (HC9.out.at f).2.1 (re_mi (sm_app (sm_app (sm_pre (by have := HN.out; omega)) (sm_rep sm_10)) (sm_cons sm_21 sm_none))) (e := 75) (k := 0) (i := 64) ((re_ck (by decide) (by decide) (by simp only [List.length_append, List.length_cons, List.length_nil, List.length_replicate, pre_len]; have := HN.out; omega) (sm_app (sm_app (sm_pre (by have := HN.out; omega)) (sm_rep sm_10)) (sm_cons sm_21 sm_none))).trans (re_14 m HN.out.1))).mono fun e W' h => ⟨by rw [h.1]; rfl, (HC9.out.at f).1.trans h.2⟩
            refine (HRf.out _ (fx_set (Fx.refl _ _) _ _)).mono ?_
            rintro e w5 ⟨rfl, o5⟩
            have HO5 := hid_mk o5
            clear o5 HRf
            go_wp2_with fail
            refine (alive_any (HT.out.out HO5.out (.inr rfl))).mono ?_
            rintro e w6 ⟨rfl, o6⟩
            have HO6 := hid_mk (HO5.out.trans o6)
            clear o6
            go_wp2
            go_ret
            exact ⟨rfl, HO6.out⟩
      · go_wp2_with (at_builtin; refine app_cs rfl _ _ rfl [(1, 0), (14, (m : Int))] rfl rfl HC.out ((Out.refl 0 0 _).alloc _) (HB.out _) rfl rfl (by have := HN.out; omega) (by omega) (by omega) ?_; intro a1 c1 w2 q; have HC9 := hid_mk q; have s0 := q.2.1.cell (i := 0) rfl; have s1 := q.2.1.cell (i := 1) rfl; have s2 := q.2.1.cell (i := 2) rfl; have s3 := q.2.1.cell (i := 3) rfl; have t0 := q.2.1.frozen 0; have t2 := q.2.1.frozen 2; have t3 := q.2.1.frozen 3; clear q)
        have HRf : Hid (∀ W, Fx (fun z => z = bg + 1) w2 W → Calls Tryd.prog 21 #[.agg #[.int .i64 0, .int .i64 2, .int .i64 0, .slice a1 (m + 2) c1], .int .i64 1] W fun e W' => e = .returned (.tuple #[.int .i64 76, .int .i64 0, .int .i64 (wrap64 ((m : Int) + 1))]) ∧ Out 0 0 w W') := hid_mk fun W f => (refusal_any (HT.out.out (HC9.out.at f).1 (.inr rfl)) (HC9.out.at f).2.2 (HC9.out.at f).2.1 (re_mi (sm_app (sm_pre (by have := HN.out; omega)) (sm_cons sm_10 (sm_cons (sm_2 (by simp [opS]) (by decide) (by have := HN.out; omega)) sm_none)))) (e := 76) (k := 0) (i := m + 1) ((re_ck (by decide) (by decide) (by simp only [List.length_append, List.length_cons, List.length_nil, List.length_replicate, pre_len]; have := HN.out; omega) (sm_app (sm_pre (by have := HN.out; omega)) (sm_cons sm_10 (sm_cons (sm_2 (by simp [opS]) (by decide) (by have := HN.out; omega)) sm_none)))).trans (re_15 m HN.out.1))).mono fun e W' h => ⟨by rw [h.1]; rw [w_m1 HN.out.1]; rfl, (HC9.out.at f).1.trans h.2⟩
        refine (HRf.out _ (fx_set (Fx.refl _ _) _ _)).mono ?_
        rintro e w5 ⟨rfl, o5⟩
        have HO5 := hid_mk o5
        clear o5 HRf
        go_wp2_with fail
        refine (alive_any (HT.out.out HO5.out (.inr rfl))).mono ?_
        rintro e w6 ⟨rfl, o6⟩
        have HO6 := hid_mk (HO5.out.trans o6)
        clear o6
        go_wp2
        go_ret
        exact ⟨rfl, HO6.out⟩
      · go_wp2_with (at_builtin; refine app_cs rfl _ _ rfl [(1, 0)] rfl rfl HC.out ((Out.refl 0 0 _).alloc _) (HB.out _) rfl rfl (by have := HN.out; omega) (by omega) (by omega) ?_; intro a1 c1 w2 q; have HC9 := hid_mk q; have s0 := q.2.1.cell (i := 0) rfl; have s1 := q.2.1.cell (i := 1) rfl; have s2 := q.2.1.cell (i := 2) rfl; have s3 := q.2.1.cell (i := 3) rfl; have t0 := q.2.1.frozen 0; have t2 := q.2.1.frozen 2; have t3 := q.2.1.frozen 3; clear q)
        have HRf : Hid (∀ W, Fx (fun z => z = bg + 1) w2 W → Calls Tryd.prog 21 #[.agg #[.int .i64 0, .int .i64 2, .int .i64 0, .slice a1 (m + 1) c1], .int .i64 1] W fun e W' => e = .returned (.tuple #[.int .i64 77, .int .i64 0, .int .i64 (m)]) ∧ Out 0 0 w W') := hid_mk fun W f => (refusal_any (HT.out.out (HC9.out.at f).1 (.inr rfl)) (HC9.out.at f).2.2 (HC9.out.at f).2.1 (re_mi (sm_app (sm_pre (by have := HN.out; omega)) (sm_cons sm_10 sm_none))) (e := 77) (k := 0) (i := m) ((re_ck (by decide) (by decide) (by simp only [List.length_append, List.length_cons, List.length_nil, List.length_replicate, pre_len]; have := HN.out; omega) (sm_app (sm_pre (by have := HN.out; omega)) (sm_cons sm_10 sm_none))).trans (re_16 m HN.out.1))).mono fun e W' h => ⟨by rw [h.1]; rfl, (HC9.out.at f).1.trans h.2⟩
        refine (HRf.out _ (fx_set (Fx.refl _ _) _ _)).mono ?_
        rintro e w5 ⟨rfl, o5⟩
        have HO5 := hid_mk o5
        clear o5 HRf
        go_wp2_with fail
        refine (alive_any (HT.out.out HO5.out (.inr rfl))).mono ?_
        rintro e w6 ⟨rfl, o6⟩
        have HO6 := hid_mk (HO5.out.trans o6)
        clear o6
        go_wp2
        go_ret
        exact ⟨rfl, HO6.out⟩
      · go_wp2_with (at_builtin; refine app_cs rfl _ _ rfl [(1, 0), (21, 0)] rfl rfl HC.out ((Out.refl 0 0 _).alloc _) (HB.out _) rfl rfl (by have := HN.out; omega) (by omega) (by omega) ?_; intro a1 c1 w2 q; have HC9 := hid_mk q; have s0 := q.2.1.cell (i := 0) rfl; have s1 := q.2.1.cell (i := 1) rfl; have s2 := q.2.1.cell (i := 2) rfl; have s3 := q.2.1.cell (i := 3) rfl; have t0 := q.2.1.frozen 0; have t2 := q.2.1.frozen 2; have t3 := q.2.1.frozen 3; clear q)
        have HRf : Hid (∀ W, Fx (fun z => z = bg + 1) w2 W → Calls Tryd.prog 21 #[.agg #[.int .i64 3, .int .i64 2, .int .i64 0, .slice a1 (m + 2) c1], .int .i64 1] W fun e W' => e = .returned (.tuple #[.int .i64 70, .int .i64 0, .int .i64 (0)]) ∧ Out 0 0 w W') := hid_mk fun W f => (refusal_any (HT.out.out (HC9.out.at f).1 (.inr rfl)) (HC9.out.at f).2.2 (HC9.out.at f).2.1 (re_mi (sm_app (sm_pre (by have := HN.out; omega)) sm_two)) (e := 70) (k := 0) (i := 0) ((re_ck (by decide) (by decide) (by simp only [List.length_append, List.length_cons, List.length_nil, List.length_replicate, pre_len]; have := HN.out; omega) (sm_app (sm_pre (by have := HN.out; omega)) sm_two)).trans (re_17 _))).mono fun e W' h => ⟨by rw [h.1]; rfl, (HC9.out.at f).1.trans h.2⟩
        refine (HRf.out _ (fx_set (fx_set (Fx.refl _ _) _ _) _ _)).mono ?_
        rintro e w5 ⟨rfl, o5⟩
        have HO5 := hid_mk o5
        clear o5 HRf
        go_wp2_with fail
        refine (alive_any (HT.out.out HO5.out (.inr rfl))).mono ?_
        rintro e w6 ⟨rfl, o6⟩
        have HO6 := hid_mk (HO5.out.trans o6)
        clear o6
        go_wp2
        go_ret
        exact ⟨rfl, HO6.out⟩
      · go_wp2_with (at_builtin; refine app_cs rfl _ _ rfl [(1, 0), (21, 0)] rfl rfl HC.out ((Out.refl 0 0 _).alloc _) (HB.out _) rfl rfl (by have := HN.out; omega) (by omega) (by omega) ?_; intro a1 c1 w2 q; have HC9 := hid_mk q; have s0 := q.2.1.cell (i := 0) rfl; have s1 := q.2.1.cell (i := 1) rfl; have s2 := q.2.1.cell (i := 2) rfl; have s3 := q.2.1.cell (i := 3) rfl; have t0 := q.2.1.frozen 0; have t2 := q.2.1.frozen 2; have t3 := q.2.1.frozen 3; clear q)
        have HRf : Hid (∀ W, Fx (fun z => z = bg + 1) w2 W → Calls Tryd.prog 21 #[.agg #[.int .i64 0, .int .i64 2, .int .i64 1, .slice a1 (m + 2) c1], .int .i64 1] W fun e W' => e = .returned (.tuple #[.int .i64 70, .int .i64 0, .int .i64 (0)]) ∧ Out 0 0 w W') := hid_mk fun W f => (refusal_any (HT.out.out (HC9.out.at f).1 (.inr rfl)) (HC9.out.at f).2.2 (HC9.out.at f).2.1 (re_mi (sm_app (sm_pre (by have := HN.out; omega)) sm_two)) (e := 70) (k := 0) (i := 0) ((re_ck (by decide) (by decide) (by simp only [List.length_append, List.length_cons, List.length_nil, List.length_replicate, pre_len]; have := HN.out; omega) (sm_app (sm_pre (by have := HN.out; omega)) sm_two)).trans (re_18 _))).mono fun e W' h => ⟨by rw [h.1]; rfl, (HC9.out.at f).1.trans h.2⟩
        refine (HRf.out _ (fx_set (fx_set (Fx.refl _ _) _ _) _ _)).mono ?_
        rintro e w5 ⟨rfl, o5⟩
        have HO5 := hid_mk o5
        clear o5 HRf
        go_wp2_with fail
        refine (alive_any (HT.out.out HO5.out (.inr rfl))).mono ?_
        rintro e w6 ⟨rfl, o6⟩
        have HO6 := hid_mk (HO5.out.trans o6)
        clear o6
        go_wp2
        go_ret
        exact ⟨rfl, HO6.out⟩
      · have HC9 := hid_mk HC.out.nil
        have s0 := HC9.out.2.1.cell (i := 0) rfl
        have s1 := HC9.out.2.1.cell (i := 1) rfl
        have s2 := HC9.out.2.1.cell (i := 2) rfl
        have s3 := HC9.out.2.1.cell (i := 3) rfl
        have t3 := HC9.out.2.1.frozen 3
        go_wp2_with fail
        have HRf : Hid (∀ W, Fx (fun z => z = bg + 1) (V.alloc (.cells #[.int .i64 0, .int .i64 2, .int .i64 0, .slice none 0 0] 31)) W → Calls Tryd.prog 21 #[.agg #[.int .i64 0, .int .i64 2, .int .i64 0, .slice none (0) 0], .int .i64 1] W fun e W' => e = .returned (.tuple #[.int .i64 71, .int .i64 0, .int .i64 (0)]) ∧ Out 0 0 w W') := hid_mk fun W f => (refusal_any (HT.out.out (HC9.out.at f).1 (.inr rfl)) (HC9.out.at f).2.2 (HC9.out.at f).2.1 (re_mi sm_none) (e := 71) (k := 0) (i := 0) ((re_ck (by decide) (by decide) (by simp) sm_none).trans re_19)).mono fun e W' h => ⟨by rw [h.1]; rfl, (HC9.out.at f).1.trans h.2⟩
        refine (HRf.out _ (Fx.refl _ _)).mono ?_
        rintro e w5 ⟨rfl, o5⟩
        have HO5 := hid_mk o5
        clear o5 HRf
        go_wp2_with fail
        refine (alive_any (HT.out.out HO5.out (.inr rfl))).mono ?_
        rintro e w6 ⟨rfl, o6⟩
        have HO6 := hid_mk (HO5.out.trans o6)
        clear o6
        go_wp2
        go_ret
        exact ⟨rfl, HO6.out⟩
end Go.Proofs.YthijkfcobkdihaaDoor
