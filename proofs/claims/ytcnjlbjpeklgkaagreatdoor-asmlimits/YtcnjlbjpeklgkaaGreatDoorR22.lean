import Derived.Test.YtcnjlbjpeklgkaaGreatDoorR07
namespace Go.Proofs.YtcnjlbjpeklgkaaGreatDoor
open Go.RowKit
set_option linter.unusedVariables false
set_option linter.unusedSimpArgs false

theorem lit101 {a : Act} (h : a.tmps.size = 101) (hd : a.defers = []) : ∃ f : Nat → Value, a = { tmps := #[f 0, f 1, f 2, f 3, f 4, f 5, f 6, f 7, f 8, f 9, f 10, f 11, f 12, f 13, f 14, f 15, f 16, f 17, f 18, f 19, f 20, f 21, f 22, f 23, f 24, f 25, f 26, f 27, f 28, f 29, f 30, f 31, f 32, f 33, f 34, f 35, f 36, f 37, f 38, f 39, f 40, f 41, f 42, f 43, f 44, f 45, f 46, f 47, f 48, f 49, f 50, f 51, f 52, f 53, f 54, f 55, f 56, f 57, f 58, f 59, f 60, f 61, f 62, f 63, f 64, f 65, f 66, f 67, f 68, f 69, f 70, f 71, f 72, f 73, f 74, f 75, f 76, f 77, f 78, f 79, f 80, f 81, f 82, f 83, f 84, f 85, f 86, f 87, f 88, f 89, f 90, f 91, f 92, f 93, f 94, f 95, f 96, f 97, f 98, f 99, f 100], defers := [] } ∧ ∀ i v, a.tmps[i]? = some v → f i = v := by
  refine ⟨fun i => a.tmps.getD i undef, ?_, fun i v hv => ?_⟩
  · have e : a.tmps = ((List.range 101).map fun i => a.tmps.getD i undef).toArray := by
      apply Array.ext
      · simp [h]
      · intro i h1 h2
        simp [Array.getD, h1]
    obtain ⟨t, d⟩ := a
    simp only at hd e
    subst hd
    simp only [Act.mk.injEq, and_true]
    exact e
  · simp only [Array.getD_eq_getD_getElem?, hv, Option.getD_some]
/-- what ends a word may stand ahead -/
def Gp (l : List Int) : Prop := l = [] ∨ ∃ c r, l = c :: r ∧ (c = 32 ∨ c = 9 ∨ c = 59)
/-- what holds at a jump to label l -/
def jW (s : ByteArray) (w : World) (n l : Nat) (a : Act) (wr : World) : Prop :=
  a.defers = [] ∧ a.tmps.size = 101 ∧ ∃ (xs : List ByteArray) (rest : ByteArray) (k : Nat) (ta : Option Addr) (cap : Nat), k = xs.length ∧ a.tmps[3]? = some (.slice ta k cap) ∧ a.tmps[5]? = some (.bool false) ∧ a.tmps[6]? = some (.string rest) ∧ Sts wr w.heap.size (.slice ta k cap) xs ∧ Out 0 0 w wr ∧ k + rest.size ≤ s.size ∧
    ((l = 2 ∧ n = 4 * rest.size + 2 ∧ wsF (bt s) = (wsA .gap (bt rest)).map (xs.map bt ++ ·)) ∨
     (l = 1 ∧ n = 4 * rest.size + 1 ∧ wsF (bt s) = (wsA .gap (bt rest)).map (xs.map bt ++ ·) ∧ ∃ c r, bt rest = c :: r ∧ c ≠ 32 ∧ c ≠ 9 ∧ c ≠ 59 ∧ c ≠ 34 ∧ c ≠ 39) ∨
     (l = 0 ∧ n = 4 * rest.size + 1 ∧ wsF (bt s) = (wsA .gap (bt rest)).map (xs.map bt ++ ·) ∧ ∃ q r, bt rest = q :: r ∧ (q = 34 ∨ q = 39) ∧ a.tmps[4]? = some (.int .i32 q)) ∨
     (l = 3 ∧ n = 4 * rest.size + 3 ∧ (Gp (bt rest) → wsF (bt s) = (wsA .gap (bt rest)).map (xs.map bt ++ ·)) ∧ (¬ Gp (bt rest) → wsF (bt s) = none)))
theorem jW.lt {s : ByteArray} {w wr : World} {n l : Nat} {a : Act} (h : jW s w n l a wr) : l < 4 := by
  obtain ⟨_, _, _, _, _, _, _, _, _, _, _, _, _, _, h⟩ := h
  omega
set_option maxRecDepth 100000 in
set_option maxHeartbeats 4000000 in
/-- a line's words, or none -/
theorem words_any (s : ByteArray) (w : World) (hs : s.size ≤ 1800000) : Calls Tryz.prog 65 #[.string s] w fun x w' => Out 0 0 w w' ∧ ((∃ xs ta cap, wsF (bt s) = some (xs.map bt) ∧ x = .returned (.slice ta xs.length cap) ∧ Sts w' w.heap.size (.slice ta xs.length cap) xs) ∨ (wsF (bt s) = none ∧ x = .panicked [giveUp])) := by
  go_enter Tryz.func65, Tryz.ntmps65
  go_wp2
  refine scope_four (jW s w) rfl rfl rfl rfl (fun n l a wr h => h.lt) ?first ?p0 ?p1 ?p2 ?p3
  case first =>
    intro h2
    go_wp2
    go_step3
    rename_i Q' K hK
    refine hK _ _ ?_
    refine h2 (4 * s.size + 2) _ _ ?_
    refine ⟨rfl, rfl, [], s, 0, none, 0, rfl, rfl, rfl, rfl, sts_nil _ _, Out.refl _ _ _, by omega, .inl ⟨rfl, rfl, ?_⟩⟩
    rw [wsF]
    cases wsA .gap (bt s) <;> rfl
  case p0 =>
    intro n a wr hJ
    obtain ⟨hd, hsz, xs, rest, k, ta, cap, hk, t3, t5, t6, hst, hO, hb, hcase⟩ := hJ
    obtain ⟨hn, hws, q, l0, hc0, hq, t4⟩ : n = 4 * rest.size + 1 ∧ wsF (bt s) = (wsA .gap (bt rest)).map (xs.map bt ++ ·) ∧ ∃ q r, bt rest = q :: r ∧ (q = 34 ∨ q = 39) ∧ a.tmps[4]? = some (.int .i32 q) := by
      rcases hcase with ⟨h, _⟩ | ⟨h, _⟩ | ⟨_, h1, h2⟩ | ⟨h, _⟩
      · cases h
      · cases h
      · exact ⟨h1, h2⟩
      · cases h
    obtain ⟨f, rfl, hf⟩ := lit101 hsz hd
    have e3 := hf _ _ t3
    have e5 := hf _ _ t5
    have e6 := hf _ _ t6
    rw [e3, e5, e6]
    clear e3 e5 e6 t3 t5 t6 hsz hd
    have HK := hid_mk hk
    have HST := hid_mk hst
    have HO := hid_mk hO
    have HB := hid_mk hb
    have e4 := hf _ _ t4
    rw [e4]
    clear e4 t4 hf
    have HN := hid_mk hn
    have HW := hid_mk hws
    have HQ := hid_mk hq
    have h1s : 1 ≤ rest.size := by have := congrArg List.length hc0; rw [bt_len] at this; simp at this; omega
    obtain ⟨u, hu⟩ : ∃ u, rest.extract 1 rest.size = u := ⟨_, rfl⟩
    have hbu : bt u = l0 := by rw [← hu, bt_from, hc0]; rfl
    have hc1 : bt rest = q :: bt u := by rw [hbu]; exact hc0
    have hsu : u.size + 1 = rest.size := by rw [← hu, ByteArray.size_extract]; omega
    have HC1 := hid_mk hc1
    have HSU := hid_mk hsu
    clear hk hst hO hb hcase hn hws hc0 hq hbu hc1 hsu
    obtain ⟨r, hr⟩ : ∃ r, wr.heap.size = r := ⟨_, rfl⟩
    have HRr := hid_mk hr
    go_wp2
    (try rw [hr])
    clear hr
    (try rw [hu])
    clear hu h1s
    go_loopw [3, 5, 6] (fun x y v w2 => x = .slice ta k cap ∧ v = .string rest ∧ ∃ pos b, y = .bool b ∧ w2.heap[r]? = some (.stringIter u pos) ∧ Out 0 0 w w2 ∧ Sts w2 w.heap.size (.slice ta k cap) xs ∧ wsA .gap (bt rest) = (if b then wsA (.esc q (q :: (bt u).take pos)) ((bt u).drop pos) else wsA (.quo q (q :: (bt u).take pos)) ((bt u).drop pos)) ∧ pos ≤ u.size) (fun _ _ _ w2 => u.size - w2.iterPos r)
    case atStart =>
      have e := World.iter_heap wr u 0
      rw [HRr.out] at e
      refine ⟨rfl, rfl, 0, false, rfl, e, HO.out.alloc _, HST.out.out ((Out.refl 0 0 wr).alloc _), ?_, Nat.zero_le _⟩
      rw [HC1.out, ws_quo HQ.out]
      rfl
    case round =>
      obtain ⟨rfl, rfl, pos, b, rfl, hit, hO2, hst2, hg, hp⟩ := hrel
      have HI := hid_mk hit
      have HO2 := hid_mk hO2
      have HS2 := hid_mk hst2
      by_cases hlt : pos < u.size
      · have hnx := fun ty => Lib.run_next_any_at (P := Tryz.prog) wr r u pos ty hit hlt
        have hrn := dec_at u pos hlt
        obtain ⟨⟨c, wd⟩, hcw⟩ : ∃ q, Utf8.decode u pos = q := ⟨_, rfl⟩
        rw [hcw] at hrn hnx
        simp only at hrn hnx
        have HR := hid_mk hrn
        have HH := hid_mk (Lib.iterAt_heap wr r u pos (pos + wd) hit)
        have HL := hid_mk hlt
        have hpw : Hid (pos + wd ≤ u.size) := hid_mk (by have := hrn.pos; rw [bt_len] at this; omega)
        have HO3 : Hid (Out 0 0 w (wr.iterAt r u (pos + wd))) := hid_mk (HO2.out.past (out_iter u _) (by have := HRr.out; have := HO.out.size; omega))
        have HS3 := hid_mk (HS2.out.iter hit (pos + wd))
        have hme : Hid (u.size - (pos + wd) < u.size - pos) := hid_mk (by have := hrn.pos; omega)
        clear hit hO2 hst2 hrn hcw hlt hp
        cases b with
        | true =>
          rw [if_pos rfl] at hg
          have HG := hid_mk hg
          clear hg
          go_wp2
          go_roundw
          case rel => exact ⟨rfl, rfl, pos + wd, false, rfl, HH.out, HO3.out, HS3.out, HG.out.trans (HR.out.passed (by have := HQ.out; omega)), hpw.out⟩
          case measure => rw [iter_pos HH.out, iter_pos HI.out]; exact hme.out
        | false =>
          rw [if_neg (by decide)] at hg
          have HG := hid_mk hg
          clear hg
          by_cases c92 : c = 92
          · have h92 : ((c : Int) == 92) = true := by rw [c92]; rfl
            have HC := hid_mk c92
            clear c92
            go_wp2
            go_roundw
            case rel =>
              refine ⟨rfl, rfl, pos + wd, true, rfl, HH.out, HO3.out, HS3.out, ?_, hpw.out⟩
              obtain ⟨hw1, hc⟩ := HR.out.one (by have := HC.out; omega)
              obtain ⟨e1, e2⟩ := td_at hc
              rw [if_pos rfl, hw1, HG.out, e1, e2, HC.out]
              exact ws_qesc (by have := HQ.out; omega)
            case measure => rw [iter_pos HH.out, iter_pos HI.out]; exact hme.out
          · have h92 : ((c : Int) == 92) = false := by simp only [beq_eq_false_iff_ne, ne_eq]; omega
            by_cases cq : (c : Int) = q
            · have hcq : ((c : Int) == q) = true := by rw [cq]; simp
              have HC := hid_mk cq
              obtain ⟨p2, hp2⟩ : ∃ p2, p2 = pos + 2 := ⟨_, rfl⟩
              have hw2 : IntKind.i64.wrap ((pos : Int) + 2) = (p2 : Int) := by have := HL.out; have := HSU.out; have := HB.out; simp [IntKind.wrap, IntKind.signed, IntKind.bits]; omega
              have hle2 : p2 ≤ rest.size := by have := HL.out; have := HSU.out; omega
              have HP2 := hid_mk hp2
              clear hp2
              obtain ⟨a', cap', w5, hrun, HS5, HO5⟩ := sts_app (HS3.out.out ((Out.refl 0 0 (wr.iterAt r u (pos + wd))).drew)) (by have := HO3.out.size; exact this) (rest.extract 0 p2) (by have := HB.out; have := HK.out; omega)
              have HS5 := hid_mk HS5
              have HO5 := hid_mk (HO5 w (HO3.out.drew) (Nat.le_refl _))
              clear cq c92
              go_wp2
              refine wp_region_held_drew (S := fun _ => True) (by kernel_rfl) ?hS1 (fun hHeld => ?rest1)
              case hS1 => exact trivial
              refine tk 0 ?_
              refine tk 1 ?_
              refine tk 2 ?_
              refine tk 3 ?_
              refine tk 4 ?_
              refine tk 7 ?_
              refine tk 8 ?_
              refine tk 9 ?_
              refine tk 10 ?_
              refine wpAnyH_ready (rs := [5]) (by kernel_rfl) (by simp) ?_
              refine AllReadyH.cons rfl (fun KK hK => ?_) AllReadyH.nil
              simp only [xa, xb, xc]
              go_simp
              refine hK.out _ _ ?hS11 (fun hHeld2 => ?rest11)
              case hS11 => exact trivial
              clear hK KK
              (try clear hHeld)
              have hHeld := hHeld2
              clear hHeld2
              (try simp only [Act.put, xa, xb, xc, xd, xe, xf])
              refine wpAnyH_ready (rs := [6]) (by kernel_rfl) (by simp) ?_
              refine AllReadyH.cons rfl (fun KK hK => ?_) AllReadyH.nil
              simp only [xa, xb, xc]
              refine app_stepS _ _ _ _ _ rfl _ _ rfl rfl hrun ?_
              refine hK.out _ _ ?hS12 (fun hHeld2 => ?rest12)
              case hS12 => exact trivial
              clear hK KK
              (try clear hHeld)
              have hHeld := hHeld2
              clear hHeld2
              (try simp only [Act.put, xa, xb, xc, xd, xe, xf])
              refine tk 11 ?_
              refine tk 12 ?_
              refine wpAnyH_done (by kernel_rfl) ?_ _
              go_wp2
              go_step3
              have HP := HP2.out
              have hbr : bt (rest.extract p2 rest.size) = (bt u).drop (pos + 1) := by rw [bt_from, HC1.out, HP]; rfl
              obtain ⟨_, hc⟩ := HR.out.one (by have := HC.out; have := HQ.out; omega)
              obtain ⟨e1, e2⟩ := td_at hc
              have hws : wsF (bt s) = (wsA (.shut (bt (rest.extract 0 p2))) (bt (rest.extract p2 rest.size))).map (xs.map bt ++ ·) := by
                rw [HW.out, HG.out, e1, HC.out, ws_qshut, hbr, bt_to, HC1.out, HP, List.take_succ_cons, e2, HC.out]
                rfl
              refine ⟨4 * (rest.extract p2 rest.size).size + 3, ?_, rfl, rfl, xs ++ [rest.extract 0 p2], rest.extract p2 rest.size, k + 1, a', cap', ?_, rfl, rfl, rfl, HS5.out, HO5.out, ?_, .inr (.inr (.inr ⟨rfl, rfl, fun hgp => ?_, fun hgp => ?_⟩))⟩
              · have := HN.out; rw [ByteArray.size_extract]; omega
              · rw [List.length_append, ← HK.out]; rfl
              · have := HB.out; rw [ByteArray.size_extract]; omega
              · rw [hws, ws_shut_gap hgp, Option.map_map, List.map_append, List.map_cons, List.map_nil]
                congr 1
                funext y
                simp
              · rw [hws]
                match hb : bt (rest.extract p2 rest.size), hgp with
                | [], hgp => exact absurd (.inl rfl) hgp
                | c1 :: l1, hgp =>
                  rw [ws_shut_no (fun e => hgp (.inr ⟨_, _, rfl, .inl e⟩)) (fun e => hgp (.inr ⟨_, _, rfl, .inr (.inl e)⟩)) (fun e => hgp (.inr ⟨_, _, rfl, .inr (.inr e)⟩))]
                  rfl
            · have hcq : ((c : Int) == q) = false := by simpa using cq
              have HC := hid_mk (And.intro c92 cq)
              clear cq c92
              go_wp2
              go_roundw
              case rel => exact ⟨rfl, rfl, pos + wd, false, rfl, HH.out, HO3.out, HS3.out, HG.out.trans (HR.out.quote (by have := HQ.out; omega) HC.out.2 HC.out.1), hpw.out⟩
              case measure => rw [iter_pos HH.out, iter_pos HI.out]; exact hme.out
      · have hnx := fun ty => Lib.run_next_end_at (P := Tryz.prog) wr r u pos ty hit hlt
        have he : (bt u).drop pos = [] := List.drop_eq_nil_of_le (by rw [bt_len]; omega)
        have hno : wsA .gap (bt rest) = none := by
          rw [hg, he]
          cases b <;> rfl
        have HNo := hid_mk hno
        clear hit hO2 hst2 hg he hlt hp hno
        go_wp2_with (go_at_call 104; refine calls_stop (awant_no _) ?_)
        rw [jumpQ_panic]
        refine ⟨rfl, HO2.out, .inr ⟨?_, rfl⟩⟩
        rw [HW.out, HNo.out]
        rfl
  case p1 =>
    intro n a wr hJ
    obtain ⟨hd, hsz, xs, rest, k, ta, cap, hk, t3, t5, t6, hst, hO, hb, hcase⟩ := hJ
    obtain ⟨f, rfl, hf⟩ := lit101 hsz hd
    have e3 := hf _ _ t3
    have e5 := hf _ _ t5
    have e6 := hf _ _ t6
    rw [e3, e5, e6]
    clear hf
    clear e3 e5 e6 t3 t5 t6 hsz hd
    have HK := hid_mk hk
    have HST := hid_mk hst
    have HO := hid_mk hO
    have HB := hid_mk hb
    obtain ⟨hn, hws, c0, l0, hc0, k1, k2, k3, k4, k5⟩ : n = 4 * rest.size + 1 ∧ wsF (bt s) = (wsA .gap (bt rest)).map (xs.map bt ++ ·) ∧ ∃ c r, bt rest = c :: r ∧ c ≠ 32 ∧ c ≠ 9 ∧ c ≠ 59 ∧ c ≠ 34 ∧ c ≠ 39 := by
      rcases hcase with ⟨h, _⟩ | ⟨_, h1, h2⟩ | ⟨h, _⟩ | ⟨h, _⟩
      · cases h
      · exact ⟨h1, h2⟩
      · cases h
      · cases h
    have HN := hid_mk hn
    have HW := hid_mk hws
    have HC0 := hid_mk (And.intro hc0 (And.intro k1 (And.intro k2 (And.intro k3 (And.intro k4 k5)))))
    clear hk hst hO hb hcase hn hws hc0 k1 k2 k3 k4 k5
    obtain ⟨r, hr⟩ : ∃ r, wr.heap.size = r := ⟨_, rfl⟩
    have HRr := hid_mk hr
    go_wp2
    (try rw [hr])
    clear hr
    go_loopw [3, 6] (fun u v w2 => u = .slice ta k cap ∧ v = .string rest ∧ ∃ pos, w2.heap[r]? = some (.stringIter rest pos) ∧ Out 0 0 w w2 ∧ Sts w2 w.heap.size (.slice ta k cap) xs ∧ wsA .gap (bt rest) = wsA (.word ((bt rest).take pos)) ((bt rest).drop pos) ∧ pos ≤ rest.size) (fun _ _ w2 => rest.size - w2.iterPos r)
    case atStart =>
      have e := World.iter_heap wr rest 0
      rw [HRr.out] at e
      refine ⟨rfl, rfl, 0, e, HO.out.alloc _, HST.out.out ((Out.refl 0 0 wr).alloc _), ?_, Nat.zero_le _⟩
      obtain ⟨hc0, k1, k2, k3, k4, k5⟩ := HC0.out
      rw [List.take_zero, List.drop_zero, hc0, ws_beg k1 k2 k3 k4 k5, ws_on k1 k2 k3]
      rfl
    case round =>
      obtain ⟨rfl, rfl, pos, hit, hO2, hst2, hg, hp⟩ := hrel
      have HI := hid_mk hit
      have HO2 := hid_mk hO2
      have HS2 := hid_mk hst2
      have HG := hid_mk hg
      by_cases hlt : pos < rest.size
      · have hnx := fun ty => Lib.run_next_any_at (P := Tryz.prog) wr r rest pos ty hit hlt
        have hrn := dec_at rest pos hlt
        obtain ⟨⟨c, wd⟩, hcw⟩ : ∃ q, Utf8.decode rest pos = q := ⟨_, rfl⟩
        rw [hcw] at hrn hnx
        simp only at hrn hnx
        have HR := hid_mk hrn
        have HH := hid_mk (Lib.iterAt_heap wr r rest pos (pos + wd) hit)
        have HL := hid_mk hlt
        have hp1 : pos ≤ rest.size := hp
        have hpw : Hid (pos + wd ≤ rest.size) := hid_mk (by have := hrn.pos; rw [bt_len] at this; omega)
        have HO3 : Hid (Out 0 0 w (wr.iterAt r rest (pos + wd))) := hid_mk (HO2.out.past (out_iter rest _) (by have := HRr.out; have := HO.out.size; omega))
        have HS3 := hid_mk (HS2.out.iter hit (pos + wd))
        clear hit hO2 hst2 hg hrn hcw
        by_cases cb : c = 32 ∨ c = 9 ∨ c = 59
        · have E : Hid (∀ W, Calls Tryz.prog 103 #[.int .i32 (c : Int)] W fun x w' => x = .returned (.bool true) ∧ w' = W) := hid_mk fun W => by have := ends_any c W; rwa [show endR (c : Int) = true from decide_eq_true (by omega)] at this
          have HC := hid_mk cb
          clear cb
          obtain ⟨a', cap', w5, hrun, HS5, HO5⟩ := sts_app (HS3.out.out ((Out.refl 0 0 (wr.iterAt r rest (pos + wd))).drew)) (by have := HO3.out.size; exact this) (rest.extract 0 pos) (by have := HB.out; have := HK.out; omega)
          have HS5 := hid_mk HS5
          have HO5 := hid_mk (HO5 w (HO3.out.drew) (Nat.le_refl _))
          go_wp2_with (first | (go_at_call 103; refine calls_same (E.out _) ?_) | fail)
          refine wp_region_held_drew (S := fun _ => True) (by kernel_rfl) ?hS15 (fun hHeld => ?rest15)
          case hS15 => exact trivial
          refine tk 0 ?_
          refine tk 1 ?_
          refine tk 2 ?_
          refine tk 3 ?_
          refine tk 6 ?_
          refine tk 7 ?_
          refine tk 8 ?_
          refine wpAnyH_ready (rs := [4]) (by kernel_rfl) (by simp) ?_
          refine AllReadyH.cons rfl (fun KK hK => ?_) AllReadyH.nil
          simp only [xa, xb, xc]
          go_simp
          refine hK.out _ _ ?hS23 (fun hHeld2 => ?rest23)
          case hS23 => exact trivial
          clear hK KK
          (try clear hHeld)
          have hHeld := hHeld2
          clear hHeld2
          (try simp only [Act.put, xa, xb, xc, xd, xe, xf])
          refine wpAnyH_ready (rs := [5]) (by kernel_rfl) (by simp) ?_
          refine AllReadyH.cons rfl (fun KK hK => ?_) AllReadyH.nil
          simp only [xa, xb, xc]
          refine app_stepS _ _ _ _ _ rfl _ _ rfl rfl hrun ?_
          refine hK.out _ _ ?hS24 (fun hHeld2 => ?rest24)
          case hS24 => exact trivial
          clear hK KK
          (try clear hHeld)
          have hHeld := hHeld2
          clear hHeld2
          (try simp only [Act.put, xa, xb, xc, xd, xe, xf])
          refine tk 9 ?_
          refine tk 10 ?_
          refine wpAnyH_done (by kernel_rfl) ?_ _
          go_wp2
          go_step3
          refine ⟨4 * (rest.extract pos rest.size).size + 2, ?_, rfl, rfl, xs ++ [rest.extract 0 pos], rest.extract pos rest.size, k + 1, a', cap', ?_, rfl, rfl, rfl, HS5.out, HO5.out, ?_, .inl ⟨rfl, rfl, ?_⟩⟩
          · have := HN.out
            rw [ByteArray.size_extract]
            rcases Nat.eq_zero_or_pos pos with h0 | h0
            · subst h0
              obtain ⟨hc0, k1, k2, k3, k4, k5⟩ := HC0.out
              obtain ⟨_, hc⟩ := HR.out.one (by have := HC.out; omega)
              rw [hc0] at hc
              have := Option.some.inj hc
              have := HC.out
              omega
            · omega
          · rw [List.length_append, ← HK.out]; rfl
          · have := HB.out; have := HL.out
            rw [ByteArray.size_extract]
            rcases Nat.eq_zero_or_pos pos with h0 | h0
            · subst h0
              obtain ⟨hc0, k1, k2, k3, k4, k5⟩ := HC0.out
              obtain ⟨_, hc⟩ := HR.out.one (by have := HC.out; omega)
              rw [hc0] at hc
              have := Option.some.inj hc
              have := HC.out
              omega
            · omega
          · obtain ⟨_, hc⟩ := HR.out.one (by have := HC.out; omega)
            have ht := (td_at hc).1
            rw [HW.out, HG.out, bt_from, ht, ws_end (by have := HC.out; omega), Option.map_map, List.map_append, List.map_cons, List.map_nil, bt_to]
            congr 1
            funext y
            simp
        · have E : Hid (∀ W, Calls Tryz.prog 103 #[.int .i32 (c : Int)] W fun x w' => x = .returned (.bool false) ∧ w' = W) := hid_mk fun W => by have := ends_any c W; rwa [show endR (c : Int) = false from decide_eq_false (by omega)] at this
          have HC := hid_mk cb
          clear cb
          go_wp2_with (go_at_call 103; refine calls_same (E.out _) ?_)
          go_roundw
          case rel => exact ⟨rfl, rfl, pos + wd, HH.out, HO3.out, HS3.out, HG.out.trans (HR.out.word (by have := HC.out; omega) (by have := HC.out; omega) (by have := HC.out; omega)), hpw.out⟩
          case measure =>
            rw [iter_pos HH.out, iter_pos HI.out]
            have := HR.out.pos; have := HL.out; omega
      · have hnx := fun ty => Lib.run_next_end_at (P := Tryz.prog) wr r rest pos ty hit hlt
        have he : (bt rest).drop pos = [] := List.drop_eq_nil_of_le (by rw [bt_len]; omega)
        have he2 : (bt rest).take pos = bt rest := List.take_of_length_le (by rw [bt_len]; omega)
        have HE := hid_mk he
        have HE2 := hid_mk he2
        obtain ⟨a', cap', w5, hrun, HS5, HO5⟩ := sts_app HS2.out (by have := HO2.out.size; exact this) rest (by have := HB.out; have := HK.out; omega)
        have HS5 := hid_mk HS5
        have HO5 := hid_mk (HO5 w HO2.out (Nat.le_refl _))
        clear hit hO2 hst2 hg he hlt hp he2
        go_wp2_with (at_builtin; refine wpList_appS rfl _ _ _ _ rfl rfl rfl hrun ?_)
        rw [jumpQ_ret]
        go_ret
        have hkk : k + 1 = (xs ++ [rest]).length := by rw [List.length_append, ← HK.out]; rfl
        refine ⟨HO5.out, .inl ⟨xs ++ [rest], a', cap', ?_, by exact congrArg (fun n => Ending.returned (Value.slice a' n cap')) hkk, hkk ▸ HS5.out⟩⟩
        rw [HW.out, HG.out, HE.out, HE2.out]
        simp [wsA]
  case p2 =>
    intro n a wr hJ
    obtain ⟨hd, hsz, xs, rest, k, ta, cap, hk, t3, t5, t6, hst, hO, hb, hcase⟩ := hJ
    obtain ⟨f, rfl, hf⟩ := lit101 hsz hd
    have e3 := hf _ _ t3
    have e5 := hf _ _ t5
    have e6 := hf _ _ t6
    rw [e3, e5, e6]
    clear e3 e5 e6 t3 t5 t6 hf hsz hd
    have HK := hid_mk hk
    have HST := hid_mk hst
    have HO := hid_mk hO
    have HB := hid_mk hb
    obtain ⟨hn, hws⟩ : n = 4 * rest.size + 2 ∧ wsF (bt s) = (wsA .gap (bt rest)).map (xs.map bt ++ ·) := by
      rcases hcase with ⟨_, h1, h2⟩ | ⟨h, _⟩ | ⟨h, _⟩ | ⟨h, _⟩
      · exact ⟨h1, h2⟩
      · cases h
      · cases h
      · cases h
    have HN := hid_mk hn
    have HW := hid_mk hws
    clear hk hst hO hb hcase hn hws
    obtain ⟨r, hr⟩ : ∃ r, wr.heap.size = r := ⟨_, rfl⟩
    have HRr := hid_mk hr
    go_wp2
    (try rw [hr])
    clear hr
    go_loopw [6] (fun v w2 => v = .string rest ∧ ∃ pos, w2.heap[r]? = some (.stringIter rest pos) ∧ Out 0 0 w w2 ∧ Sts w2 w.heap.size (.slice ta k cap) xs ∧ wsA .gap (bt rest) = wsA .gap ((bt rest).drop pos) ∧ pos ≤ rest.size) (fun _ w2 => rest.size - w2.iterPos r)
    case atStart =>
      have e := World.iter_heap wr rest 0
      rw [HRr.out] at e
      exact ⟨rfl, 0, e, HO.out.alloc _, HST.out.out ((Out.refl 0 0 wr).alloc _), rfl, Nat.zero_le _⟩
    case round =>
      obtain ⟨rfl, pos, hit, hO2, hst2, hg, hp⟩ := hrel
      have HI := hid_mk hit
      have HO2 := hid_mk hO2
      have HS2 := hid_mk hst2
      have HG := hid_mk hg
      by_cases hlt : pos < rest.size
      · have hnx := fun ty => Lib.run_next_any_at (P := Tryz.prog) wr r rest pos ty hit hlt
        have hrn := dec_at rest pos hlt
        obtain ⟨⟨c, wd⟩, hcw⟩ : ∃ q, Utf8.decode rest pos = q := ⟨_, rfl⟩
        rw [hcw] at hrn hnx
        simp only at hrn hnx
        have HR := hid_mk hrn
        have HH := hid_mk (Lib.iterAt_heap wr r rest pos (pos + wd) hit)
        have HL := hid_mk hlt
        have hp1 : pos ≤ rest.size := hp
        have hpw : Hid (pos + wd ≤ rest.size) := hid_mk (by have := hrn.pos; rw [bt_len] at this; omega)
        have HO3 : Hid (Out 0 0 w (wr.iterAt r rest (pos + wd))) := hid_mk (HO2.out.past (out_iter rest _) (by have := HRr.out; have := HO.out.size; omega))
        have HS3 := hid_mk (HS2.out.iter hit (pos + wd))
        clear hit hO2 hst2 hg hrn hcw
        by_cases c59 : c = 59
        · have h59 : ((c : Int) == 59) = true := by rw [c59]; rfl
          have HC := hid_mk c59
          clear c59
          go_wp2
          rw [jumpQ_ret]
          go_ret
          refine ⟨HO3.out, .inl ⟨xs, ta, cap, ?_, by exact congrArg (fun n => Ending.returned (Value.slice ta n cap)) HK.out, HK.out ▸ HS3.out⟩⟩
          obtain ⟨_, hc⟩ := HR.out.one (by have := HC.out; omega)
          rw [HW.out, HG.out, (td_at hc).1, HC.out]
          simp only [show ((59 : Nat) : Int) = 59 from rfl, ws_semi, Option.map_some, List.append_nil]
        have h59 : ((c : Int) == 59) = false := by simp only [beq_eq_false_iff_ne, ne_eq]; omega
        by_cases cq : c = 34 ∨ c = 39
        · have HC := hid_mk (And.intro c59 cq)
          have h2 : Hid (bt (rest.extract pos rest.size) = (c : Int) :: (bt rest).drop (pos + 1)) := hid_mk (by rw [bt_from]; exact (td_at (HR.out.one (by omega)).2).1)
          rcases cq with cq | cq
          · have h34 : ((c : Int) == 34) = true := by rw [cq]; rfl
            clear c59 cq
            go_wp2
            go_step3
            refine ⟨4 * (rest.extract pos rest.size).size + 1, ?_, rfl, rfl, xs, rest.extract pos rest.size, k, ta, cap, HK.out, rfl, rfl, rfl, HS3.out, HO3.out, ?_, .inr (.inr (.inl ⟨rfl, rfl, ?_, (c : Int), _, h2.out, by have := HC.out; omega, rfl⟩))⟩
            · have := HN.out; rw [ByteArray.size_extract]; omega
            · have := HB.out; rw [ByteArray.size_extract]; omega
            · rw [HW.out, HG.out, bt_from]
          · have h34 : ((c : Int) == 34) = false := by rw [cq]; rfl
            have h39 : ((c : Int) == 39) = true := by rw [cq]; rfl
            clear c59 cq
            go_wp2
            go_step3
            refine ⟨4 * (rest.extract pos rest.size).size + 1, ?_, rfl, rfl, xs, rest.extract pos rest.size, k, ta, cap, HK.out, rfl, rfl, rfl, HS3.out, HO3.out, ?_, .inr (.inr (.inl ⟨rfl, rfl, ?_, (c : Int), _, h2.out, by have := HC.out; omega, rfl⟩))⟩
            · have := HN.out; rw [ByteArray.size_extract]; omega
            · have := HB.out; rw [ByteArray.size_extract]; omega
            · rw [HW.out, HG.out, bt_from]
        have h34 : ((c : Int) == 34) = false := by simp only [beq_eq_false_iff_ne, ne_eq]; omega
        have h39 : ((c : Int) == 39) = false := by simp only [beq_eq_false_iff_ne, ne_eq]; omega
        by_cases cb : c = 32 ∨ c = 9
        · have E : Hid (∀ W, Calls Tryz.prog 103 #[.int .i32 (c : Int)] W fun x w' => x = .returned (.bool true) ∧ w' = W) := hid_mk fun W => by have := ends_any c W; rwa [show endR (c : Int) = true from decide_eq_true (by omega)] at this
          have HC := hid_mk cb
          clear c59 cq cb
          go_wp2_with (go_at_call 103; refine calls_same (E.out _) ?_)
          go_roundw
          case rel =>
            obtain ⟨hw1, hc⟩ := HR.out.one (by have := HC.out; omega)
            refine ⟨rfl, pos + wd, HH.out, HO3.out, HS3.out, ?_, hpw.out⟩
            rw [hw1]
            exact ws_gaps hc (by have := HC.out; omega) HG.out
          case measure =>
            rw [iter_pos HH.out, iter_pos HI.out]
            have := HR.out.pos; have := HL.out; omega
        · have E : Hid (∀ W, Calls Tryz.prog 103 #[.int .i32 (c : Int)] W fun x w' => x = .returned (.bool false) ∧ w' = W) := hid_mk fun W => by have := ends_any c W; rwa [show endR (c : Int) = false from decide_eq_false (by omega)] at this
          have HC := hid_mk (And.intro c59 (And.intro cq cb))
          clear c59 cq cb
          go_wp2_with (go_at_call 103; refine calls_same (E.out _) ?_)
          go_step3
          refine ⟨4 * (rest.extract pos rest.size).size + 1, ?_, rfl, rfl, xs, rest.extract pos rest.size, k, ta, cap, HK.out, rfl, rfl, rfl, HS3.out, HO3.out, ?_, .inr (.inl ⟨rfl, rfl, ?_, ?_⟩)⟩
          · have := HN.out; rw [ByteArray.size_extract]; omega
          · have := HB.out; rw [ByteArray.size_extract]; omega
          · rw [HW.out, HG.out, bt_from]
          · rw [bt_from]
            have := HC.out
            exact HR.out.begins (by omega) (by omega) (by omega) (by omega) (by omega)
      · have hnx := fun ty => Lib.run_next_end_at (P := Tryz.prog) wr r rest pos ty hit hlt
        have he : (bt rest).drop pos = [] := List.drop_eq_nil_of_le (by rw [bt_len]; omega)
        have HE := hid_mk he
        clear hit hO2 hst2 hg he hlt hp
        go_wp2
        rw [jumpQ_ret]
        go_ret
        refine ⟨HO2.out, .inl ⟨xs, ta, cap, ?_, by exact congrArg (fun n => Ending.returned (Value.slice ta n cap)) HK.out, HK.out ▸ HS2.out⟩⟩
        rw [HW.out, HG.out, HE.out]
        simp only [wsA, Option.map_some, List.append_nil]
  case p3 =>
    intro n a wr hJ
    obtain ⟨hd, hsz, xs, rest, k, ta, cap, hk, t3, t5, t6, hst, hO, hb, hcase⟩ := hJ
    obtain ⟨f, rfl, hf⟩ := lit101 hsz hd
    have e3 := hf _ _ t3
    have e5 := hf _ _ t5
    have e6 := hf _ _ t6
    rw [e3, e5, e6]
    clear hf
    clear e3 e5 e6 t3 t5 t6 hsz hd
    have HK := hid_mk hk
    have HST := hid_mk hst
    have HO := hid_mk hO
    have HB := hid_mk hb
    obtain ⟨hn, hgy, hgn⟩ : n = 4 * rest.size + 3 ∧ (Gp (bt rest) → wsF (bt s) = (wsA .gap (bt rest)).map (xs.map bt ++ ·)) ∧ (¬ Gp (bt rest) → wsF (bt s) = none) := by
      rcases hcase with ⟨h, _⟩ | ⟨h, _⟩ | ⟨h, _⟩ | ⟨_, h1⟩
      · cases h
      · cases h
      · cases h
      · exact h1
    have HN := hid_mk hn
    have HY := hid_mk hgy
    have HNo := hid_mk hgn
    clear hk hst hO hb hcase hn hgy hgn
    by_cases hb : bt rest = []
    · have h2 : rest.toList.isEmpty = true := by rw [bt_empty, hb]; rfl
      have HG : Hid (Gp (bt rest)) := hid_mk (.inl hb)
      clear hb
      go_wp2_with (go_at_call 104; refine calls_same (awant_yes _) ?_)
      go_step3
      exact ⟨4 * rest.size + 2, by have := HN.out; omega, rfl, rfl, xs, rest, k, ta, cap, HK.out, rfl, rfl, rfl, HST.out, HO.out, HB.out, .inl ⟨rfl, rfl, HY.out HG.out⟩⟩
    have hpos : 0 < rest.size := by
      rcases Nat.eq_zero_or_pos rest.size with h | h
      · exact absurd (List.eq_nil_of_length_eq_zero (by rw [bt_len]; exact h)) hb
      · exact h
    have h2 : rest.toList.isEmpty = false := by rw [bt_empty]; exact decide_eq_false hb
    have hh := bt_get hpos
    obtain ⟨l1, hl1⟩ : ∃ l1, bt rest = ((rest[0]'hpos).toNat : Int) :: l1 := ⟨_, by have := (td_at hh).1; rwa [List.drop_zero] at this⟩
    have hcv : wrap32 ((rest[0]'hpos).toNat : Int) = ((rest[0]'hpos).toNat : Int) := by have := (rest[0]'hpos).toNat_lt; unfold wrap32; omega
    by_cases hG : Gp (bt rest)
    · have he : endR ((rest[0]'hpos).toNat : Int) = true := by
        rcases hG with h | ⟨c, r, h, h3⟩
        · exact absurd h hb
        · rw [hl1] at h
          have e := (List.cons.inj h).1
          unfold endR
          rw [e]
          exact decide_eq_true h3
      have E : Hid (∀ W, Calls Tryz.prog 103 #[.int .i32 ((rest[0]'hpos).toNat : Int)] W fun x w' => x = .returned (.bool true) ∧ w' = W) := hid_mk fun W => by have := ends_any ((rest[0]'hpos).toNat : Int) W; rwa [he] at this
      have HG := hid_mk hG
      clear hb hh hl1 hG he
      go_wp2_with (first | (go_at_call 103; (try rw [hcv]); refine calls_same (E.out _) ?_) | (go_at_call 104; refine calls_same (awant_yes _) ?_))
      go_step3
      exact ⟨4 * rest.size + 2, by have := HN.out; omega, rfl, rfl, xs, rest, k, ta, cap, HK.out, rfl, rfl, rfl, HST.out, HO.out, HB.out, .inl ⟨rfl, rfl, HY.out HG.out⟩⟩
    · have he : endR ((rest[0]'hpos).toNat : Int) = false := by
        refine decide_eq_false fun h3 => hG (.inr ⟨_, _, hl1, h3⟩)
      have E : Hid (∀ W, Calls Tryz.prog 103 #[.int .i32 ((rest[0]'hpos).toNat : Int)] W fun x w' => x = .returned (.bool false) ∧ w' = W) := hid_mk fun W => by have := ends_any ((rest[0]'hpos).toNat : Int) W; rwa [he] at this
      have HG := hid_mk hG
      clear hb hh hl1 hG he
      go_wp2_with (first | (go_at_call 103; (try rw [hcv]); refine calls_same (E.out _) ?_) | (go_at_call 104; refine calls_stop (awant_no _) ?_))
      rw [jumpQ_panic]
      exact ⟨rfl, HO.out, .inr ⟨HNo.out HG.out, rfl⟩⟩
end Go.Proofs.YtcnjlbjpeklgkaaGreatDoor
