import Derived.Test.YtapjfokkcgdhhaaDoorQam
import Derived.Test.YtapjfokkcgdhhaaDoorQat
import Derived.Test.YtapjfokkcgdhhaaDoorQbg
import Derived.Test.YtapjfokkcgdhhaaDoorQbh
import Derived.Test.YtapjfokkcgdhhaaDoorQbf
import Derived.Deep.Cut
namespace Go.Proofs.YtapjfokkcgdhhaaDoor
open Go.RowKit
set_option linter.unusedVariables false
set_option linter.unusedSimpArgs false

/-- what fits answers -/
def FtW (w : World) (nt nf : Nat) (ts : List (List Int)) (fs : List (Int × Int × Int × List (Int × Int))) (e : Ending) (w' : World) : Prop := (∃ b, e = .returned (.bool b) ∧ (b = true → (nt : Int) + (nf : Int) ≤ 300000 ∧ (∀ f ∈ fs, (f.2.2.2.length : Int) ≤ 300000) ∧ ∀ t ∈ ts, (t.length : Int) ≤ 300000)) ∧ Out 0 0 w w'
theorem lt_upW {ts : List (List Int)} {j : Nat} {t : List Int} {N : Int} {l : Nat} (hf : ts[j]? = some t) (hl : t.length = l) (h : ∀ e ∈ ts.take j, (e.length : Int) ≤ N) (h0 : 0 ≤ N) : ∀ e ∈ ts.take (j + 1), (e.length : Int) ≤ N + l := by
  intro e he
  rw [List.take_add_one, hf] at he
  rcases List.mem_append.1 he with q | q
  · have := h e q; omega
  · simp at q; subst q; omega
theorem FtW.mk' {w w' : World} {nt nf : Nat} {ts : List (List Int)} {fs : List (Int × Int × Int × List (Int × Int))} {b : Bool} (h : b = true → (nt : Int) + (nf : Int) ≤ 300000 ∧ (∀ f ∈ fs, (f.2.2.2.length : Int) ≤ 300000) ∧ ∀ t ∈ ts, (t.length : Int) ≤ 300000) (o : Out 0 0 w w') : FtW w nt nf ts fs (.returned (.bool b)) w' := ⟨⟨b, rfl, h⟩, o⟩
theorem le_upW {fs : List (Int × Int × Int × List (Int × Int))} {j : Nat} {f : Int × Int × Int × List (Int × Int)} {N : Int} {l : Nat} (hf : fs[j]? = some f) (hl : f.2.2.2.length = l) (h : ∀ e ∈ fs.take j, (e.2.2.2.length : Int) ≤ N) (h0 : 0 ≤ N) : ∀ e ∈ fs.take (j + 1), (e.2.2.2.length : Int) ≤ N + l := by
  intro e he
  rw [List.take_add_one, hf] at he
  rcases List.mem_append.1 he with q | q
  · have := h e q; omega
  · simp at q; subst q; omega
set_option maxRecDepth 100000 in
set_option maxHeartbeats 2000000 in
theorem fitsW_any {w : World} {B : Nat} (x : Int) (ts : List (List Int)) (fs : List (Int × Int × Int × List (Int × Int))) (ta fa : Option Addr) (nt nf tc fc : Nat) (hnt : ts.length = nt) (hnf : fs.length = nf) (hts : TxIn w B ta ts) (hfs : FnIn w B fa fs) (h1 : Lim nt) (h2 : Lim nf) (h3 : ∀ t ∈ ts, Lim t.length) (h4 : ∀ f ∈ fs, Lim f.2.2.2.length) :
    Calls Tryd.prog 8 #[.agg #[.int .i64 x, .slice ta nt tc, .slice fa nf fc]] w fun e w' => FtW w nt nf ts fs e w' := by
  have HA := hid_mk (Bl.new w #[.int .i64 x, .slice ta nt tc, .slice fa nf fc] 35)
  have HO := hid_mk ((Out.refl 0 0 w).alloc (.cells #[.int .i64 x, .slice ta nt tc, .slice fa nf fc] 35))
  obtain ⟨V, hV⟩ : ∃ V, w.alloc (.cells #[.int .i64 x, .slice ta nt tc, .slice fa nf fc] 35) = V := ⟨_, rfl⟩
  rw [hV] at HA HO
  have HT := hid_mk (hts.kept (Lo.of_out HO.out) (Nat.le_refl _))
  have HF := hid_mk (hfs.kept (Lo.of_out HO.out) (Nat.le_refl _))
  have HN := hid_mk (And.intro hnt hnf)
  have HL3 := hid_mk h3
  have HL4 := hid_mk h4
  have hws := sum_wrap (a := (nt : Int)) (b := (nf : Int)) (by omega) h1 (by omega) h2
  have HL : Hid (Lim nt ∧ Lim nf) := hid_mk ⟨h1, h2⟩
  obtain ⟨p, hp⟩ : ∃ p, w.heap.size = p := ⟨_, rfl⟩
  rw [hp] at HA
  have a1 := HA.out.cell (i := 1) rfl
  have a2 := HA.out.cell (i := 2) rfl
  clear hts hfs hnt hnf h1 h2 h3 h4
  go_enter Tryd.func8, Tryd.ntmps8
  go_wp2_with fail
  (try rw [hV])
  (try rw [hp])
  have HWS := hid_mk hws
  have HWS := hid_mk hws
  clear hV hp hws
  go_loopw [3, 4] (fun nv iv wr => ∃ (i : Nat) (N : Int), iv = .int .i64 i ∧ i ≤ nt ∧ nv = .int .i64 N ∧ (nt : Int) + (nf : Int) ≤ N ∧ N ≤ 4611686018427387904 ∧ (∀ e ∈ ts.take i, (e.length : Int) ≤ N) ∧ wr = V) (fun _ iv _ => nt - (intOf iv).toNat)
  case atStart => exact ⟨0, _, rfl, Nat.zero_le _, rfl, by rw [HWS.out]; exact Int.le_refl _, by rw [HWS.out]; have := HL.out; unfold Lim at this; omega, (by simp), rfl⟩
  case round =>
    obtain ⟨i, N, rfl, him, rfl, hN1, hN2, hN3, hwr⟩ := hrel
    subst hwr
    have HN3 := hid_mk hN3
    clear hN3
    have HN1 := hid_mk hN1
    have HN2 := hid_mk hN2
    clear hN1 hN2 HWS
    by_cases hi : i < nt
    · have g1 : (i : Int) < (nt : Int) := by omega
      by_cases hN : N ≤ 300000
      · have hNd : decide (N ≤ 300000) = true := by simpa using hN
        obtain ⟨t, ht⟩ : ∃ t, ts[i]? = some t := ⟨_, List.getElem?_eq_getElem (by have := HN.out.1; omega)⟩
        rcases HT.out with h0 | ⟨g, off, rfl, hg, hc⟩
        · rw [h0] at ht; cases ht
        obtain ⟨pj, cj, c0, hby⟩ := hc i _ ht
        obtain ⟨lt, hlt⟩ : ∃ k, t.length = k := ⟨_, rfl⟩
        rw [hlt] at c0
        have hlim : Hid ((lt : Int) ≤ 2305843009213693952) := hid_mk (by have := HL3.out _ (List.mem_of_getElem? ht); unfold Lim at this; rw [hlt] at this; exact this)
        have HW := hid_mk (sum_wrap (a := N) (b := (lt : Int)) (by have := HN1.out; omega) (by omega) (by omega) hlim.out)
        have HNl := hid_mk hN
        have HUt := hid_mk (lt_upW ht hlt HN3.out (by have := HN1.out; omega))
        have nb : (nt : Int) ≤ 300000 := by have := HN1.out; omega
        clear ht hc hby hlt hg hN
        go_wp2
        go_roundw
        case rel => exact ⟨i + 1, N + lt, by go_num, by omega, by rw [HW.out], by have := HN1.out; omega, by have := hlim.out; have := HNl.out; omega, HUt.out, trivial⟩
        case measure => simp [intOf]; omega
      · have hNd : decide (N ≤ 300000) = false := by simpa using hN
        have HNg : Hid (300000 < N) := hid_mk (by omega)
        clear hN
        go_wp2
        go_loopw [3, 5] (fun nv jv wz => ∃ (j : Nat) (M : Int), jv = .int .i64 j ∧ j ≤ nf ∧ nv = .int .i64 M ∧ (nt : Int) + (nf : Int) ≤ M ∧ M ≤ 4611686018427387904 ∧ (∀ e ∈ fs.take j, (e.2.2.2.length : Int) ≤ M) ∧ 300000 < M ∧ wz = wr) (fun _ jv _ => nf - (intOf jv).toNat)
        case atStart => exact ⟨0, N, rfl, Nat.zero_le _, rfl, HN1.out, HN2.out, (by simp), HNg.out, rfl⟩
        case round =>
          obtain ⟨j, M, rfl, hjm, rfl, hM1, hM2, hM3, hM4, hwr⟩ := hrel
          subst hwr
          have HM1 := hid_mk hM1
          have HM2 := hid_mk hM2
          have HM3 := hid_mk hM3
          have HM4 := hid_mk hM4
          clear hM1 hM2 hM3 hM4
          by_cases hj : j < nf
          · have g2 : (j : Int) < (nf : Int) := by omega
            by_cases hM : M ≤ 300000
            · have hMd : decide (M ≤ 300000) = true := by simpa using hM
              obtain ⟨⟨f1, f2, f3, fl⟩, hf⟩ : ∃ t, fs[j]? = some t := ⟨_, List.getElem?_eq_getElem (by have := HN.out.2; omega)⟩
              rcases HF.out with h0 | ⟨g, off, rfl, hg, hc⟩
              · rw [h0] at hf; cases hf
              obtain ⟨pj, cj, c0, c1, c2, c3, hin⟩ := hc j _ hf
              dsimp only at c3
              obtain ⟨lf, hlf⟩ : ∃ k, fl.length = k := ⟨_, rfl⟩
              rw [hlf] at c3
              have hlim : Hid ((lf : Int) ≤ 2305843009213693952) := hid_mk (by have := HL4.out _ (List.mem_of_getElem? hf); unfold Lim at this; dsimp only at this; rw [hlf] at this; exact this)
              have HW := hid_mk (sum_wrap (a := M) (b := (lf : Int)) (by have := HM1.out; omega) (by omega) (by omega) hlim.out)
              have HU := hid_mk (le_upW hf hlf HM3.out (by have := HM1.out; omega))
              have HMl := hid_mk hM
              have nb : (nf : Int) ≤ 300000 := by have := HM1.out; omega
              clear hf hc c0 c1 c2 hin hlf hg hM
              go_wp2
              go_roundw
              case rel => exact ⟨j + 1, M + lf, by go_num, by omega, by rw [HW.out], by have := HM1.out; omega, by have := hlim.out; have := HMl.out; omega, HU.out, by have := HM4.out; omega, trivial⟩
              case measure => simp [intOf]; omega
            · have hMd : decide (M ≤ 300000) = false := by simpa using hM
              have HM0 := hid_mk hM
              clear hM
              go_wp2
              go_ret
              exact FtW.mk' (fun q => by cases q) HO.out
          · have hjE : j = nf := by omega
            subst hjE
            have g2 : ¬ ((j : Int) < (j : Int)) := by omega
            go_wp2
            go_ret
            refine FtW.mk' (fun q => ?_) HO.out
            have q' : M ≤ 300000 := by simpa using q
            have := HM4.out; omega
    · have hiE : i = nt := by omega
      subst hiE
      have g1 : ¬ ((i : Int) < (i : Int)) := by omega
      go_wp2
      go_loopw [3, 5] (fun nv jv wz => ∃ (j : Nat) (M : Int), jv = .int .i64 j ∧ j ≤ nf ∧ nv = .int .i64 M ∧ (i : Int) + (nf : Int) ≤ M ∧ M ≤ 4611686018427387904 ∧ (∀ e ∈ fs.take j, (e.2.2.2.length : Int) ≤ M) ∧ (∀ e ∈ ts, (e.length : Int) ≤ M) ∧ wz = wr) (fun _ jv _ => nf - (intOf jv).toNat)
      case atStart => exact ⟨0, N, rfl, Nat.zero_le _, rfl, HN1.out, HN2.out, (by simp), (by have := HN3.out; rw [take_all HN.out.1] at this; exact this), rfl⟩
      case round =>
        obtain ⟨j, M, rfl, hjm, rfl, hM1, hM2, hM3, hM4, hwr⟩ := hrel
        subst hwr
        have HM1 := hid_mk hM1
        have HM2 := hid_mk hM2
        have HM3 := hid_mk hM3
        have HM4 := hid_mk hM4
        clear hM1 hM2 hM3 hM4
        by_cases hj : j < nf
        · have g2 : (j : Int) < (nf : Int) := by omega
          by_cases hM : M ≤ 300000
          · have hMd : decide (M ≤ 300000) = true := by simpa using hM
            obtain ⟨⟨f1, f2, f3, fl⟩, hf⟩ : ∃ t, fs[j]? = some t := ⟨_, List.getElem?_eq_getElem (by have := HN.out.2; omega)⟩
            rcases HF.out with h0 | ⟨g, off, rfl, hg, hc⟩
            · rw [h0] at hf; cases hf
            obtain ⟨pj, cj, c0, c1, c2, c3, hin⟩ := hc j _ hf
            dsimp only at c3
            obtain ⟨lf, hlf⟩ : ∃ k, fl.length = k := ⟨_, rfl⟩
            rw [hlf] at c3
            have hlim : Hid ((lf : Int) ≤ 2305843009213693952) := hid_mk (by have := HL4.out _ (List.mem_of_getElem? hf); unfold Lim at this; dsimp only at this; rw [hlf] at this; exact this)
            have HW := hid_mk (sum_wrap (a := M) (b := (lf : Int)) (by have := HM1.out; omega) (by omega) (by omega) hlim.out)
            have HU := hid_mk (le_upW hf hlf HM3.out (by have := HM1.out; omega))
            have HMl := hid_mk hM
            have nb : (nf : Int) ≤ 300000 := by have := HM1.out; omega
            clear hf hc c0 c1 c2 hin hlf hg hM
            go_wp2
            go_roundw
            case rel => exact ⟨j + 1, M + lf, by go_num, by omega, by rw [HW.out], by have := HM1.out; omega, by have := hlim.out; have := HMl.out; omega, HU.out, (fun e he => by have := HM4.out e he; omega), trivial⟩
            case measure => simp [intOf]; omega
          · have hMd : decide (M ≤ 300000) = false := by simpa using hM
            have HM0 := hid_mk hM
            clear hM
            go_wp2
            go_ret
            exact FtW.mk' (fun q => by cases q) HO.out
        · have hjE : j = nf := by omega
          subst hjE
          have g2 : ¬ ((j : Int) < (j : Int)) := by omega
          go_wp2
          go_ret
          refine FtW.mk' (fun q => ?_) HO.out
          have q' : M ≤ 300000 := by simpa using q
          refine ⟨Int.le_trans HM1.out q', (fun f hf => Int.le_trans (HM3.out f ?_) q'), fun t ht => Int.le_trans (HM4.out t ht) q'⟩
          rw [take_all HN.out.2]; exact hf
end Go.Proofs.YtapjfokkcgdhhaaDoor
namespace Go.Proofs.YtapjfokkcgdhhaaDoor
open Go.RowKit
set_option linter.unusedVariables false
set_option linter.unusedSimpArgs false

/-- what 'writes' leaves -/
def WsQ (v2 v3 : Value) (w : World) (lo bk n : Nat) (ra : Option Addr) (rk : Nat) (wa : Option Addr) (wk : Nat) (rvs wvs : List Value) (ls : List (List Int)) (e : Ending) (w' : World) : Prop := e = .returned (.bool true) ∧ Fx (fun k => k = bk ∨ (Value.slice ra n rk).ownBlock = some k ∨ (Value.slice wa n wk).ownBlock = some k) w w' ∧ ∃ ra' rk' wa' wk' v u t, KR v2 v3 w' lo bk (n + 1) (n + 1) ra' rk' wa' wk' (rvs ++ [v]) (wvs ++ [u]) (ls ++ [t]) (ls ++ [t]) ∧ t.length ≤ 65536 ∧ (∀ k, v.ownBlock = some k → w.heap.size ≤ k) ∧ (∀ k, (Value.slice ra' (n + 1) rk').ownBlock = some k → (Value.slice ra n rk).ownBlock = some k ∨ w.heap.size ≤ k) ∧ ∀ k, (Value.slice wa' (n + 1) wk').ownBlock = some k → (Value.slice wa n wk).ownBlock = some k ∨ w.heap.size ≤ k
/-- the program is one that is played -/
def PlP (x : Int) (ts : List (List Int)) (fs : List (Int × Int × Int × List (Int × Int))) : Prop := ts.length + fs.length ≤ 300000 ∧ (∀ f ∈ fs, f.2.2.2.length ≤ 300000) ∧ (∀ t ∈ ts, t.length ≤ 300000) ∧ ∀ f ∈ fs, MI f.2.2.2
theorem wr_len (P : Int × List (List Int) × List (Int × Int × Int × List (Int × Int))) : (wrB P).length ≤ 65536 := by
  by_cases hk : okP P
  · by_cases hl : (encP P).length ≤ 65536
    · rw [(wr_ok hk hl).2]; exact hl
    · rw [(wr_long hk (by omega)).2]; simp
  · rw [(wr_form hk).2]; simp
theorem li_of {n : Nat} (h : n ≤ 300000) : Li n := by unfold Li; omega
theorem own_txl {w : World} {lo l2 K c : Nat} {a : Option Addr} {t : List Int} (hB : Byt t) (h : w.ownsRow lo 5 1 (.slice a K c) K (bvs t)) (hK : t.length = K) (hl : l2 ≤ lo) : TxL w l2 [] (.slice a K c) t := by
  subst hK
  exact txl_nil.2 ⟨hB, a, c, rfl, Go.Joins.ownsRow_le h hl⟩
theorem mi_turn {P L C : Int} {y : Int × Int} {cd : List (Int × Int)} {fs : List (Int × Int × Int × List (Int × Int))} (h : ∀ f ∈ (P, L, C, y :: cd) :: fs, MI f.2.2.2) : ∀ f ∈ (P, 3, C, (1, 77) :: cd) :: fs, MI f.2.2.2 := by
  intro f hf
  rcases List.mem_cons.1 hf with rfl | hf
  · intro z hz
    rcases List.mem_cons.1 hz with rfl | hz
    · simp
    · exact h _ (List.mem_cons_self) z (List.mem_cons_of_mem _ hz)
  · exact h f (List.mem_cons_of_mem _ hf)
theorem le_turn {P L C : Int} {y : Int × Int} {cd : List (Int × Int)} {fs : List (Int × Int × Int × List (Int × Int))} {N : Nat} (h : ∀ f ∈ (P, L, C, y :: cd) :: fs, f.2.2.2.length ≤ N) : ∀ f ∈ (P, 3, C, (1, 77) :: cd) :: fs, f.2.2.2.length ≤ N := by
  intro f hf
  rcases List.mem_cons.1 hf with rfl | hf
  · have := h _ (List.mem_cons_self); simpa using this
  · exact h f (List.mem_cons_of_mem _ hf)
set_option maxRecDepth 100000 in
set_option maxHeartbeats 4000000 in
theorem writes_any {v2 v3 : Value} {w : World} {B lo bk n : Nat} {ra : Option Addr} {rk : Nat} {wa : Option Addr} {wk : Nat} {rvs wvs : List Value} {ls : List (List Int)} (hT : Ty w) (hB : B ≤ w.heap.size) (x : Int) (ts : List (List Int)) (fs : List (Int × Int × Int × List (Int × Int))) (ta fa : Option Addr) (nt tc nf fc : Nat) (hnt : ts.length = nt) (hnf : fs.length = nf) (hts : TxIn w B ta ts) (hfs : FnIn w B fa fs) (hP : PlP x ts fs) (hlo : lo ≤ w.heap.size) (hn : n ≤ 1000 ∧ B ≤ bk ∧ 1 ≤ B) (hK : KR v2 v3 w lo bk n n ra rk wa wk rvs wvs ls ls) :
    Calls Tryd.prog 9 #[.agg #[.int .i64 x, .slice ta nt tc, .slice fa nf fc], .pointer (some ⟨bk, 0, none⟩)] w (WsQ v2 v3 w lo bk n ra rk wa wk rvs wvs ls) := by
  obtain ⟨hl1, hl2, hl3, hM⟩ := hP
  rw [hnt, hnf] at hl1
  obtain ⟨b, hb⟩ : ∃ b, w.heap.size = b := ⟨_, rfl⟩
  have oV : Out 0 0 w (w.alloc (.cells #[.int .i64 x, .slice ta nt tc, .slice fa nf fc] 35)) := (Out.refl 0 0 w).alloc _
  have bV := Bl.new w #[.int .i64 x, .slice ta nt tc, .slice fa nf fc] 35
  rw [hb] at bV
  obtain ⟨V, hV⟩ : ∃ V, w.alloc (.cells #[.int .i64 x, .slice ta nt tc, .slice fa nf fc] 35) = V := ⟨_, rfl⟩
  rw [hV] at oV bV
  have k0 := bV.cell (i := 0) rfl
  have k1 := bV.cell (i := 1) rfl
  have k2 := bV.cell (i := 2) rfl
  have HLe := hid_mk (lent_any (w := V) (Nat.le_trans hB oV.size) x ts fs ta fa nt tc nf fc hnt hnf (hts.kept (Lo.of_out oV) (Nat.le_refl _)) (hfs.kept (Lo.of_out oV) (Nat.le_refl _)) hl1 hl2 hl3)
  have HH := hid_mk (And.intro hB (And.intro hnt (And.intro hnf (And.intro hts (And.intro hfs (And.intro hl1 (And.intro hl2 (And.intro hl3 (And.intro hM (And.intro hT (And.intro hlo (And.intro hn hK))))))))))))
  have HV : Hid (Out 0 0 w V ∧ Bl V b #[.int .i64 x, .slice ta nt tc, .slice fa nf fc] 35 ∧ w.heap.size = b) := hid_mk ⟨oV, bV, hb⟩
  clear hB hnt hnf hts hfs hl1 hl2 hl3 hM hT hlo hn hK oV bV
  go_enter Tryd.func9, Tryd.ntmps9
  go_wp2_with fail
  (try rw [hV])
  (try rw [hb])
  clear hV hb
  refine HLe.out.mono ?_
  clear HLe
  rintro e w1 ⟨o1, gt, ct, gf, cf, vs, mv, cs, rfl, hL1⟩
  obtain ⟨hB, hnt, hnf, hts, hfs, hl1, hl2, hl3, hM, hT, hlo, hn, hK⟩ := HH.out
  obtain ⟨oV, bV, hb⟩ := HV.out
  rw [hnt, hnf]
  obtain ⟨bq, hbq⟩ : ∃ bq, w1.heap.size = bq := ⟨_, rfl⟩
  obtain ⟨W1, hW1⟩ : ∃ W1, w1.alloc (.cells #[.int .i64 x, .slice (some ⟨gt, 0, none⟩) nt ct, .slice (some ⟨gf, 0, none⟩) nf cf] 35) = W1 := ⟨_, rfl⟩
  have oQ : Out 0 0 w1 W1 := by rw [← hW1]; exact (Out.refl 0 0 w1).alloc _
  have bQ : Bl W1 bq #[.int .i64 x, .slice (some ⟨gt, 0, none⟩) nt ct, .slice (some ⟨gf, 0, none⟩) nf cf] 35 := by rw [← hW1, ← hbq]; exact Bl.new _ _ _
  have oW1 := (oV.trans o1).trans oQ
  have hLQ := hL1.quiet oQ
  have HWr := hid_mk (write_any (w := W1) (hT.out oW1 (.inr rfl)) (Nat.le_refl _) x ts fs (some ⟨gt, 0, none⟩) (some ⟨gf, 0, none⟩) nt ct nf cf hnt hnf hLQ.tx hLQ.fn hM)
  have q0 := bQ.cell (i := 0) rfl
  have q1 := bQ.cell (i := 1) rfl
  have q2 := bQ.cell (i := 2) rfl
  have HL1 := hid_mk hLQ
  have HQ : Hid (Bl W1 bq #[.int .i64 x, .slice (some ⟨gt, 0, none⟩) nt ct, .slice (some ⟨gf, 0, none⟩) nf cf] 35 ∧ Bl W1 b #[.int .i64 x, .slice ta nt tc, .slice fa nf fc] 35 ∧ Out 0 0 w W1 ∧ V.heap.size ≤ bq) := hid_mk ⟨bQ, (bV.kept o1 (.inr (Nat.zero_le _))).kept oQ (.inr (Nat.zero_le _)), oW1, by rw [← hbq]; exact o1.size⟩
  clear hB hnt hnf hts hfs hl1 hl2 hl3 hM hT hlo hn hK oV bV hb hL1 hLQ oQ bQ oW1 o1
  go_wp2_with fail
  (try rw [hW1])
  (try rw [hbq])
  clear hW1 hbq
  refine HWr.out.mono ?_
  clear HWr
  rintro e w2 ⟨a2, K, c2, rfl, o2, hw2, hlen⟩
  obtain ⟨hB, hnt, hnf, hts, hfs, hl1, hl2, hl3, hM, hT, hlo, hn, hK⟩ := HH.out
  have ow2 := HQ.out.2.2.1.trans o2
  have HRw := hid_mk (rwrite_any (w := w2) x ts fs ta fa nt tc nf fc hnt hnf ((hts.kept (C := B) (Lo.of_out ow2) (Nat.le_refl _)).up (Nat.le_trans hB ow2.size)) ((hfs.kept (C := B) (Lo.of_out ow2) (Nat.le_refl _)).up (Nat.le_trans hB ow2.size)) hM (li_of (by omega)) (li_of (by omega)) (fun t ht => li_of (hl3 t ht)) (fun f hf => li_of (hl2 f hf)))
  have HQ2 := hid_mk (And.intro (HQ.out.1.kept o2 (.inr (Nat.zero_le _))) (And.intro (HQ.out.2.1.kept o2 (.inr (Nat.zero_le _))) (And.intro ow2 (And.intro HQ.out.2.2.2 (And.intro hw2 (And.intro hlen (HL1.out.quiet o2)))))))
  have k0 := HQ2.out.2.1.cell (i := 0) rfl
  have k1 := HQ2.out.2.1.cell (i := 1) rfl
  have k2 := HQ2.out.2.1.cell (i := 2) rfl
  have HS1 : Hid (W1.heap.size ≤ w2.heap.size ∧ bq < W1.heap.size) := hid_mk ⟨o2.size, HQ.out.1.lt⟩
  obtain ⟨E, hE⟩ : ∃ E, wrE (x, ts, fs) = E := ⟨_, rfl⟩
  rw [hE]
  have HE := hid_mk hE
  clear hB hnt hnf hts hfs hl1 hl2 hl3 hM hT hlo hn hK o2 hw2 hlen ow2 q0 q1 q2 HQ HL1 hE
  go_wp2_with fail
  refine HRw.out.mono ?_
  clear HRw
  rintro e w3 ⟨a3, K3, c3, rfl, hbo, o3⟩
  rw [HE.out]
  obtain ⟨hB, hnt, hnf, hts, hfs, hl1, hl2, hl3, hM, hT, hlo, hn, hK⟩ := HH.out
  obtain ⟨z1, z2, z3, z4, z5, z6, z7⟩ := HQ2.out
  obtain rfl : K3 = K := hbo.1.symm.trans z6
  have hBt : Byt (wrB (x, ts, fs)) := wr_byt (tx_byt hts)
  have y5 := own_fx (S := fun _ => False) z5 (Fx.of_out o3) (fun _ _ q => q)
  have ow3 := z3.trans o3
  obtain ⟨st, hst⟩ : ∃ st, strOfNums (wrB (x, ts, fs)) = st := ⟨_, rfl⟩
  have e1 := conv_bytes (w := w3) (c := c2) (ByIn.own hBt y5 (fun q hq => (own_ge y5 hq).2)).bytes z6
  have e2 := conv_bytes (w := w3) (c := c3) (ByIn.own hBt hbo.2 (fun q hq => (own_ge hbo.2 hq).2)).bytes z6
  rw [hst] at e1 e2
  have HKe := hid_mk (kept_any (w := w3) (Nat.le_trans hB ow3.size) x ts fs ta fa nt tc nf fc hnt hnf (hts.kept (C := B) (Lo.of_out ow3) (Nat.le_refl _)) (hfs.kept (C := B) (Lo.of_out ow3) (Nat.le_refl _)) hl1 hl2 hl3 (z7.quiet o3))
  have HQ3 := hid_mk (And.intro (z1.kept o3 (.inr (Nat.zero_le _))) (And.intro (z2.kept o3 (.inr (Nat.zero_le _))) (And.intro ow3 (And.intro (own_txl hBt y5 z6 (Nat.le_refl _)) (And.intro (own_txl hBt hbo.2 z6 (Nat.le_refl _)) (z7.quiet o3))))))
  have q0 := HQ3.out.1.cell (i := 0) rfl
  have q1 := HQ3.out.1.cell (i := 1) rfl
  have q2 := HQ3.out.1.cell (i := 2) rfl
  replace k0 := HQ3.out.2.1.cell (i := 0) rfl
  replace k1 := HQ3.out.2.1.cell (i := 1) rfl
  replace k2 := HQ3.out.2.1.cell (i := 2) rfl
  have HS2 : Hid (V.heap.size ≤ W1.heap.size ∧ W1.heap.size ≤ w2.heap.size ∧ V.heap.size ≤ bq) := hid_mk ⟨by have := HS1.out.2; omega, HS1.out.1, z4⟩
  clear hB hnt hnf hts hfs hl1 hl2 hl3 hM hT hlo hn hK z1 z2 z3 z4 z5 z6 z7 hbo o3 hBt y5 ow3 hst HQ2
  go_wp2_with fail
  refine HKe.out.mono ?_
  clear HKe e1 e2
  rintro e w4 ⟨rfl, o4⟩
  obtain ⟨hB, hnt, hnf, hts, hfs, hl1, hl2, hl3, hM, hT, hlo, hn, hK⟩ := HH.out
  obtain ⟨z1, z2, z3, z4, z5, z6⟩ := HQ3.out
  obtain ⟨oV, bV, hb⟩ := HV.out
  have ow4 := z3.trans o4
  have hVb : V.heap.size ≤ W1.heap.size := HS2.out.1
  have hWb : w.heap.size ≤ W1.heap.size := Nat.le_trans oV.size hVb
  have t2 := z4.fx (Q := fun _ => False) (Fx.of_out o4) (fun _ _ q => q)
  have t3 := z5.fx (Q := fun _ => False) (Fx.of_out o4) (fun _ _ q => q)
  have HBy := hid_mk (bytes_any (w := w4) (N := W1.heap.size) a2 a3 K3 c2 c3 (Nat.le_trans hlo ow4.size) (by omega) (hK.quiet ow4) (t2.low (Nat.le_trans hlo hWb)) (t3.low (Nat.le_trans (Nat.le_trans hlo hWb) HS2.out.2.1)) (fun j a k q1 q2 => by
    obtain ⟨l, hl⟩ : ∃ l, ls[j]? = some l := ⟨_, List.getElem?_eq_getElem (by have := (List.getElem?_eq_some_iff.1 q1).1; have := hK.2.1.len; omega)⟩
    have := ((hK.2.1.2.1.2 j a l q1 hl).ob q2).2
    omega) (fun k hk => (t2.ob hk).1))
  have HVB : Hid ((∀ k, (Value.slice a2 K3 c2).ownBlock = some k → w.heap.size ≤ k) ∧ w.heap.size ≤ w4.heap.size) := hid_mk ⟨fun k hk => Nat.le_trans hWb (t2.ob hk).1, ow4.size⟩
  have HQ4 := hid_mk (And.intro (z1.kept o4 (.inr (Nat.zero_le _))) (And.intro (z2.kept o4 (.inr (Nat.zero_le _))) (And.intro ow4 (z6.quiet o4))))
  clear hB hnt hnf hts hfs hl1 hl2 hl3 hM hT hlo hn hK z1 z2 z3 z4 z5 z6 o4 oV bV hb ow4 hVb hWb t2 t3 HQ3 q0 q1 q2 k0 k1 k2
  go_wp2_with fail
  refine HBy.out.mono ?_
  clear HBy
  rintro e w5 ⟨rfl, ra5, rk5, wa5, wk5, hK5, x5, fR5, fW5⟩
  obtain ⟨hB, hnt, hnf, hts, hfs, hl1, hl2, hl3, hM, hT, hlo, hn, hK⟩ := HH.out
  obtain ⟨z1, z2, z3, z4⟩ := HQ4.out
  obtain ⟨oV, bV, hb⟩ := HV.out
  have hVs : b < V.heap.size := bV.lt
  have hS : ∀ k, (k = bk ∨ (Value.slice ra n rk).ownBlock = some k ∨ (Value.slice wa n wk).ownBlock = some k) → (bk ≤ k ∧ k < b) ∧ (lo ≤ k ∨ k = bk) := by
    intro k hk
    have hbl := hK.2.2.2.2.2
    have hbs := hK.1.lt
    rcases hk with rfl | hk | hk
    · exact ⟨⟨Nat.le_refl _, by omega⟩, .inr rfl⟩
    · have := own_ge hK.2.1.1 hk; exact ⟨by omega, .inl this.1⟩
    · have := own_ge hK.2.2.1 hk; exact ⟨by omega, .inl this.1⟩
  have X5 := (Fx.of_out (S := fun k => k = bk ∨ (Value.slice ra n rk).ownBlock = some k ∨ (Value.slice wa n wk).ownBlock = some k) z3).trans x5
  have fR : ∀ k, (Value.slice ra5 (n + 1) rk5).ownBlock = some k → (Value.slice ra n rk).ownBlock = some k ∨ w.heap.size ≤ k := fun k hk => (fR5 k hk).imp id fun e => Nat.le_trans HVB.out.2 e
  have fW : ∀ k, (Value.slice wa5 (n + 1) wk5).ownBlock = some k → (Value.slice wa n wk).ownBlock = some k ∨ w.heap.size ≤ k := fun k hk => (fW5 k hk).imp id fun e => Nat.le_trans HVB.out.2 e
  have L5 : Lo B w w5 := (Fx.of_out z3).trans (x5.wide fun k _ hk => by have := (hS k hk).1.1; omega)
  have p5 := z2.fx x5 (fun hk => by have := (hS _ hk).1.2; omega)
  have q5 := z1.fx x5 (fun hk => by have := (hS _ hk).1.2; have := HS2.out.2.2; omega)
  have hL5 := z4.fx x5 (fun k h1 _ hk => by have := (hS _ hk).1.2; omega)
  have k2 := p5.cell (i := 2) rfl
  have HK5 := hid_mk (And.intro hK5 (And.intro X5 (And.intro (wr_len (x, ts, fs)) (And.intro HVB.out.1 (And.intro fR fW)))))
  have HQ5 : Hid (Bl w5 bq #[.int .i64 x, .slice (some ⟨gt, 0, none⟩) nt ct, .slice (some ⟨gf, 0, none⟩) nf cf] 35 ∧ LnAt w5 V.heap.size gt ct gf cf vs mv cs ts fs ∧ FnIn w5 B fa fs ∧ Ty w5) := hid_mk ⟨q5, hL5, hfs.kept L5 (Nat.le_refl _), hT.lo L5 hn.2.2⟩
  clear hB hnt hnf hts hfs hl1 hl2 hl3 hM hT hlo hn hK z1 z2 z3 z4 oV bV hb hVs hS X5 L5 p5 q5 hL5 hK5 x5 HQ4 fR fW fR5 fW5 HVB
  by_cases hn0 : nf = 0
  · have e0 : ((nf : Int) == 0) = true := by subst hn0; rfl
    clear hn0
    go_wp2
    go_ret
    exact ⟨rfl, HK5.out.2.1, _, _, _, _, _, _, _, HK5.out.1, HK5.out.2.2⟩
  · have e0 : ((nf : Int) == 0) = false := by simp; omega
    have lm0 : (0 : Int) < (nf : Int) := by omega
    obtain ⟨hB, hnt, hnf, hts, hfs, hl1, hl2, hl3, hM, hT, hlo, hn, hK⟩ := HH.out
    cases fs with
    | nil => exact absurd hnf.symm hn0
    | cons f fs =>
    obtain ⟨P, L, C, cd⟩ := f
    obtain ⟨g, off, pj, cj, rfl, hg, -, -, -, c3x, -⟩ := fn_cell HQ5.out.2.2.1 (j := 0) rfl
    simp only [Nat.zero_mul, Nat.add_zero] at c3x
    cases cd with
    | nil =>
      simp only [List.length_nil] at c3x
      clear hB hnt hnf hts hfs hl1 hl2 hl3 hM hT hlo hn hK hn0 hg
      go_wp2
      go_ret
      exact ⟨rfl, HK5.out.2.1, _, _, _, _, _, _, _, HK5.out.1, HK5.out.2.2⟩
    | cons y cd =>
      obtain ⟨n0, hn9⟩ : ∃ n0, (y :: cd).length = n0 := ⟨_, rfl⟩
      rw [hn9] at c3x
      have hn8 : 0 < n0 := by rw [← hn9]; simp
      have e1 : ((n0 : Int) == 0) = false := by simp; omega
      have lm1 : (0 : Int) < (n0 : Int) := by omega
      obtain ⟨q5, hL5, hF5, hT5⟩ := HQ5.out
      obtain ⟨c0, hc0⟩ : ∃ c0, cs[0]? = some c0 := ⟨_, List.getElem?_eq_getElem (by have := hL5.2.2.2.2.1; simp at this; omega)⟩
      obtain ⟨a0, cc, rfl, hown0⟩ := hL5.2.2.2.2.2.1 0 c0 _ hc0 rfl
      obtain ⟨gc, cur, rfl, r1, r2, r3, -⟩ := own_cellsX hown0 (by simp)
      have hc0' : cs[0]? = some (.slice (some ⟨gc, 0, none⟩) n0 cc) := by rw [← hn9]; exact hc0
      obtain ⟨cur2, bF⟩ := own_blk2 hL5.2.2.2.1
      have d0 := r2 0 (.int .i64 y.1) rfl
      have d1 := r2 1 (.int .i64 y.2) rfl
      have d2 := r3.frozen 0
      have d3 := r3.frozen 1
      have hfc : ∀ (j : Nat) u, (fcl ((P, L, C, y :: cd) :: fs) cs)[j]? = some u → w5.cell? ⟨gf, j, none⟩ = some u := by
        intro j u hj
        obtain ⟨g', cur', w1', -, w2', -⟩ := own_cellsX hL5.2.2.2.1 (by omega)
        cases w1'
        exact w2' j u (by rw [List.getElem?_append_left (List.getElem?_eq_some_iff.1 hj).1]; exact hj)
      have hf4 := fcl_at (fs := (P, L, C, y :: cd) :: fs) (cs := cs) (j := 0) rfl hc0'
      have d4 : w5.cell? ⟨gf, 3, none⟩ = some (.slice (some ⟨gc, 0, none⟩) n0 cc) := hfc 3 _ hf4.2.2.2
      have d5 : w5.cell? ⟨gf, 1, none⟩ = some (.int .i64 L) := hfc 1 _ hf4.2.1
      have d6 := q5.cell (i := 2) rfl
      have hTu := hL5.turn hc0'
      have hbl : Bl w5 gc cur 61 := r3
      have hn67 : ∀ k cs E, Bl w5 k cs E → E = 35 → k ≠ gc ∧ k ≠ gf := by
        intro k cs E hb hE
        subst hE
        have hb' : w5.heap[k]? = some (.cells cs 35 (0, 0)) := hb
        constructor
        · intro e
          subst e
          have : w5.heap[k]? = some (.cells cur 61 (0, 0)) := hbl
          rw [hb'] at this
          cases this
        · intro e
          subst e
          have : w5.heap[k]? = some (.cells cur2 40 (0, 0)) := bF
          rw [hb'] at this
          cases this
      obtain ⟨hq1, hq2⟩ := hn67 bq _ _ q5 rfl
      have hgf : gc ≠ gf := fun e => by
        subst e
        have b1 : w5.heap[gc]? = some (.cells cur 61 (0, 0)) := hbl
        have b2 : w5.heap[gc]? = some (.cells cur2 40 (0, 0)) := bF
        rw [b2] at b1
        cases b1
      obtain ⟨Wa, hWa⟩ : ∃ Wa, (w5.setCell ⟨gc, 0, none⟩ (.int .i64 1)).setCell ⟨gc, 1, none⟩ (.int .i64 77) = Wa := ⟨_, rfl⟩
      have xa1 : Fx (fun k => k = gc) w5 Wa := by rw [← hWa]; exact ((Fx.refl (fun k => k = gc) _).set (p := ⟨gc, 0, none⟩) (.inl rfl) _).set (p := ⟨gc, 1, none⟩) (.inl rfl) _
      have qa := q5.fx xa1 hq1
      have bFa := bF.fx xa1 (fun e => hgf e.symm)
      have d7 := qa.cell (i := 2) rfl
      have d8 : Wa.cell? ⟨gf, 1, none⟩ = some (.int .i64 L) := xa1.cell d5 (fun e => hgf e.symm)
      have d9 := bFa.frozen 1
      obtain ⟨Wb, hWb⟩ : ∃ Wb, Wa.setCell ⟨gf, 1, none⟩ (.int .i64 3) = Wb := ⟨_, rfl⟩
      have xb : Fx (fun k => k = gf) Wa Wb := by rw [← hWb]; exact (Fx.refl (fun k => k = gf) _).set (p := ⟨gf, 1, none⟩) (.inl rfl) _
      have xab : Fx (fun k => k = gc ∨ k = gf) w5 Wb := (xa1.wide fun k _ h => .inl h).trans (xb.wide fun k _ h => .inr h)
      rw [hWa, hWb] at hTu
      have hK6 := HK5.out.1.fx xab (fun k hk => by
        rcases hk with rfl | rfl
        · exact ⟨_, _, hbl, by decide, by decide, by decide⟩
        · exact ⟨_, _, bF, by decide, by decide, by decide⟩)
      have hlob : lo ≤ V.heap.size := Nat.le_trans hlo HV.out.1.size
      have X6 := HK5.out.2.1.then xab (fun k hkl hk => by
        have hV1 := HV.out.1.size
        rcases hk with rfl | rfl
        · have := r1; omega
        · have := (own_ge hL5.2.2.2.1 (g := k) rfl).1; omega)
      have q6 := qa.fx xb hq2
      have HQ6 : Hid (Bl Wb bq #[.int .i64 x, .slice (some ⟨gt, 0, none⟩) nt ct, .slice (some ⟨gf, 0, none⟩) nf cf] 35 ∧ LnAt Wb V.heap.size gt ct gf cf vs mv cs ts ((P, 3, C, (1, 77) :: cd) :: fs)) := hid_mk ⟨q6, hTu⟩
      have HK6 := hid_mk (And.intro hK6 (And.intro X6 HK5.out.2.2))
      have hT6 : Ty Wb := hT5.lo (B := 1) (xab.wide fun k _ hk => by
        have := HV.out.2.1.lt
        rcases hk with rfl | rfl
        · omega
        · have := (own_ge hL5.2.2.2.1 (g := k) rfl).1; omega) (Nat.le_refl _)
      have hnf2 : ((P, 3, C, (1, 77) :: cd) :: fs : List (Int × Int × Int × List (Int × Int))).length = nf := hnf
      have HWr := hid_mk (write_any (w := Wb) hT6 (Nat.le_refl _) x ts ((P, 3, C, (1, 77) :: cd) :: fs) (some ⟨gt, 0, none⟩) (some ⟨gf, 0, none⟩) nt ct nf cf hnt hnf2 hTu.tx hTu.fn (mi_turn hM))
      have HN2 := hid_mk (And.intro hnt (And.intro hnf2 (And.intro hl1 (And.intro (le_turn hl2) (And.intro hl3 (And.intro (mi_turn hM) hts))))))
      clear hB hnt hnf hts hfs hl1 hl2 hl3 hM hT hlo hn hK hn0 hg hn9 hn8 q5 hL5 hF5 hT5 hc0 hown0 r1 r2 r3 hc0' bF hfc hf4 hTu hbl hn67 hgf xa1 qa bFa xb xab hK6 hlob X6 q6 hT6 hnf2 HK5 HQ5
      go_upto_region 10 with fail
      (try rw [hWa])
      clear d0 d1 d2 d3 d4 d5 d6 k2 c3x
      go_upto_region 11 with fail
      (try rw [hWb])
      clear d7 d8 d9 hWa hWb
      have q0 := HQ6.out.1.cell (i := 0) rfl
      have q1 := HQ6.out.1.cell (i := 1) rfl
      have q2 := HQ6.out.1.cell (i := 2) rfl
      go_wp2_with fail
      refine HWr.out.mono ?_
      clear HWr q0 q1 q2
      rintro e w7 ⟨a7, K7, c7, rfl, o7, hw7, hlen7⟩
      obtain ⟨hnt, hnf, hl1, hl2, hl3, hM, hts⟩ := HN2.out
      obtain ⟨z1, z2⟩ := HQ6.out
      have hL7 := z2.quiet o7
      have HRw := hid_mk (rwrite_any (w := w7) x ts ((P, 3, C, (1, 77) :: cd) :: fs) (some ⟨gt, 0, none⟩) (some ⟨gf, 0, none⟩) nt ct nf cf hnt hnf hL7.tx hL7.fn hM (li_of (by omega)) (li_of (by omega)) (fun t ht => li_of (hl3 t ht)) (fun f hf => li_of (hl2 f hf)))
      have q7 := z1.kept o7 (.inr (Nat.zero_le _))
      have q0 := q7.cell (i := 0) rfl
      have q1 := q7.cell (i := 1) rfl
      have q2 := q7.cell (i := 2) rfl
      obtain ⟨E2, hE2⟩ : ∃ E2, wrE (x, ts, (P, 3, C, (1, 77) :: cd) :: fs) = E2 := ⟨_, rfl⟩
      rw [hE2]
      have HE2 := hid_mk hE2
      have HW7 := hid_mk (And.intro hw7 (And.intro hlen7 o7))
      clear hnt hnf hl1 hl2 hl3 hM hts z1 z2 hL7 q7 hE2 hw7 hlen7 o7
      go_wp2_with fail
      refine HRw.out.mono ?_
      clear HRw q0 q1 q2
      rintro e w8 ⟨a8, K8, c8, rfl, hbo, o8⟩
      rw [HE2.out]
      obtain ⟨hw7, hlen7, o7⟩ := HW7.out
      have hBt : Byt (wrB (x, ts, (P, 3, C, (1, 77) :: cd) :: fs)) := wr_byt (tx_byt HN2.out.2.2.2.2.2.2)
      have y5 := own_fx (S := fun _ => False) hw7 (Fx.of_out o8) (fun _ _ q => q)
      obtain ⟨st2, hst2⟩ : ∃ st, strOfNums (wrB (x, ts, (P, 3, C, (1, 77) :: cd) :: fs)) = st := ⟨_, rfl⟩
      have e1 := conv_bytes (w := w8) (c := c7) (ByIn.own hBt y5 (fun q hq => (own_ge y5 hq).2)).bytes hlen7
      have e2 := conv_bytes (w := w8) (c := c8) (ByIn.own hBt hbo.2 (fun q hq => (own_ge hbo.2 hq).2)).bytes hbo.1
      rw [hst2] at e1 e2
      have HD : Hid (Out 0 0 Wb w8) := hid_mk (o7.trans o8)
      clear hw7 hlen7 o7 hBt y5 hst2 hbo o8 HW7 HN2 HE2 HE
      go_wp2
      go_ret
      exact ⟨rfl, HK6.out.2.1.trans (Fx.of_out HD.out), _, _, _, _, _, _, _, HK6.out.1.quiet HD.out, HK6.out.2.2⟩
end Go.Proofs.YtapjfokkcgdhhaaDoor
