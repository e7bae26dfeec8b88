import Derived.Test.YtcnjlbjpeklgkaaGreatDoorR38
import Derived.SizedLaws
import Derived.Deep.Slices
import Derived.Deep.Strs
import Derived.Test.YtcnjlbjpeklgkaaGreatDoorR40
namespace Go.Proofs.YtcnjlbjpeklgkaaGreatDoor
open Go.RowKit
set_option linter.unusedVariables false
set_option linter.unusedSimpArgs false

theorem sum_wrap {a b : Int} (h0 : 0 ≤ a) (h1 : a ≤ 2305843009213693952) (h2 : 0 ≤ b) (h3 : b ≤ 2305843009213693952) : wrap64 (a + b) = a + b := by unfold wrap64; omega
/-- no list is longer than the machine's -/
def LimN (n : Nat) : Prop := (n : Int) ≤ 2305843009213693952

/-- what fits answers -/
def FtW (w : World) (nt nf : Nat) (ts : List (List Int)) (fs : List (Int × Int × Int × List (Int × Int))) (e : Ending) (w' : World) : Prop := (∃ b, e = .returned (.bool b) ∧ (b = true → (nt : Int) + (nf : Int) ≤ 100000 ∧ (∀ f ∈ fs, (f.2.2.2.length : Int) ≤ 100000) ∧ ∀ t ∈ ts, (t.length : Int) ≤ 100000)) ∧ Out 0 0 w w'
theorem lt_upW {ts : List (List Int)} {j : Nat} {t : List Int} {N : Int} {l : Nat} (hf : ts[j]? = some t) (hl : t.length = l) (h : ∀ e ∈ ts.take j, (e.length : Int) ≤ N) (h0 : 0 ≤ N) : ∀ e ∈ ts.take (j + 1), (e.length : Int) ≤ N + l := by
  intro e he
  rw [List.take_add_one, hf] at he
  rcases List.mem_append.1 he with q | q
  · have := h e q; omega
  · simp at q; subst q; omega
theorem FtW.mk' {w w' : World} {nt nf : Nat} {ts : List (List Int)} {fs : List (Int × Int × Int × List (Int × Int))} {b : Bool} (h : b = true → (nt : Int) + (nf : Int) ≤ 100000 ∧ (∀ f ∈ fs, (f.2.2.2.length : Int) ≤ 100000) ∧ ∀ t ∈ ts, (t.length : Int) ≤ 100000) (o : Out 0 0 w w') : FtW w nt nf ts fs (.returned (.bool b)) w' := ⟨⟨b, rfl, h⟩, o⟩
theorem le_upW {fs : List (Int × Int × Int × List (Int × Int))} {j : Nat} {f : Int × Int × Int × List (Int × Int)} {N : Int} {l : Nat} (hf : fs[j]? = some f) (hl : f.2.2.2.length = l) (h : ∀ e ∈ fs.take j, (e.2.2.2.length : Int) ≤ N) (h0 : 0 ≤ N) : ∀ e ∈ fs.take (j + 1), (e.2.2.2.length : Int) ≤ N + l := by
  intro e he
  rw [List.take_add_one, hf] at he
  rcases List.mem_append.1 he with q | q
  · have := h e q; omega
  · simp at q; subst q; omega
set_option maxRecDepth 100000 in
set_option maxHeartbeats 2000000 in
theorem fitsW_any {w : World} {B : Nat} (x : Int) (ts : List (List Int)) (fs : List (Int × Int × Int × List (Int × Int))) (ta fa : Option Addr) (nt nf tc fc : Nat) (hnt : ts.length = nt) (hnf : fs.length = nf) (hts : TxIn w B ta ts) (hfs : FnIn w B fa fs) (h1 : LimN nt) (h2 : LimN nf) (h3 : ∀ t ∈ ts, LimN t.length) (h4 : ∀ f ∈ fs, LimN f.2.2.2.length) :
    Calls Tryz.prog 16 #[.agg #[.int .i64 x, .slice ta nt tc, .slice fa nf fc]] w fun e w' => FtW w nt nf ts fs e w' := by
  have HA := hid_mk (Bl.new w #[.int .i64 x, .slice ta nt tc, .slice fa nf fc] 32)
  have HO := hid_mk ((Out.refl 0 0 w).alloc (.cells #[.int .i64 x, .slice ta nt tc, .slice fa nf fc] 32))
  obtain ⟨V, hV⟩ : ∃ V, w.alloc (.cells #[.int .i64 x, .slice ta nt tc, .slice fa nf fc] 32) = V := ⟨_, rfl⟩
  rw [hV] at HA HO
  have HT := hid_mk (hts.kept (Lo.of_out HO.out) (Nat.le_refl _))
  have HF := hid_mk (hfs.kept (Lo.of_out HO.out) (Nat.le_refl _))
  have HN := hid_mk (And.intro hnt hnf)
  have HL3 := hid_mk h3
  have HL4 := hid_mk h4
  have hws := sum_wrap (a := (nt : Int)) (b := (nf : Int)) (by omega) h1 (by omega) h2
  have HL : Hid (LimN nt ∧ LimN nf) := hid_mk ⟨h1, h2⟩
  obtain ⟨p, hp⟩ : ∃ p, w.heap.size = p := ⟨_, rfl⟩
  rw [hp] at HA
  have a1 := HA.out.cell (i := 1) rfl
  have a2 := HA.out.cell (i := 2) rfl
  clear hts hfs hnt hnf h1 h2 h3 h4
  go_enter Tryz.func16, Tryz.ntmps16
  go_wp2_with fail
  (try rw [hV])
  (try rw [hp])
  have HWS := hid_mk hws
  have HWS := hid_mk hws
  clear hV hp hws
  go_loopw [3, 4] (fun nv iv wr => ∃ (i : Nat) (N : Int), iv = .int .i64 i ∧ i ≤ nt ∧ nv = .int .i64 N ∧ (nt : Int) + (nf : Int) ≤ N ∧ N ≤ 4611686018427387904 ∧ (∀ e ∈ ts.take i, (e.length : Int) ≤ N) ∧ wr = V) (fun _ iv _ => nt - (intOf iv).toNat)
  case atStart => exact ⟨0, _, rfl, Nat.zero_le _, rfl, by rw [HWS.out]; exact Int.le_refl _, by rw [HWS.out]; have := HL.out; unfold LimN at this; omega, (by simp), rfl⟩
  case round =>
    obtain ⟨i, N, rfl, him, rfl, hN1, hN2, hN3, hwr⟩ := hrel
    subst hwr
    have HN3 := hid_mk hN3
    clear hN3
    have HN1 := hid_mk hN1
    have HN2 := hid_mk hN2
    clear hN1 hN2 HWS
    by_cases hi : i < nt
    · have g1 : (i : Int) < (nt : Int) := by omega
      by_cases hN : N ≤ 100000
      · have hNd : decide (N ≤ 100000) = true := by simpa using hN
        obtain ⟨t, ht⟩ : ∃ t, ts[i]? = some t := ⟨_, List.getElem?_eq_getElem (by have := HN.out.1; omega)⟩
        rcases HT.out with h0 | ⟨g, off, rfl, hg, hc⟩
        · rw [h0] at ht; cases ht
        obtain ⟨pj, cj, c0, hby⟩ := hc i _ ht
        obtain ⟨lt, hlt⟩ : ∃ k, t.length = k := ⟨_, rfl⟩
        rw [hlt] at c0
        have hlim : Hid ((lt : Int) ≤ 2305843009213693952) := hid_mk (by have := HL3.out _ (List.mem_of_getElem? ht); unfold LimN at this; rw [hlt] at this; exact this)
        have HW := hid_mk (sum_wrap (a := N) (b := (lt : Int)) (by have := HN1.out; omega) (by omega) (by omega) hlim.out)
        have HNl := hid_mk hN
        have HUt := hid_mk (lt_upW ht hlt HN3.out (by have := HN1.out; omega))
        have nb : (nt : Int) ≤ 100000 := by have := HN1.out; omega
        clear ht hc hby hlt hg hN
        go_wp2
        go_roundw
        case rel => exact ⟨i + 1, N + lt, by go_num, by omega, by rw [HW.out], by have := HN1.out; omega, by have := hlim.out; have := HNl.out; omega, HUt.out, trivial⟩
        case measure => simp [intOf]; omega
      · have hNd : decide (N ≤ 100000) = false := by simpa using hN
        have HNg : Hid (100000 < N) := hid_mk (by omega)
        clear hN
        go_wp2
        go_loopw [3, 5] (fun nv jv wz => ∃ (j : Nat) (M : Int), jv = .int .i64 j ∧ j ≤ nf ∧ nv = .int .i64 M ∧ (nt : Int) + (nf : Int) ≤ M ∧ M ≤ 4611686018427387904 ∧ (∀ e ∈ fs.take j, (e.2.2.2.length : Int) ≤ M) ∧ 100000 < M ∧ wz = wr) (fun _ jv _ => nf - (intOf jv).toNat)
        case atStart => exact ⟨0, N, rfl, Nat.zero_le _, rfl, HN1.out, HN2.out, (by simp), HNg.out, rfl⟩
        case round =>
          obtain ⟨j, M, rfl, hjm, rfl, hM1, hM2, hM3, hM4, hwr⟩ := hrel
          subst hwr
          have HM1 := hid_mk hM1
          have HM2 := hid_mk hM2
          have HM3 := hid_mk hM3
          have HM4 := hid_mk hM4
          clear hM1 hM2 hM3 hM4
          by_cases hj : j < nf
          · have g2 : (j : Int) < (nf : Int) := by omega
            by_cases hM : M ≤ 100000
            · have hMd : decide (M ≤ 100000) = true := by simpa using hM
              obtain ⟨⟨f1, f2, f3, fl⟩, hf⟩ : ∃ t, fs[j]? = some t := ⟨_, List.getElem?_eq_getElem (by have := HN.out.2; omega)⟩
              rcases HF.out with h0 | ⟨g, off, rfl, hg, hc⟩
              · rw [h0] at hf; cases hf
              obtain ⟨pj, cj, c0, c1, c2, c3, hin⟩ := hc j _ hf
              dsimp only at c3
              obtain ⟨lf, hlf⟩ : ∃ k, fl.length = k := ⟨_, rfl⟩
              rw [hlf] at c3
              have hlim : Hid ((lf : Int) ≤ 2305843009213693952) := hid_mk (by have := HL4.out _ (List.mem_of_getElem? hf); unfold LimN at this; dsimp only at this; rw [hlf] at this; exact this)
              have HW := hid_mk (sum_wrap (a := M) (b := (lf : Int)) (by have := HM1.out; omega) (by omega) (by omega) hlim.out)
              have HU := hid_mk (le_upW hf hlf HM3.out (by have := HM1.out; omega))
              have HMl := hid_mk hM
              have nb : (nf : Int) ≤ 100000 := by have := HM1.out; omega
              clear hf hc c0 c1 c2 hin hlf hg hM
              go_wp2
              go_roundw
              case rel => exact ⟨j + 1, M + lf, by go_num, by omega, by rw [HW.out], by have := HM1.out; omega, by have := hlim.out; have := HMl.out; omega, HU.out, by have := HM4.out; omega, trivial⟩
              case measure => simp [intOf]; omega
            · have hMd : decide (M ≤ 100000) = false := by simpa using hM
              have HM0 := hid_mk hM
              clear hM
              go_wp2
              go_ret
              exact FtW.mk' (fun q => by cases q) HO.out
          · have hjE : j = nf := by omega
            subst hjE
            have g2 : ¬ ((j : Int) < (j : Int)) := by omega
            go_wp2
            go_ret
            refine FtW.mk' (fun q => ?_) HO.out
            have q' : M ≤ 100000 := by simpa using q
            have := HM4.out; omega
    · have hiE : i = nt := by omega
      subst hiE
      have g1 : ¬ ((i : Int) < (i : Int)) := by omega
      go_wp2
      go_loopw [3, 5] (fun nv jv wz => ∃ (j : Nat) (M : Int), jv = .int .i64 j ∧ j ≤ nf ∧ nv = .int .i64 M ∧ (i : Int) + (nf : Int) ≤ M ∧ M ≤ 4611686018427387904 ∧ (∀ e ∈ fs.take j, (e.2.2.2.length : Int) ≤ M) ∧ (∀ e ∈ ts, (e.length : Int) ≤ M) ∧ wz = wr) (fun _ jv _ => nf - (intOf jv).toNat)
      case atStart => exact ⟨0, N, rfl, Nat.zero_le _, rfl, HN1.out, HN2.out, (by simp), (by have := HN3.out; rw [take_all HN.out.1] at this; exact this), rfl⟩
      case round =>
        obtain ⟨j, M, rfl, hjm, rfl, hM1, hM2, hM3, hM4, hwr⟩ := hrel
        subst hwr
        have HM1 := hid_mk hM1
        have HM2 := hid_mk hM2
        have HM3 := hid_mk hM3
        have HM4 := hid_mk hM4
        clear hM1 hM2 hM3 hM4
        by_cases hj : j < nf
        · have g2 : (j : Int) < (nf : Int) := by omega
          by_cases hM : M ≤ 100000
          · have hMd : decide (M ≤ 100000) = true := by simpa using hM
            obtain ⟨⟨f1, f2, f3, fl⟩, hf⟩ : ∃ t, fs[j]? = some t := ⟨_, List.getElem?_eq_getElem (by have := HN.out.2; omega)⟩
            rcases HF.out with h0 | ⟨g, off, rfl, hg, hc⟩
            · rw [h0] at hf; cases hf
            obtain ⟨pj, cj, c0, c1, c2, c3, hin⟩ := hc j _ hf
            dsimp only at c3
            obtain ⟨lf, hlf⟩ : ∃ k, fl.length = k := ⟨_, rfl⟩
            rw [hlf] at c3
            have hlim : Hid ((lf : Int) ≤ 2305843009213693952) := hid_mk (by have := HL4.out _ (List.mem_of_getElem? hf); unfold LimN at this; dsimp only at this; rw [hlf] at this; exact this)
            have HW := hid_mk (sum_wrap (a := M) (b := (lf : Int)) (by have := HM1.out; omega) (by omega) (by omega) hlim.out)
            have HU := hid_mk (le_upW hf hlf HM3.out (by have := HM1.out; omega))
            have HMl := hid_mk hM
            have nb : (nf : Int) ≤ 100000 := by have := HM1.out; omega
            clear hf hc c0 c1 c2 hin hlf hg hM
            go_wp2
            go_roundw
            case rel => exact ⟨j + 1, M + lf, by go_num, by omega, by rw [HW.out], by have := HM1.out; omega, by have := hlim.out; have := HMl.out; omega, HU.out, (fun e he => by have := HM4.out e he; omega), trivial⟩
            case measure => simp [intOf]; omega
          · have hMd : decide (M ≤ 100000) = false := by simpa using hM
            have HM0 := hid_mk hM
            clear hM
            go_wp2
            go_ret
            exact FtW.mk' (fun q => by cases q) HO.out
        · have hjE : j = nf := by omega
          subst hjE
          have g2 : ¬ ((j : Int) < (j : Int)) := by omega
          go_wp2
          go_ret
          refine FtW.mk' (fun q => ?_) HO.out
          have q' : M ≤ 100000 := by simpa using q
          refine ⟨Int.le_trans HM1.out q', (fun f hf => Int.le_trans (HM3.out f ?_) q'), fun t ht => Int.le_trans (HM4.out t ht) q'⟩
          rw [take_all HN.out.2]; exact hf
end Go.Proofs.YtcnjlbjpeklgkaaGreatDoor
namespace Go.Proofs.YtcnjlbjpeklgkaaGreatDoor
open Go.ChangeShapes Go.WideShapes Go.ChangeAt Go.RowKit Go.Deep
set_option linter.unusedVariables false
set_option linter.unusedSimpArgs false

theorem u8_bounds {n : Int} (h : (Lit.int .u8 n).wf = true) : 0 ≤ n ∧ n ≤ 255 := by
  simpa [Lit.wf, IntKind.min, IntKind.max, IntKind.signed, IntKind.bits] using h
theorem cells_u8 : Tryz.prog.cellsOf 5 = 1 := by kernel_rfl
theorem cells_int : Tryz.prog.cellsOf 3 = 1 := by kernel_rfl
theorem cells_bytes : Tryz.prog.cellsOf 50 = 1 := by kernel_rfl
theorem cells_texts : Tryz.prog.cellsOf 29 = 1 := by kernel_rfl
theorem cells_code : Tryz.prog.cellsOf 37 = 1 := by kernel_rfl
theorem cells_funcs : Tryz.prog.cellsOf 30 = 1 := by kernel_rfl
theorem cells_ins : Tryz.prog.cellsOf 55 = 2 := by kernel_rfl
theorem cells_func : Tryz.prog.cellsOf 39 = 4 := by kernel_rfl
theorem cells_prog : Tryz.prog.cellsOf 32 = 3 := by kernel_rfl
theorem bytes_u8 : Tryz.prog.bytesOf 5 = 1 := by kernel_rfl
theorem bytes_bytes : Tryz.prog.bytesOf 50 = 24 := by kernel_rfl
theorem bytes_ins : Tryz.prog.bytesOf 55 = 16 := by kernel_rfl
theorem bytes_func : Tryz.prog.bytesOf 39 = 48 := by kernel_rfl
theorem cell_in {w : World} {a : Addr} {v : Value} (h : w.cell? a = some v) : a.block < w.heap.size := by
  by_cases hb : a.block < w.heap.size
  · exact hb
  · have : w.heap[a.block]? = none := by simp; omega
    simp [World.cell?, this] at h
theorem len2 {l : List Value} (h : l.length = 2) : ∃ a b, l = [a, b] := by
  match l, h with
  | [a, b], _ => exact ⟨a, b, rfl⟩
theorem len4 {l : List Value} (h : l.length = 4) : ∃ a b c d, l = [a, b, c, d] := by
  match l, h with
  | [a, b, c, d], _ => exact ⟨a, b, c, d, rfl⟩
theorem size3 {cs : Array Value} (h : cs.toList.length = 3) : ∃ a b c, cs = #[a, b, c] := by
  obtain ⟨l⟩ := cs
  match l, h with
  | [a, b, c], _ => exact ⟨a, b, c, rfl⟩
theorem weightsAll_in {H : Type} {P : Program} {e : TypeId} {d : DataW H} {n : Nat} (hn : n ∈ d.weights P e) : ∀ {l : List (DataW H)}, d ∈ l → n ∈ DataW.weightsAll P e l
  | [], h => by cases h
  | x :: r, h => by
    simp only [DataW.weightsAll, List.mem_append]
    rcases List.mem_cons.1 h with h | h
    · subst h; exact .inl hn
    · exact .inr (weightsAll_in hn h)
theorem open_bytes {H : Type} {enc : TypeId × Value → H} {W : World} {fuel : Nat} {cs : List Value} {x : DataW H × List MemPlace} (h : DataW.trod enc Tryz.prog W 0 (fun _ => true) true fuel 50 cs = some x) (hw : ∀ n ∈ x.1.weights Tryz.prog 50, n ≤ reachBytes) :
    ∃ (p : Option Addr) (L : List Int) (cap : Nat), cs = [.slice p L.length cap] ∧ ByIn W W.heap.size p L ∧ L.length ≤ 140737488351232 ∧ L.length ≤ cap := by
  rcases open_slice1 Tryz.underlying50 cells_u8 h with h0 | ⟨a, len, cap, m, n, V, D, Pl, rfl, hb, hl, hm, hmm, rfl, hx⟩
  · exact ⟨none, [], 0, h0.1, ⟨(fun x hx => by cases hx), .inl rfl⟩, Nat.zero_le _, Nat.zero_le _⟩
  simp only [if_true] at hmm
  subst hmm
  have each : ∀ i, i < len → ∃ z : Int, W.cell? (a.add i) = some (.int .u8 z) ∧ 0 ≤ z ∧ z ≤ 255 := by
    intro i hi
    obtain ⟨h1, h2⟩ := hx i (by omega)
    obtain ⟨z, e, _, hw⟩ := DataW.trod_int Tryz.underlying5 h2
    simp only [List.cons.injEq, and_true] at e
    exact ⟨z, by rw [h1, e], u8_bounds hw⟩
  obtain ⟨q, hq⟩ := choose_lt each
  have hlen : ((List.range len).map q).length = len := by simp
  have hle : len ≤ 140737488351232 := by
    have := hw ((len + (m - len)) * 1) (by simp [DataW.weights, Tryz.underlying50, bytes_u8])
    unfold reachBytes at this
    omega
  refine ⟨some a, (List.range len).map q, _, by rw [hlen], ⟨fun x hx => ?_, ?_⟩, by rw [hlen]; exact hle, by rw [hlen]; exact hl⟩
  · obtain ⟨i, hi, rfl⟩ := List.mem_map.1 hx
    exact (hq i (by simpa using hi)).2
  · by_cases h0 : len = 0
    · left; subst h0; rfl
    · right
      obtain ⟨b, off, spot⟩ := a
      have hspot : spot = none := by
        have := (hq 0 (by omega)).1
        simpa [Addr.add] using World.cell?_spot this
      subst hspot
      refine ⟨b, off, rfl, ?_, fun j x hj => ?_⟩
      · have := cell_in (hq 0 (by omega)).1
        simpa [Addr.add] using this
      · have hj' : j < len := by have := (List.getElem?_eq_some_iff.1 hj).1; simpa using this
        have e : x = q j := by rw [List.getElem?_map, List.getElem?_range hj'] at hj; simpa using hj.symm
        rw [e]
        have := (hq j hj').1
        rw [add_plain] at this
        exact this
theorem open_texts {H : Type} {enc : TypeId × Value → H} {W : World} {fuel : Nat} {cs : List Value} {x : DataW H × List MemPlace} (h : DataW.trod enc Tryz.prog W 0 (fun _ => true) true fuel 29 cs = some x) (hw : ∀ n ∈ x.1.weights Tryz.prog 29, n ≤ reachBytes) :
    ∃ (p : Option Addr) (ts : List (List Int)) (cap : Nat), cs = [.slice p ts.length cap] ∧ TxIn W W.heap.size p ts ∧ (∀ t ∈ ts, t.length ≤ 140737488351232) ∧ ts.length ≤ 140737488351232 := by
  rcases open_slice1 Tryz.underlying29 cells_bytes h with h0 | ⟨a, len, cap, m, n, V, D, Pl, rfl, hb, hl, hm, hmm, rfl, hx⟩
  · exact ⟨none, [], 0, h0.1, .inl rfl, (fun t ht => by cases ht), by simp⟩
  simp only [if_true] at hmm
  subst hmm
  have each : ∀ i, i < len → ∃ z : Option Addr × List Int × Nat, W.cell? (a.add i) = some (.slice z.1 z.2.1.length z.2.2) ∧ ByIn W W.heap.size z.1 z.2.1 ∧ z.2.1.length ≤ 140737488351232 := by
    intro i hi
    obtain ⟨h1, h2⟩ := hx i (by omega)
    obtain ⟨p, L, c, e, hB, hl2, _⟩ := open_bytes h2 (fun n hn => hw n (by
      simp only [DataW.weights, Tryz.underlying29, List.mem_cons, List.mem_append]
      exact .inr (.inl (weightsAll_in hn (List.mem_map.2 ⟨i, List.mem_range.2 hi, rfl⟩)))))
    simp only [List.cons.injEq, and_true] at e
    exact ⟨(p, L, c), by rw [h1, e], hB, hl2⟩
  obtain ⟨q, hq⟩ := choose_lt each
  have hlen : ((List.range len).map fun i => (q i).2.1).length = len := by simp
  refine ⟨some a, (List.range len).map fun i => (q i).2.1, _, by rw [hlen], ?_, fun t ht => ?_, by rw [hlen]; have := hw ((len + (m - len)) * 24) (by simp [DataW.weights, Tryz.underlying29, bytes_bytes]); unfold reachBytes at this; omega⟩
  rotate_left
  · obtain ⟨i, hi, rfl⟩ := List.mem_map.1 ht
    exact (hq i (by simpa using hi)).2.2
  by_cases h0 : len = 0
  · left; subst h0; rfl
  · right
    obtain ⟨b, off, spot⟩ := a
    have hspot : spot = none := by
      have := (hq 0 (by omega)).1
      simpa [Addr.add] using World.cell?_spot this
    subst hspot
    refine ⟨b, off, rfl, ?_, fun j t hj => ?_⟩
    · have := cell_in (hq 0 (by omega)).1
      simpa [Addr.add] using this
    · have hj' : j < len := by have := (List.getElem?_eq_some_iff.1 hj).1; simpa using this
      have e : t = (q j).2.1 := by rw [List.getElem?_map, List.getElem?_range hj'] at hj; simpa using hj.symm
      subst e
      have := (hq j hj').1
      rw [add_plain] at this
      exact ⟨(q j).1, (q j).2.2, this, (hq j hj').2.1⟩
theorem open_code {H : Type} {enc : TypeId × Value → H} {W : World} {fuel : Nat} {cs : List Value} {x : DataW H × List MemPlace} (h : DataW.trod enc Tryz.prog W 0 (fun _ => true) true fuel 37 cs = some x) (hw : ∀ n ∈ x.1.weights Tryz.prog 37, n ≤ reachBytes) :
    ∃ (p : Option Addr) (l : List (Int × Int)) (cap : Nat), cs = [.slice p l.length cap] ∧ InIn W W.heap.size p l ∧ MI l ∧ l.length ≤ 140737488351232 := by
  rcases open_slice Tryz.underlying37 h with h0 | ⟨a, len, cap, m, n, D, Pl, rfl, hb, hl, hm, hmm, rfl, hx⟩
  · exact ⟨none, [], 0, h0.1, .inl rfl, (fun t ht => by cases ht), by simp⟩
  simp only [if_true] at hmm
  subst hmm
  have each : ∀ i, i < len → ∃ q : Int × Int, W.cell? (a.add (i * 2)) = some (.int .i64 q.1) ∧ W.cell? (a.add (i * 2 + 1)) = some (.int .i64 q.2) ∧ (-9223372036854775808 ≤ q.1 ∧ q.1 ≤ 9223372036854775807) ∧ -9223372036854775808 ≤ q.2 ∧ q.2 ≤ 9223372036854775807 := by
    intro i hi
    obtain ⟨cs', h1, h2⟩ := hx i (by omega)
    rw [cells_ins] at h1
    obtain ⟨_, hlen, hcell⟩ := World.cells?_some h1
    obtain ⟨y0, y1, n', hxy, hl3, g0, g1⟩ := trod_struct2 Tryz.underlying55 h2
    obtain ⟨v0, v1, rfl⟩ := len2 hlen
    · skip
      simp [cells_int] at g0 g1
      obtain ⟨z0, e0, _, w0⟩ := DataW.trod_int Tryz.underlying3 g0
      obtain ⟨z1, e1, _, w1⟩ := DataW.trod_int Tryz.underlying3 g1
      simp only [List.cons.injEq, and_true] at e0 e1
      have f0 := hcell 0 (by omega)
      have f1 := hcell 1 (by omega)
      rw [add_add] at f0 f1
      exact ⟨(z0, z1), by simpa [e0] using f0, by simpa [e1] using f1, i64_bounds w0, i64_bounds w1⟩
  obtain ⟨q, hq⟩ := choose_lt each
  have hlen : ((List.range len).map q).length = len := by simp
  have hle : len ≤ 140737488351232 := by
    have := hw ((len + (m - len)) * 16) (by simp [DataW.weights, Tryz.underlying37, bytes_ins])
    unfold reachBytes at this
    omega
  refine ⟨some a, (List.range len).map q, _, by rw [hlen], ?_, fun t ht => ?_, by rw [hlen]; exact hle⟩
  rotate_left
  · obtain ⟨i, hi, rfl⟩ := List.mem_map.1 ht
    exact (hq i (by simpa using hi)).2.2
  by_cases h0 : len = 0
  · left; subst h0; rfl
  · right
    obtain ⟨b, off, spot⟩ := a
    have hspot : spot = none := by
      have := (hq 0 (by omega)).1
      simpa [Addr.add] using World.cell?_spot this
    subst hspot
    refine ⟨b, off, rfl, ?_, fun j t hj => ?_⟩
    · have := cell_in (hq 0 (by omega)).1
      simpa [Addr.add] using this
    · have hj' : j < len := by have := (List.getElem?_eq_some_iff.1 hj).1; simpa using this
      have e : t = q j := by rw [List.getElem?_map, List.getElem?_range hj'] at hj; simpa using hj.symm
      subst e
      have k1 := (hq j hj').1
      have k2 := (hq j hj').2.1
      rw [add_plain] at k1 k2
      exact ⟨k1, by rw [Nat.add_assoc]; exact k2⟩
theorem open_funcs {H : Type} {enc : TypeId × Value → H} {W : World} {fuel : Nat} {cs : List Value} {x : DataW H × List MemPlace} (h : DataW.trod enc Tryz.prog W 0 (fun _ => true) true fuel 30 cs = some x) (hw : ∀ n ∈ x.1.weights Tryz.prog 30, n ≤ reachBytes) :
    ∃ (p : Option Addr) (fs : List (Int × Int × Int × List (Int × Int))) (cap : Nat), cs = [.slice p fs.length cap] ∧ FnIn W W.heap.size p fs ∧ (∀ f ∈ fs, MI f.2.2.2 ∧ f.2.2.2.length ≤ 140737488351232) ∧ fs.length ≤ 140737488351232 := by
  rcases open_slice Tryz.underlying30 h with h0 | ⟨a, len, cap, m, n, D, Pl, rfl, hb, hl, hm, hmm, rfl, hx⟩
  · exact ⟨none, [], 0, h0.1, .inl rfl, (fun t ht => by cases ht), by simp⟩
  simp only [if_true] at hmm
  subst hmm
  have each : ∀ i, i < len → ∃ q : (Int × Int × Int × List (Int × Int)) × Option Addr × Nat, W.cell? (a.add (i * 4)) = some (.int .i64 q.1.1) ∧ W.cell? (a.add (i * 4 + 1)) = some (.int .i64 q.1.2.1) ∧ W.cell? (a.add (i * 4 + 2)) = some (.int .i64 q.1.2.2.1) ∧ W.cell? (a.add (i * 4 + 3)) = some (.slice q.2.1 q.1.2.2.2.length q.2.2) ∧ InIn W W.heap.size q.2.1 q.1.2.2.2 ∧ MI q.1.2.2.2 ∧ q.1.2.2.2.length ≤ 140737488351232 := by
    intro i hi
    obtain ⟨cs', h1, h2⟩ := hx i (by omega)
    rw [cells_func] at h1
    obtain ⟨_, hlen, hcell⟩ := World.cells?_some h1
    obtain ⟨y0, y1, y2, y3, n', hxy, hl3, g0, g1, g2, g3⟩ := Go.Joins.trod_struct4 Tryz.underlying39 h2
    obtain ⟨v0, v1, v2, v3, rfl⟩ := len4 hlen
    · skip
      simp [cells_int, cells_code] at g0 g1 g2 g3
      obtain ⟨z0, e0, _, w0⟩ := DataW.trod_int Tryz.underlying3 g0
      obtain ⟨z1, e1, _, w1⟩ := DataW.trod_int Tryz.underlying3 g1
      obtain ⟨z2, e2, _, w2⟩ := DataW.trod_int Tryz.underlying3 g2
      obtain ⟨p3, l3, c3, e3, hI, hMI, hl4⟩ := open_code g3 (fun k hk => hw k (by
        simp only [DataW.weights, Tryz.underlying30, List.mem_cons, List.mem_append]
        refine .inr (.inl (weightsAll_in (d := D i) ?_ (List.mem_map.2 ⟨i, List.mem_range.2 hi, rfl⟩)))
        have hD : D i = _ := congrArg Prod.fst hxy
        rw [hD]
        simp [DataW.weights, DataW.weightsEach, Tryz.underlying39, hk]))
      simp only [List.cons.injEq, and_true] at e0 e1 e2 e3
      have f0 := hcell 0 (by omega)
      have f1 := hcell 1 (by omega)
      have f2 := hcell 2 (by omega)
      have f3 := hcell 3 (by omega)
      rw [add_add] at f0 f1 f2 f3
      exact ⟨((z0, z1, z2, l3), p3, c3), by simpa [e0] using f0, by simpa [e1] using f1, by simpa [e2] using f2, by simpa [e3] using f3, hI, hMI, hl4⟩
  obtain ⟨q, hq⟩ := choose_lt each
  have hlen : ((List.range len).map fun i => (q i).1).length = len := by simp
  have hle : len ≤ 140737488351232 := by
    have := hw ((len + (m - len)) * 48) (by simp [DataW.weights, Tryz.underlying30, bytes_func])
    unfold reachBytes at this
    omega
  refine ⟨some a, (List.range len).map fun i => (q i).1, _, by rw [hlen], ?_, fun t ht => ?_, by rw [hlen]; exact hle⟩
  rotate_left
  · obtain ⟨i, hi, rfl⟩ := List.mem_map.1 ht
    exact (hq i (by simpa using hi)).2.2.2.2.2
  by_cases h0 : len = 0
  · left; subst h0; rfl
  · right
    obtain ⟨b, off, spot⟩ := a
    have hspot : spot = none := by
      have := (hq 0 (by omega)).1
      simpa [Addr.add] using World.cell?_spot this
    subst hspot
    refine ⟨b, off, rfl, ?_, fun j t hj => ?_⟩
    · have := cell_in (hq 0 (by omega)).1
      simpa [Addr.add] using this
    · have hj' : j < len := by have := (List.getElem?_eq_some_iff.1 hj).1; simpa using this
      have e : t = (q j).1 := by rw [List.getElem?_map, List.getElem?_range hj'] at hj; simpa using hj.symm
      subst e
      obtain ⟨k1, k2, k3, k4, k5, _⟩ := hq j hj'
      rw [add_plain] at k1 k2 k3 k4
      exact ⟨(q j).2.1, (q j).2.2, k1, by rw [Nat.add_assoc]; exact k2, by rw [Nat.add_assoc]; exact k3, by rw [Nat.add_assoc]; exact k4, k5⟩
/-- a program among the arguments -/
theorem open_prog {H : Type} {enc : TypeId × Value → H} {W : World} {fuel : Nat} {v : Value} {x : DataW H × List MemPlace} (hv : ∃ cs : Array Value, v = .agg cs) (h : DataW.trod enc Tryz.prog W 0 (fun _ => true) true fuel 32 v.cells.toList = some x) (hw : ∀ n ∈ x.1.weights Tryz.prog 32, n ≤ reachBytes) :
    ∃ (g : Int) (ta fa : Option Addr) (ts : List (List Int)) (fs : List (Int × Int × Int × List (Int × Int))) (tc fc : Nat), v = .agg #[.int .i64 g, .slice ta ts.length tc, .slice fa fs.length fc] ∧ TxIn W W.heap.size ta ts ∧ FnIn W W.heap.size fa fs ∧ (∀ t ∈ ts, t.length ≤ 140737488351232) ∧ ts.length ≤ 140737488351232 ∧ (∀ f ∈ fs, MI f.2.2.2 ∧ f.2.2.2.length ≤ 140737488351232) ∧ fs.length ≤ 140737488351232 := by
  obtain ⟨cs, rfl⟩ := hv
  obtain ⟨y0, y1, y2, n', hxy, hl3, g0, g1, g2⟩ := trod_struct3 Tryz.underlying32 h
  have hc : (Value.agg cs).cells = cs := rfl
  rw [hc] at hl3 g0 g1 g2
  rw [cells_prog] at hl3
  obtain ⟨v0, v1, v2, rfl⟩ := size3 hl3
  simp [cells_int, cells_texts, cells_funcs] at g0 g1 g2
  subst hxy
  obtain ⟨z0, e0, _, w0⟩ := DataW.trod_int Tryz.underlying3 g0
  obtain ⟨p1, ts, c1, e1, k1, k2, k3⟩ := open_texts g1 (fun k hk => hw k (by simp [DataW.weights, DataW.weightsEach, Tryz.underlying32, hk]))
  obtain ⟨p2, fs, c2, e2, m1, m2, m3⟩ := open_funcs g2 (fun k hk => hw k (by simp [DataW.weights, DataW.weightsEach, Tryz.underlying32, hk]))
  simp only [List.cons.injEq, and_true] at e0 e1 e2
  subst e0 e1 e2
  exact ⟨z0, p1, p2, ts, fs, c1, c2, rfl, k1, m1, k2, k3, m2, m3⟩
end Go.Proofs.YtcnjlbjpeklgkaaGreatDoor
namespace Go.Proofs.YtcnjlbjpeklgkaaGreatDoor
open Go.RowKit
set_option linter.unusedVariables false
set_option linter.unusedSimpArgs false

theorem empty_eq {s : ByteArray} (h : bt s = []) : (s.toList == []) = true := by
  have := bt_nil.1 h
  subst this
  rw [ByteArray.toList_eq]
  rfl
set_option maxRecDepth 100000 in
set_option maxHeartbeats 4000000 in
theorem back25_any {w : World} (h : Gx w) (x : Int) (ts : List (List Int)) (fs : List FnF) (ta fa : Option Addr) (nt nf tc fc : Nat) (hnt : ts.length = nt) (hnf : fs.length = nf) (hts : TxIn w w.heap.size ta ts) (hfs : FnIn w w.heap.size fa fs) (h1 : LimN nt) (h2 : LimN nf) (h3 : ∀ t ∈ ts, LimN t.length) (h4 : ∀ f ∈ fs, LimN f.2.2.2.length) (hM : ∀ f ∈ fs, MI f.2.2.2) :
    Calls Tryz.prog 6 #[.agg #[.int .i64 x, .slice ta nt tc, .slice fa nf fc]] w fun e w' => e = .returned (.bool true) ∧ Out 0 0 w w' := by
  obtain ⟨b, hb⟩ : ∃ b, w.heap.size = b := ⟨_, rfl⟩
  obtain ⟨V, hV⟩ : ∃ V, w.alloc (.cells #[.int .i64 x, .slice ta nt tc, .slice fa nf fc] 32) = V := ⟨_, rfl⟩
  have hx := Bl.new w #[.int .i64 x, .slice ta nt tc, .slice fa nf fc] 32
  rw [hV, hb] at hx
  rw [hb] at hts hfs
  have hoV : Out 0 0 w V := by rw [← hV]; exact (Out.refl 0 0 w).alloc _
  have hVs : V.heap.size = b + 1 := by rw [← hV, size_alloc, hb]
  have k0 := hx.cell (i := 0) rfl
  have k1 := hx.cell (i := 1) rfl
  have k2 := hx.cell (i := 2) rfl
  have HX := hid_mk hx
  have HOV := hid_mk hoV
  have HG := hid_mk (h.out hoV)
  have HT := hid_mk (hts.kept (Lo.of_out (B := b) hoV) (Nat.le_refl _))
  have HF := hid_mk (hfs.kept (Lo.of_out (B := b) hoV) (Nat.le_refl _))
  have HN := hid_mk (And.intro hnt hnf)
  have HM := hid_mk hM
  have HVs := hid_mk hVs
  have HFT := hid_mk (fitsW_any (w := V) (B := b) x ts fs ta fa nt nf tc fc hnt hnf HT.out HF.out h1 h2 h3 h4)
  clear hx hoV h hts hfs hnt hnf hM hVs h1 h2 h3 h4
  go_enter Tryz.func6, Tryz.ntmps6
  go_wp2_with (go_at_call 16; refine HFT.out.mono ?_; rintro e w1 ⟨⟨fb, rfl, _⟩, o1⟩; have l0 := o1.cell k0 (.inr (Nat.zero_le _)); have l1 := o1.cell k1 (.inr (Nat.zero_le _)); have l2 := o1.cell k2 (.inr (Nat.zero_le _)); have HO1 := hid_mk o1; clear o1; cases fb)
  · go_wp2_with (go_at_call 13; refine (alive25 (HG.out.out HO1.out)).mono ?_; rintro e w5 ⟨rfl, o5⟩)
    go_ret
    exact ⟨rfl, (HOV.out.trans HO1.out).trans o5⟩
  · go_at_call 18
    refine (print_any (B := b) (HG.out.out HO1.out).2.2.1 (HG.out.out HO1.out).2.2.2.1 (HG.out.out HO1.out).2.1 (by have := HVs.out; have := HO1.out.size; omega) (HG.out.out HO1.out).2.2.2.2 x ts fs ta fa nt tc nf fc HN.out.1 HN.out.2 (HT.out.kept (Lo.of_out (B := b) HO1.out) (Nat.le_refl _)) (HF.out.kept (Lo.of_out (B := b) HO1.out) (Nat.le_refl _)) HM.out).mono ?_
    rintro e w2 ⟨s, hs, hs0, he, o2⟩
    have HO2 := hid_mk o2
    clear o2
    rcases wr_vals (x, ts, fs) with hw | hw | hw
    · have hs2 := hs hw
      have HW := hid_mk hw
      rw [hw] at he
      subst he
      have HA2 := hid_mk (asm_known nt nf (by rw [hs2]; exact pg_back HW.out HT.out) HN.out.1 HN.out.2 (HG.out.out (HO1.out.trans HO2.out)))
      clear hs hs0 hs2 hw l0 l1 l2
      go_wp2_with (go_at_call 19; refine HA2.out.mono ?_; rintro e w3 ⟨o3, ta2, tc2, fa2, fc2, rfl, h1, h2⟩; have hb2 := Bl.new w3 #[.int .i64 x, .slice ta2 nt tc2, .slice fa2 nf fc2] 32; have HB2 := hid_mk hb2; have H2 := hid_mk (And.intro h1 h2); have HO3 := hid_mk o3; clear hb2 h1 h2 o3)
      obtain ⟨b2, hbw⟩ : ∃ b2, w3.heap.size = b2 := ⟨_, rfl⟩
      obtain ⟨W3, hW3⟩ : ∃ W3, w3.alloc (.cells #[.int .i64 x, .slice ta2 nt tc2, .slice fa2 nf fc2] 32) = W3 := ⟨_, rfl⟩
      have oW : Out 0 0 w3 W3 := by rw [← hW3]; exact (Out.refl 0 0 w3).alloc _
      rw [hW3, hbw] at HB2
      rw [hbw] at H2
      rw [hW3]
      (try rw [hbw])
      have HT2 := hid_mk (H2.out.1.kept (Lo.of_out (B := b2) oW) (Nat.le_refl _))
      have HF2 := hid_mk (H2.out.2.kept (Lo.of_out (B := b2) oW) (Nat.le_refl _))
      have HW13 := hid_mk (((HO1.out.trans HO2.out).trans HO3.out).trans oW)
      have HLe := hid_mk (show b ≤ b2 by have h1 := HO2.out.size; have h2 := HO3.out.size; have h3 := HVs.out; have h4 := HO1.out.size; omega)
      clear hW3 hbw oW H2
      go_at_call 13
      refine (alive25 (HG.out.out HW13.out)).mono ?_
      rintro e w5 ⟨rfl, o5⟩
      have j0 := (HX.out.kept (HW13.out.trans o5) (.inr (Nat.zero_le _))).cell (i := 0) rfl
      have j1 := (HX.out.kept (HW13.out.trans o5) (.inr (Nat.zero_le _))).cell (i := 1) rfl
      have j2 := (HX.out.kept (HW13.out.trans o5) (.inr (Nat.zero_le _))).cell (i := 2) rfl
      have i0 := (HB2.out.kept o5 (.inr (Nat.zero_le _))).cell (i := 0) rfl
      have i1 := (HB2.out.kept o5 (.inr (Nat.zero_le _))).cell (i := 1) rfl
      have i2 := (HB2.out.kept o5 (.inr (Nat.zero_le _))).cell (i := 2) rfl
      have HO5 := hid_mk o5
      clear o5 k0 k1 k2
      go_wp2_with (go_at_call 20; refine (same_any (B := b2) x x ts ts fs fs ta ta2 fa fa2 nt nt nf nf tc tc2 fc fc2 HN.out.1 HN.out.1 HN.out.2 HN.out.2 (((HT.out.kept (Lo.of_out (B := b) (HW13.out.trans HO5.out)) (Nat.le_refl _))).up HLe.out) (HT2.out.kept (Lo.of_out (B := b2) HO5.out) (Nat.le_refl _)) (((HF.out.kept (Lo.of_out (B := b) (HW13.out.trans HO5.out)) (Nat.le_refl _))).up HLe.out) (HF2.out.kept (Lo.of_out (B := b2) HO5.out) (Nat.le_refl _)) (by have := ok_big (wr_zero HW.out).1; rw [← HN.out.1, ← HN.out.2]; exact this)).mono ?_; rintro e w6 ⟨⟨bb, rfl, hbb⟩, o6⟩; obtain rfl := hbb.2 rfl; have HO6 := hid_mk o6; clear o6 hbb)
      go_ret
      exact ⟨rfl, ((HOV.out.trans HW13.out).trans HO5.out).trans HO6.out⟩
    · have hs2 := empty_eq (hs0 (by rw [hw]; decide))
      rw [hw] at he
      subst he
      clear hs hs0 hw l0 l1 l2 k0 k1 k2
      go_wp2_with (go_at_call 13; refine (alive25 (HG.out.out (HO1.out.trans HO2.out))).mono ?_; rintro e w5 ⟨rfl, o5⟩; have HO5 := hid_mk o5; clear o5)
      go_ret
      exact ⟨rfl, ((HOV.out.trans HO1.out).trans HO2.out).trans HO5.out⟩
    · have hs2 := empty_eq (hs0 (by rw [hw]; decide))
      rw [hw] at he
      subst he
      clear hs hs0 hw l0 l1 l2 k0 k1 k2
      go_wp2_with (go_at_call 13; refine (alive25 (HG.out.out (HO1.out.trans HO2.out))).mono ?_; rintro e w5 ⟨rfl, o5⟩; have HO5 := hid_mk o5; clear o5)
      go_ret
      exact ⟨rfl, ((HOV.out.trans HO1.out).trans HO2.out).trans HO5.out⟩
end Go.Proofs.YtcnjlbjpeklgkaaGreatDoor
