import Derived.Test.YtkghabmgofgclaaDoorQay
import Derived.Test.YtkghabmgofgclaaDoorQax
import Derived.Test.YtkghabmgofgclaaDoorQba
import Derived.Test.YtkghabmgofgclaaDoorQap
import Derived.Test.YtkghabmgofgclaaDoorQar
import Derived.Deep.Cut
namespace Go.Proofs.YtkghabmgofgclaaDoor
open Go.RowKit
set_option linter.unusedVariables false
set_option linter.unusedSimpArgs false

theorem TxIn.upK {w : World} {B C : Nat} {p : Option Addr} {ts : List (List Int)} (h : TxIn w B p ts) (hc : B ≤ C) : TxIn w C p ts := by
  rcases h with h | ⟨g, off, h1, h2, h3⟩
  · exact .inl h
  · refine .inr ⟨g, off, h1, by omega, fun j t hj => ?_⟩
    obtain ⟨pj, cj, c1, hb, c2⟩ := h3 j t hj
    refine ⟨pj, cj, c1, hb, ?_⟩
    rcases c2 with c2 | ⟨g2, o2, q1, q2, q3⟩
    · exact .inl c2
    · exact .inr ⟨g2, o2, q1, by omega, q3⟩
theorem FnIn.upK {w : World} {B C : Nat} {p : Option Addr} {fs : List (Int × Int × Int × List (Int × Int))} (h : FnIn w B p fs) (hc : B ≤ C) : FnIn w C p fs := by
  rcases h with h | ⟨g, off, h1, h2, h3⟩
  · exact .inl h
  · refine .inr ⟨g, off, h1, by omega, fun j t hj => ?_⟩
    obtain ⟨pj, cj, c1, c2, c3, c4, c5⟩ := h3 j t hj
    refine ⟨pj, cj, c1, c2, c3, c4, ?_⟩
    rcases c5 with c5 | ⟨g2, o2, q1, q2, q3⟩
    · exact .inl c5
    · exact .inr ⟨g2, o2, q1, by omega, q3⟩
theorem ByIn.upK {w : World} {B C : Nat} {p : Option Addr} {t : List Int} (h : ByIn w B p t) (hc : B ≤ C) : ByIn w C p t := by
  refine ⟨h.1, ?_⟩
  rcases h.2 with c5 | ⟨g2, o2, q1, q2, q3⟩
  · exact .inl c5
  · exact .inr ⟨g2, o2, q1, by omega, q3⟩
theorem results_c3 {P : Program} {fn : Func} {p q r s : Tmp} {a : TypeId} {t : Array Value} {w : World} {v1 v2 v3 v4 : Value} {A1 : Addr} (hr : fn.results = #[.cell p a, .tmp q, .tmp r, .tmp s]) (hp : t.getD p undef = .pointer (some A1)) (hq : t.getD q undef = v2) (hr' : t.getD r undef = v3) (hs : t.getD s undef = v4) (r1 : (loadVar a A1).run P w = .ok v1 w) : (results fn t).run P w = .ok (.tuple #[v1, v2, v3, v4]) w := by
  have hp' : t[p]?.getD undef = .pointer (some A1) := by simpa using hp
  have hq' : t[q]?.getD undef = v2 := by simpa using hq
  have hr2 : t[r]?.getD undef = v3 := by simpa using hr'
  have hs' : t[s]?.getD undef = v4 := by simpa using hs
  simp only [results, hr]
  simp [Sem.run_bind, hp', hq', hr2, hs', asAddr, r1, Result.andThen]
theorem nx_er {n i : Nat} {op d : Int} {s : List Int × List Nat} {e : Int} (h : nxF n i op d s = .inl e) : e = 76 ∨ e = 77 := by
  unfold nxF at h
  split at h
  · split at h
    · split at h
      · cases h
      · cases h; exact .inl rfl
    · cases h; exact .inr rfl
  · cases h
theorem ju_er {op a d : Int} {s : List Int × List Nat} {e : Int} (h : juF op a d s = .inl e) : e = 76 := by
  unfold juF at h
  split at h
  · split at h
    · cases h
    · cases h; rfl
  · cases h
theorem st_er7 {t : Int} {n i : Nat} {x : Int × Int} {s : List Int × List Nat} {e : Int} (h : stF t n i x s = .inl e) : 74 ≤ e := by
  unfold stF at h
  split at h
  · cases h; decide
  · split at h
    · cases h; decide
    · split at h
      · rename_i hq
        cases h
        rcases nx_er hq with rfl | rfl <;> decide
      · rw [ju_er h]; decide
theorem wyF_er {tk : Int × Int → Int} {C : List (Int × Int)} {e : Int} {i : Nat} : ∀ {k : Nat} {s : List Int × List Nat}, wyF tk C k s = .inl (e, i) → 74 ≤ e
  | 0, s, h => by simp [wyF] at h
  | k + 1, (D, []), h => by simp [wyF] at h
  | k + 1, (D, j :: R), h => by
    rw [wyF] at h
    split at h
    · rename_i hq
      cases h
      exact st_er7 hq
    · exact wyF_er h
/-- the two blocks of the document's Check -/
def RC (w wr : World) (b : Nat) (pc : Array Value) : Prop := Bl wr b pc 25 ∧ Bl wr (b + 1) #[.slice none 0 0, .slice none 0 0] 71 ∧ Out 0 0 w wr ∧ w.heap.size = b
theorem RC.quiet {w wr w2 : World} {b : Nat} {pc : Array Value} (h : RC w wr b pc) (o : Out 0 0 wr w2) : RC w w2 b pc := ⟨h.1.kept o (.inr (Nat.zero_le _)), h.2.1.kept o (.inr (Nat.zero_le _)), h.2.2.1.trans o, h.2.2.2⟩
/-- how it ends with an error -/
theorem rc_err {w wr : World} {b : Nat} {pc : Array Value} {er : Int} {f i : Nat} {o : Sum (Int × Nat × Nat) (List Int × List (List Int))} {t : Array Value} (h : RC w wr b pc) (he : o = .inl (er, f, i)) (t2 : t.getD 2 undef = .pointer (some ⟨b + 1, 0, none⟩)) (t3 : t.getD 3 undef = .int .i64 f) (t4 : t.getD 4 undef = .int .i64 i) (t5 : t.getD 5 undef = .int .i64 er) :
    bodyPost Tryd.prog Tryd.f33 (CkQ w o) .ret { tmps := t, defers := [] } ((wr.setCell ⟨b + 1, 0, none⟩ (.slice none 0 0)).setCell ⟨b + 1, 1, none⟩ (.slice none 0 0)) := by
  subst he
  have hF := (h.2.1.set 0 (.slice none 0 0)).set 1 (.slice none 0 0)
  have hx : Fx (fun z => z = b + 1) wr ((wr.setCell ⟨b + 1, 0, none⟩ (.slice none 0 0)).setCell ⟨b + 1, 1, none⟩ (.slice none 0 0)) := ((Fx.refl (fun z => z = b + 1) _).set (p := ⟨b + 1, 0, none⟩) (.inl rfl) _).set (p := ⟨b + 1, 1, none⟩) (.inl rfl) _
  refine bodyPost_ret (v := .tuple #[.agg #[.slice none 0 0, .slice none 0 0], .int .i64 f, .int .i64 i, .int .i64 er]) (results_c3 Tryd.results33 t2 t3 t4 t5 (load_ck hF)) rfl ⟨?_, .inr ⟨er, f, i, rfl, rfl⟩⟩
  exact (Fx.then (S := fun _ => False) (Fx.of_out h.2.2.1) hx fun k hk hq => by have := h.2.2.2; omega).out fun _ _ q => q
set_option maxRecDepth 100000 in
set_option maxHeartbeats 4000000 in
theorem rcheck_any {w : World} (x : Int) (ts : List (List Int)) (fs : List (Int × Int × Int × List (Int × Int))) (ta fa : Option Addr) (nt tc nf fc : Nat) (hnt : ts.length = nt) (hnf : fs.length = nf) (hts : TxIn w w.heap.size ta ts) (hfs : FnIn w w.heap.size fa fs) (hM : ∀ f ∈ fs, MI f.2.2.2) (h1 : Li nt) (h2 : Li nf) (h3 : ∀ t ∈ ts, Li t.length) (h4 : ∀ f ∈ fs, Li f.2.2.2.length) :
    Calls Tryd.prog 33 #[.agg #[.int .i64 x, .slice ta nt tc, .slice fa nf fc]] w (CkQ w (ckV (x, ts, fs))) := by
  obtain ⟨b, hb⟩ : ∃ b, w.heap.size = b := ⟨_, rfl⟩
  obtain ⟨V, hV⟩ : ∃ V, (w.alloc (.cells #[.int .i64 x, .slice ta nt tc, .slice fa nf fc] 25)).alloc (.cells #[.slice none 0 0, .slice none 0 0] 71) = V := ⟨_, rfl⟩
  have hRC : RC w V b #[.int .i64 x, .slice ta nt tc, .slice fa nf fc] := by
    rw [← hV, ← hb]
    refine ⟨(Bl.new _ _ _).alloc _, ?_, ((Out.refl 0 0 w).alloc _).alloc _, rfl⟩
    have := Bl.new (w.alloc (.cells #[.int .i64 x, .slice ta nt tc, .slice fa nf fc] 25)) #[.slice none 0 0, .slice none 0 0] 71
    rwa [size_alloc] at this
  have oV := hRC.2.2.1
  have HWr := hid_mk (rwrite_any (w := V) x ts fs ta fa nt tc nf fc hnt hnf ((hts.kept (C := w.heap.size) (Lo.of_out oV) (Nat.le_refl _)).upK oV.size) ((hfs.kept (C := w.heap.size) (Lo.of_out oV) (Nat.le_refl _)).upK oV.size) hM h1 h2 h3 h4)
  have k0 := hRC.1.cell (i := 0) rfl
  have k1 := hRC.1.cell (i := 1) rfl
  have k2 := hRC.1.cell (i := 2) rfl
  have HRC := hid_mk hRC
  have HH := hid_mk (And.intro hnt (And.intro hnf (And.intro hts (And.intro hfs hM))))
  clear hnt hnf hts hfs hM h1 h2 h3 h4 hRC oV
  go_enter Tryd.func33, Tryd.ntmps33
  go_wp2_with fail
  (try rw [hV])
  (try rw [hb])
  clear hV hb
  refine HWr.out.mono ?_
  clear HWr
  rintro e w1 ⟨a1, K1, c1, rfl, -, o1⟩
  have hR1 := HRC.out.quiet o1
  have HR1 := hid_mk hR1
  have z0 := hR1.2.1.cell (i := 0) rfl
  have z1 := hR1.2.1.cell (i := 1) rfl
  have y0 := hR1.2.1.frozen 0
  have y1 := hR1.2.1.frozen 1
  by_cases hw : wrE (x, ts, fs) = 0
  · rw [hw]
    have HE : Hid (ckV (x, ts, fs) = chF x ts.length fs) := hid_mk (by unfold ckV; rw [if_pos hw])
    have hok := (wr_zero hw).1
    obtain ⟨hnt, hnf, hts, hfs, hM⟩ := HH.out
    obtain ⟨f0, hf0⟩ : ∃ f0, fs[0]? = some f0 := ⟨_, List.getElem?_eq_getElem (by have := hok.2.2.2.1.1; simp only [] at this; omega)⟩
    obtain ⟨q, off, pj, cj, rfl, hq, c0, c1x, c2, c3, c4⟩ := fn_cells (hfs.kept (C := w.heap.size) (Lo.of_out hR1.2.2.1) (Nat.le_refl _)) hf0
    have hnf0 : (0 : Int) < (nf : Int) := by have := hok.2.2.2.1.1; simp only [] at this; omega
    simp only [Nat.zero_mul, Nat.add_zero] at c0 c2
    replace k2 := hR1.1.cell (i := 2) rfl
    have HOK := hid_mk hok
    clear hw hok hnt hnf hts hfs hM hq c1x c3 c4 hR1 o1 k0 k1 HRC
    have hg0 := (HOK.out.2.2.2.2 f0 (List.mem_of_getElem? hf0)).1.1
    have hg2 := (HOK.out.2.2.2.2 f0 (List.mem_of_getElem? hf0)).2.2.1.1
    by_cases hm : f0.1 = 0 ∧ f0.2.2.1 = 0
    · have HE2 := hid_mk (HE.out.trans (ch_go hf0 hm))
      have m1 : decide (0 < f0.1) = false := by rw [hm.1]; rfl
      have m2 : decide (0 < f0.2.2.1) = false := by rw [hm.2]; rfl
      clear hm hf0 hg0 hg2 z0 z1 y0 y1
      go_wp2
      clear c0 c2 m1 m2 k2 hnf0
      go_loopw [8] (fun c wr => ∃ m : Nat, c = .int .i64 m ∧ m ≤ nf ∧ ptF x ts.length fs.length m (fs.drop m) = ptF x ts.length fs.length 0 fs ∧ RC w wr b #[.int .i64 x, .slice ta nt tc, .slice (some ⟨q, off, none⟩) nf fc]) (fun c _ => nf - (intOf c).toNat)
      case atStart => exact ⟨0, rfl, Nat.zero_le _, rfl, HR1.out⟩
      case round =>
        obtain ⟨m, rfl, hmf, hp, hR⟩ := hrel
        have HP := hid_mk hp
        have HR := hid_mk hR
        have k2 := hR.1.cell (i := 2) rfl
        have hn64 : nf ≤ 1000 := by have := HOK.out.2.2.2.1.2; have := HH.out.2.1; simp only [] at *; omega
        by_cases hgo : m < nf
        · obtain ⟨l1, l2⟩ := lt_dec hgo
          obtain ⟨hnt, hnf, hts, hfs, hM⟩ := HH.out
          obtain ⟨⟨P, L, C, cd⟩, hf⟩ : ∃ f, fs[m]? = some f := ⟨_, List.getElem?_eq_getElem (by omega)⟩
          obtain ⟨q', off', pj, cj, eq, hq, c0, c1, c2, c3, hin⟩ := fn_cells (hfs.kept (C := w.heap.size) (Lo.of_out hR.2.2.1) (Nat.le_refl _)) hf
          cases eq
          simp only [] at c0 c1 c2 c3 hin
          obtain ⟨n, hn⟩ : ∃ n, cd.length = n := ⟨_, rfl⟩
          rw [hn] at c3
          have hfo := HOK.out.2.2.2.2 _ (List.mem_of_getElem? hf)
          have hn4 : n ≤ 4096 := by have := hfo.2.2.2.1; simp only [] at this; omega
          obtain ⟨G, hG⟩ : ∃ G, wr.heap.size = G := ⟨_, rfl⟩
          obtain ⟨W2, hW2⟩ : ∃ W2, wr.alloc (.cells #[.int .i64 P, .int .i64 L, .int .i64 C, .slice pj n cj] 41) = W2 := ⟨_, rfl⟩
          have oW : Out 0 0 wr W2 := by rw [← hW2]; exact (Out.refl 0 0 wr).alloc _
          have bF : Bl W2 G #[.int .i64 P, .int .i64 L, .int .i64 C, .slice pj n cj] 41 := by rw [← hW2, ← hG]; exact Bl.new _ _ _
          have hR2 := hR.quiet oW
          have e0 := bF.cell (i := 0) rfl
          have e1 := bF.cell (i := 1) rfl
          have e2 := bF.cell (i := 2) rfl
          have e3 := bF.cell (i := 3) rfl
          have z0 := hR2.2.1.cell (i := 0) rfl
          have z1 := hR2.2.1.cell (i := 1) rfl
          have y0 := hR2.2.1.frozen 0
          have y1 := hR2.2.1.frozen 1
          have lmi : (m : Int) < (nf : Int) := by omega
          have HF : Hid (fs[m]? = some (P, L, C, cd) ∧ cd.length = n ∧ n ≤ 4096 ∧ m < nf ∧ ts.length = nt ∧ fs.length = nf ∧ nf ≤ 1000) := hid_mk ⟨hf, hn, hn4, hgo, hnt, hnf, hn64⟩
          have HR2 := hid_mk (And.intro hR2 (And.intro bF (hin.kept (C := w.heap.size) (Lo.of_out oW) (Nat.le_refl _))))
          have hOKI := hfo.2.2.2.2
          have HOI := hid_mk hOKI
          clear hp hR hmf hgo hnt hnf hts hfs hM hq hf hin hn hn4 hfo oW bF hR2 hn64 hOKI
          by_cases hbad : L < P ∨ n = 0
          · have HE3 : Hid (ckV (x, ts, fs) = .inl (71, m, 0)) := hid_mk (by
              have h2 := HE2.out
              rw [← HP.out, drop_at HF.out.1, pt_er (e := 71) (i := 0) (by unfold paF; rw [if_pos (by simp only []; rw [HF.out.2.1]; exact hbad)])] at h2
              exact h2)
            by_cases hPL : L < P
            · have g1 : decide (L < P) = true := by simpa using hPL
              clear hbad hPL
              go_wp2_with fail
              exact rc_err (f := m) (i := 0) HR2.out.1 HE3.out rfl rfl rfl rfl
            · have g1 : decide (L < P) = false := by simpa using hPL
              have hn0 : n = 0 := hbad.resolve_left hPL
              have g2 : ((n : Int) == 0) = true := by rw [hn0]; rfl
              clear hbad hPL hn0
              go_wp2_with fail
              exact rc_err (f := m) (i := 0) HR2.out.1 HE3.out rfl rfl rfl rfl
          · have g1 : decide (L < P) = false := by simp; omega
            have g2 : ((n : Int) == 0) = false := by simp; omega
            have HG : Hid (paF P L C x nt nf n cd = ptI (rtB x nt nf L C) n 0 cd) := hid_mk (by unfold paF; rw [if_neg hbad])
            clear hbad z0 z1 y0 y1
            go_wp2
            clear g1 g2 e0 e1 e2 e3 c0 c1 c2 c3 k2
            go_loopw [10] (fun c wr => ∃ j : Nat, c = .int .i64 j ∧ j ≤ n ∧ ptI (rtB x nt nf L C) n j (cd.drop j) = ptI (rtB x nt nf L C) n 0 cd ∧ RC w wr b #[.int .i64 x, .slice ta nt tc, .slice (some ⟨q, off, none⟩) nf fc] ∧ Bl wr G #[.int .i64 P, .int .i64 L, .int .i64 C, .slice pj n cj] 41 ∧ InIn wr w.heap.size pj cd) (fun c _ => n - (intOf c).toNat)
            case atStart => exact ⟨0, rfl, Nat.zero_le _, rfl, HR2.out⟩
            case round =>
              obtain ⟨j, rfl, hjn, hpj, hRj, hBj, hIj⟩ := hrel
              have e3 := hBj.cell (i := 3) rfl
              by_cases hgj : j < n
              · obtain ⟨p1, p2⟩ := lt_dec hgj
                obtain ⟨⟨op, a⟩, hx⟩ : ∃ z, cd[j]? = some z := ⟨_, List.getElem?_eq_getElem (by have := HF.out.2.1; omega)⟩
                have hoi := HOI.out _ (List.mem_of_getElem? hx)
                rcases hIj with h0 | ⟨gi, oi, rfl, hgi, hci⟩
                · rw [h0] at hx; cases hx
                obtain ⟨i0, i1⟩ := hci j _ hx
                simp only [] at i0 i1
                obtain ⟨H, hH⟩ : ∃ H, wr.heap.size = H := ⟨_, rfl⟩
                obtain ⟨W3, hW3⟩ : ∃ W3, wr.alloc (.cells #[.int .i64 op, .int .i64 a] 61) = W3 := ⟨_, rfl⟩
                have oW : Out 0 0 wr W3 := by rw [← hW3]; exact (Out.refl 0 0 wr).alloc _
                have bX : Bl W3 H #[.int .i64 op, .int .i64 a] 61 := by rw [← hW3, ← hH]; exact Bl.new _ _ _
                have hR3 := hRj.quiet oW
                have bF := hBj.kept oW (.inr (Nat.zero_le _))
                have HRt := hid_mk (rright_any (w := W3) op a x ta nt tc (some ⟨q, off, none⟩) nf fc P L C (some ⟨gi, oi, none⟩) n cj)
                have k0 := hR3.1.cell (i := 0) rfl
                have k1 := hR3.1.cell (i := 1) rfl
                have k2 := hR3.1.cell (i := 2) rfl
                have f0 := bF.cell (i := 0) rfl
                have f1 := bF.cell (i := 1) rfl
                have f2 := bF.cell (i := 2) rfl
                have f3 := bF.cell (i := 3) rfl
                have x0 := bX.cell (i := 0) rfl
                have x1 := bX.cell (i := 1) rfl
                have lmj : (j : Int) < (n : Int) := by omega
                have HJ : Hid (RC w W3 b #[.int .i64 x, .slice ta nt tc, .slice (some ⟨q, off, none⟩) nf fc] ∧ Bl W3 G #[.int .i64 P, .int .i64 L, .int .i64 C, .slice (some ⟨gi, oi, none⟩) n cj] 41 ∧ InIn W3 w.heap.size (some ⟨gi, oi, none⟩) cd ∧ cd[j]? = some (op, a) ∧ j < n ∧ ptI (rtB x nt nf L C) n j (cd.drop j) = ptI (rtB x nt nf L C) n 0 cd ∧ okI (op, a) ∧ Bl W3 H #[.int .i64 op, .int .i64 a] 61) := hid_mk ⟨hR3, bF, InIn.kept (.inr ⟨gi, oi, rfl, hgi, hci⟩) (C := w.heap.size) (Lo.of_out oW) (Nat.le_refl _), hx, hgj, hpj, hoi, bX⟩
                clear hjn hpj hRj hBj hgj hx hoi hgi hci oW bX hR3 bF
                go_wp2_with fail
                (try rw [hW3])
                (try rw [hH])
                clear hW3 hH
                refine HRt.out.mono ?_
                clear HRt k0 k1 k2 f0 f1 f2 f3 x0 x1 i0 i1 e3
                rintro e w4 ⟨rfl, o4⟩
                have hR4 := HJ.out.1.quiet o4
                have bF4 := HJ.out.2.1.kept o4 (.inr (Nat.zero_le _))
                have bX4 := HJ.out.2.2.2.2.2.2.2.kept o4 (.inr (Nat.zero_le _))
                have z0 := hR4.2.1.cell (i := 0) rfl
                have z1 := hR4.2.1.cell (i := 1) rfl
                have y0 := hR4.2.1.frozen 0
                have y1 := hR4.2.1.frozen 1
                have HR4 := hid_mk (And.intro hR4 (And.intro bF4 (HJ.out.2.2.1.kept (C := w.heap.size) (Lo.of_out o4) (Nat.le_refl _))))
                have err : ∀ er : Int, ptI (rtB x nt nf L C) n 0 cd = some (er, j) → ckV (x, ts, fs) = .inl (er, m, j) := by
                  intro er he
                  have h2 := HE2.out
                  rw [← HP.out, drop_at HF.out.1, pt_er (e := er) (i := j) (by simp only []; rw [HF.out.2.1, HF.out.2.2.2.2.1, HF.out.2.2.2.2.2.1, HG.out]; exact he)] at h2
                  exact h2
                rcases hrt : rtB x nt nf L C (op, a) with _ | _
                · have HE3 := hid_mk (err 72 (by rw [← HJ.out.2.2.2.2.2.1, drop_at HJ.out.2.2.2.1, ptI_72 hrt]))
                  clear err hrt hR4 bF4 bX4 o4
                  go_wp2_with fail
                  exact rc_err (f := m) (i := j) HR4.out.1 HE3.out rfl rfl rfl rfl
                · have f3 := bF4.cell (i := 3) rfl
                  have x0 := bX4.cell (i := 0) rfl
                  have x1 := bX4.cell (i := 1) rfl
                  have HGo : Hid (¬ (juB op = true ∧ (n : Int) ≤ a) → ptI (rtB x nt nf L C) n (j + 1) (cd.drop (j + 1)) = ptI (rtB x nt nf L C) n 0 cd) := hid_mk fun hq => by
                    rw [← HJ.out.2.2.2.2.2.1, drop_at HJ.out.2.2.2.1, ptI_go hrt hq]
                  have HEr : Hid (juB op = true → (n : Int) ≤ a → ckV (x, ts, fs) = .inl (73, m, j)) := hid_mk fun h1 h2 => err 73 (by rw [← HJ.out.2.2.2.2.2.1, drop_at HJ.out.2.2.2.1, ptI_73 hrt h1 h2])
                  clear err hrt hR4 bF4 bX4 o4
                  by_cases hj14 : op = 14
                  · subst hj14
                    by_cases hna : (n : Int) ≤ a
                    · have g3 : decide ((n : Int) ≤ a) = true := by simpa using hna
                      have HE3 := hid_mk (HEr.out (by rfl) hna)
                      clear hna HEr HGo
                      go_wp2_with fail
                      exact rc_err (f := m) (i := j) HR4.out.1 HE3.out rfl rfl rfl rfl
                    · have g3 : decide ((n : Int) ≤ a) = false := by simpa using hna
                      have HE3 := hid_mk (HGo.out (fun h => hna h.2))
                      clear hna HEr HGo z0 z1 y0 y1
                      go_wp2
                      exact ⟨⟨j + 1, up_v HJ.out.2.2.2.2.1 (by have := HF.out.2.2.1; omega), HJ.out.2.2.2.2.1, HE3.out, HR4.out⟩, by rw [up_w HJ.out.2.2.2.2.1 (by have := HF.out.2.2.1; omega)]; exact ms_n HJ.out.2.2.2.2.1⟩
                  · by_cases hj15 : op = 15
                    · subst hj15
                      by_cases hna : (n : Int) ≤ a
                      · have g3 : decide ((n : Int) ≤ a) = true := by simpa using hna
                        have HE3 := hid_mk (HEr.out (by rfl) hna)
                        clear hna HEr HGo
                        go_wp2_with fail
                        exact rc_err (f := m) (i := j) HR4.out.1 HE3.out rfl rfl rfl rfl
                      · have g3 : decide ((n : Int) ≤ a) = false := by simpa using hna
                        have HE3 := hid_mk (HGo.out (fun h => hna h.2))
                        clear hna HEr HGo z0 z1 y0 y1
                        go_wp2
                        exact ⟨⟨j + 1, up_v HJ.out.2.2.2.2.1 (by have := HF.out.2.2.1; omega), HJ.out.2.2.2.2.1, HE3.out, HR4.out⟩, by rw [up_w HJ.out.2.2.2.2.1 (by have := HF.out.2.2.1; omega)]; exact ms_n HJ.out.2.2.2.2.1⟩
                    · have g1 : (op == 14) = false := by simpa using hj14
                      have g2 : (op == 15) = false := by simpa using hj15
                      have HE3 := hid_mk (HGo.out (fun h => by
                        have := h.1
                        unfold juB at this
                        rw [g1, g2] at this
                        cases this))
                      clear hj14 hj15 HEr HGo z0 z1 y0 y1
                      go_wp2
                      exact ⟨⟨j + 1, up_v HJ.out.2.2.2.2.1 (by have := HF.out.2.2.1; omega), HJ.out.2.2.2.2.1, HE3.out, HR4.out⟩, by rw [up_w HJ.out.2.2.2.2.1 (by have := HF.out.2.2.1; omega)]; exact ms_n HJ.out.2.2.2.2.1⟩
              · obtain rfl : n = j := by omega
                have p1 : decide ((n : Int) < (n : Int)) = false := by simp
                have HE3 : Hid (ptF x ts.length fs.length (m + 1) (fs.drop (m + 1)) = ptF x ts.length fs.length 0 fs) := hid_mk (by
                  rw [← HP.out, drop_at HF.out.1, pt_go (by
                    simp only []
                    rw [HF.out.2.1, HF.out.2.2.2.2.1, HF.out.2.2.2.2.2.1, HG.out, ← hpj, List.drop_of_length_le (by have := HF.out.2.1; omega)]
                    rfl)])
                have HRj := hid_mk hRj
                clear hgj hjn hpj hRj hBj hIj
                go_wp2
                exact ⟨⟨m + 1, up_v HF.out.2.2.2.1 (by have := HF.out; omega), HF.out.2.2.2.1, HE3.out, HRj.out⟩, by rw [up_w HF.out.2.2.2.1 (by have := HF.out; omega)]; exact ms_n HF.out.2.2.2.1⟩
        · obtain rfl : nf = m := by omega
          have l1 : decide ((nf : Int) < (nf : Int)) = false := by simp
          have hpn : ptF x ts.length fs.length 0 fs = none := by rw [← hp, List.drop_of_length_le (by have := HH.out.2.1; omega)]; rfl
          have HE3 : Hid (ckV (x, ts, fs) = gnF fs 0 [] [] fs) := hid_mk (by
            have h2 := HE2.out
            rw [hpn] at h2
            exact h2)
          have HFs := hid_mk (ok_fs HOK.out hpn)
          obtain ⟨bc, hbc⟩ : ∃ bc, wr.heap.size = bc := ⟨_, rfl⟩
          obtain ⟨W5, hW5⟩ : ∃ W5, wr.alloc (.cells #[.slice none 0 0, .slice none 0 0] 71) = W5 := ⟨_, rfl⟩
          have oW : Out 0 0 wr W5 := by rw [← hW5]; exact (Out.refl 0 0 wr).alloc _
          have HB5 : Hid (Bl W5 bc #[.slice none 0 0, .slice none 0 0] 71) := hid_mk (by rw [← hW5, ← hbc]; exact Bl.new _ _ _)
          have HR5 := hid_mk (hR.quiet oW)
          have HBC : Hid (b + 1 < bc) := hid_mk (hbc ▸ hR.2.1.lt)
          clear hp hR hmf hgo hn64 hpn oW
          go_wp2
          (try rw [hW5])
          (try rw [hbc])
          clear hW5 hbc k2
          go_loopw [13] (fun c wr => ∃ (m : Nat) (sa : Option Addr) (sc : Nat) (da : Option Addr) (dc : Nat) (S : List Int) (Ds : List (List Int)) (dgs : List Nat), c = .int .i64 m ∧ m ≤ nf ∧ S.length = m ∧ Ds.length = m ∧ Bl wr bc #[.slice sa m sc, .slice da m dc] 71 ∧ CkAt wr (bc + 1) (.slice sa m sc) (.slice da m dc) S Ds dgs ∧ gnF fs m S Ds (fs.drop m) = gnF fs 0 [] [] fs ∧ RC w wr b #[.int .i64 x, .slice ta nt tc, .slice (some ⟨q, off, none⟩) nf fc]) (fun c _ => nf - (intOf c).toNat)
          case atStart => exact ⟨0, none, 0, none, 0, [], [], [], rfl, Nat.zero_le _, rfl, rfl, HB5.out, ⟨World.ownsRow_nil _ _ _ 1, World.ownsRow_nil _ _ _ 1, rfl, (fun j dg D h => by simp at h), List.nodup_nil, (fun dg h => by cases h), (fun z h => by cases h)⟩, rfl, HR5.out⟩
          case round =>
            obtain ⟨m, sa, sc, da, dc, S, Ds, dgs, rfl, hm, hSl, hDl, hB, hC, hg, hR⟩ := hrel
            have k0 := hR.1.cell (i := 0) rfl
            have k1 := hR.1.cell (i := 1) rfl
            have k2 := hR.1.cell (i := 2) rfl
            by_cases hgo : m < nf
            · obtain ⟨l1, l2⟩ := lt_dec hgo
              obtain ⟨hnt, hnf, hts, hfs, hM⟩ := HH.out
              obtain ⟨⟨P, L, C, cd⟩, hf⟩ : ∃ f, fs[m]? = some f := ⟨_, List.getElem?_eq_getElem (by omega)⟩
              have hfw := hfs.kept (C := w.heap.size) (Lo.of_out hR.2.2.1) (Nat.le_refl _)
              obtain ⟨q', off', pj, cj, eq, hq, c0, c1, c2, c3, hin⟩ := fn_cells hfw hf
              cases eq
              simp only [] at c0 c1 c2 c3 hin
              obtain ⟨n, hn⟩ : ∃ n, cd.length = n := ⟨_, rfl⟩
              rw [hn] at c3
              obtain ⟨f1, f2, f3, f4⟩ := HFs.out _ (List.mem_of_getElem? hf)
              simp only [] at f1 f2 f3 f4
              have oD : Out 0 0 wr wr.drew := (Out.refl 0 0 wr).drew
              have HWy := hid_mk (rways_any (w := wr.drew) (B := w.heap.size) x ta nt tc (some ⟨q, off, none⟩) nf fc (hfw.kept (C := w.heap.size) (Lo.of_out oD) (Nat.le_refl _)) hnf (Nat.le_trans hR.2.2.1.size oD.size) P L C pj n cj (hin.kept (C := w.heap.size) (Lo.of_out oD) (Nat.le_refl _)) hn (by rw [← hn]; exact List.length_pos_iff.2 f1) (by omega) (by rw [hnf, hn] at f4; exact f4))
              have lmi : (m : Int) < (nf : Int) := by omega
              have HS : Hid (S.length = m ∧ Ds.length = m ∧ Bl wr bc #[.slice sa m sc, .slice da m dc] 71 ∧ CkAt wr (bc + 1) (.slice sa m sc) (.slice da m dc) S Ds dgs ∧ gnF fs m S Ds (fs.drop m) = gnF fs 0 [] [] fs ∧ RC w wr b #[.int .i64 x, .slice ta nt tc, .slice (some ⟨q, off, none⟩) nf fc]) := hid_mk ⟨hSl, hDl, hB, hC, hg, hR⟩
              have HF : Hid (fs[m]? = some (P, L, C, cd) ∧ m < nf ∧ nf ≤ 1000 ∧ cd ≠ [] ∧ (0 ≤ L ∧ L ≤ 64) ∧ cd.length = n ∧ n ≤ 4096) := hid_mk ⟨hf, hgo, by have := HOK.out.2.2.2.1.2; simp only [] at this; omega, f1, f3, hn, by omega⟩
              clear hSl hDl hB hC hg hR hm hgo hnt hnf hts hfs hM hf hfw hq hin hn f1 f2 f3 f4 oD
              rcases hwy : wyA fs cd with ⟨er, i⟩ | D
              · have her := wyF_er hwy
                have g1 : (er == 0) = false := by simp; omega
                have HE4 : Hid (ckV (x, ts, fs) = .inl (er, m, i)) := hid_mk (by
                  rw [HE3.out, ← HS.out.2.2.2.2.1, drop_at HF.out.1, gn_er hwy])
                rw [hwy] at HWy
                clear hwy her
                go_wp2_with fail
                obtain ⟨V3, hV3⟩ : ∃ V3, wr.drew = V3 := ⟨_, rfl⟩
                rw [hV3] at HWy
                refine wp_region_held_drew (S := fun w' => (w'.cell? ⟨b, 0, none⟩ = some (.int .i64 x) ∧ w'.cell? ⟨b, 1, none⟩ = some (.slice ta nt tc) ∧ w'.cell? ⟨b, 2, none⟩ = some (.slice (some ⟨q, off, none⟩) nf fc)) ∧ w'.cell? ⟨q, off + m * 4, none⟩ = some (.int .i64 P) ∧ w'.cell? ⟨q, off + m * 4 + 1, none⟩ = some (.int .i64 L) ∧ w'.cell? ⟨q, off + m * 4 + 2, none⟩ = some (.int .i64 C) ∧ w'.cell? ⟨q, off + m * 4 + 3, none⟩ = some (.slice pj n cj)) (by kernel_rfl) ?hS1 (fun hHeld => ?rest1)
                case hS1 => exact ⟨⟨k0, k1, k2⟩, c0, c1, c2, c3⟩
                refine tk 0 ?_
                refine tk 1 ?_
                refine tk 2 ?_
                refine tk 3 ?_
                refine tk 4 ?_
                refine tk 5 ?_
                refine wpAnyH_ready (rs := [6]) (by kernel_rfl) (by simp) ?_
                refine AllReadyH.cons rfl (fun KK hK => ?_) AllReadyH.nil
                simp only [xa, xb, xc]
                go_simp
                refine HWy.out.mono ?_
                rintro e w3 ⟨o3, ⟨D', dg, zz, -, -, -⟩ | ⟨er', i', zz, rfl⟩⟩
                · cases zz
                cases zz
                have o9 : Out 0 0 wr w3 := (by rw [← hV3] at o3; exact ((Out.refl 0 0 wr).drew).trans o3)
                refine hK.out _ _ ?hS8 (fun hHeld2 => ?rest8)
                case hS8 => exact ⟨⟨o9.cell k0 (.inr (Nat.zero_le _)), o9.cell k1 (.inr (Nat.zero_le _)), o9.cell k2 (.inr (Nat.zero_le _))⟩, o9.cell c0 (.inr (Nat.zero_le _)), o9.cell c1 (.inr (Nat.zero_le _)), o9.cell c2 (.inr (Nat.zero_le _)), o9.cell c3 (.inr (Nat.zero_le _))⟩
                clear hK KK
                (try clear hHeld)
                have hHeld := hHeld2
                clear hHeld2
                (try simp only [Act.put, xa, xb, xc, xd, xe, xf])
                refine tk 7 ?_
                refine tk 8 ?_
                refine tk 9 ?_
                refine tk 10 ?_
                refine tk 11 ?_
                refine tk 12 ?_
                refine tk 13 ?_
                refine wpAnyH_done (by kernel_rfl) ?_ _
                have hR3 := HS.out.2.2.2.2.2.quiet o9
                have z0 := hR3.2.1.cell (i := 0) rfl
                have z1 := hR3.2.1.cell (i := 1) rfl
                have y0 := hR3.2.1.frozen 0
                have y1 := hR3.2.1.frozen 1
                have HR3 := hid_mk hR3
                clear hR3 hHeld o9 o3 hV3 HWy k0 k1 k2 c0 c1 c2 c3
                go_wp2_with fail
                exact rc_err (f := m) (i := i) HR3.out HE4.out rfl rfl rfl rfl
              · obtain ⟨d1, d2, d3, d4, d5⟩ := dep_of HF.out.2.2.2.1 hwy
                have hmx := mx_le (n := 64) (by decide) (fun j d q => (d2 j d q).2)
                have hsw := slot_w HF.out.2.2.2.2.1 (mx_nn D) hmx
                have HW := hid_mk (And.intro hwy (And.intro (d1.trans HF.out.2.2.2.2.2.1) hsw))
                rw [hwy] at HWy
                clear hwy d1 d2 d3 d4 d5 hmx hsw
                go_wp2_with fail
                obtain ⟨V3, hV3⟩ : ∃ V3, wr.drew = V3 := ⟨_, rfl⟩
                rw [hV3] at HWy
                refine wp_region_held_drew (S := fun w' => (w'.cell? ⟨b, 0, none⟩ = some (.int .i64 x) ∧ w'.cell? ⟨b, 1, none⟩ = some (.slice ta nt tc) ∧ w'.cell? ⟨b, 2, none⟩ = some (.slice (some ⟨q, off, none⟩) nf fc)) ∧ w'.cell? ⟨q, off + m * 4, none⟩ = some (.int .i64 P) ∧ w'.cell? ⟨q, off + m * 4 + 1, none⟩ = some (.int .i64 L) ∧ w'.cell? ⟨q, off + m * 4 + 2, none⟩ = some (.int .i64 C) ∧ w'.cell? ⟨q, off + m * 4 + 3, none⟩ = some (.slice pj n cj)) (by kernel_rfl) ?hS16 (fun hHeld => ?rest16)
                case hS16 => exact ⟨⟨k0, k1, k2⟩, c0, c1, c2, c3⟩
                refine tk 0 ?_
                refine tk 1 ?_
                refine tk 2 ?_
                refine tk 3 ?_
                refine tk 4 ?_
                refine tk 5 ?_
                refine wpAnyH_ready (rs := [6]) (by kernel_rfl) (by simp) ?_
                refine AllReadyH.cons rfl (fun KK hK => ?_) AllReadyH.nil
                simp only [xa, xb, xc]
                go_simp
                refine HWy.out.mono ?_
                rintro e w3 ⟨o3, ⟨D', dg, zz, rfl, z2, z3⟩ | ⟨er', i', zz, -⟩⟩
                rotate_left
                · cases zz
                cases zz
                have o9 : Out 0 0 wr w3 := (by rw [← hV3] at o3; exact ((Out.refl 0 0 wr).drew).trans o3)
                refine hK.out _ _ ?hS23 (fun hHeld2 => ?rest23)
                case hS23 => exact ⟨⟨o9.cell k0 (.inr (Nat.zero_le _)), o9.cell k1 (.inr (Nat.zero_le _)), o9.cell k2 (.inr (Nat.zero_le _))⟩, o9.cell c0 (.inr (Nat.zero_le _)), o9.cell c1 (.inr (Nat.zero_le _)), o9.cell c2 (.inr (Nat.zero_le _)), o9.cell c3 (.inr (Nat.zero_le _))⟩
                clear hK KK
                (try clear hHeld)
                have hHeld := hHeld2
                clear hHeld2
                (try simp only [Act.put, xa, xb, xc, xd, xe, xf])
                refine tk 7 ?_
                refine tk 8 ?_
                refine tk 9 ?_
                refine tk 10 ?_
                refine tk 11 ?_
                refine tk 12 ?_
                refine tk 13 ?_
                refine wpAnyH_done (by kernel_rfl) ?_ _
                obtain ⟨hSl, hDl, hB, hC, hg, hR⟩ := HS.out
                have HDG : Hid (wr.heap.size ≤ dg) := hid_mk (by rw [← hV3] at z3; exact z3)
                have HD := hid_mk z2
                have HC3 := hid_mk (hC.quiet o9)
                have HB3 := hid_mk (hB.kept o9 (.inr (Nat.zero_le _)))
                have HR3 := hid_mk (hR.quiet o9)
                have HCd : Hid ((∀ z, z ∈ dgs → z < wr.heap.size) ∧ (∀ z, (Value.slice sa m sc).ownBlock = some z → z < wr.heap.size) ∧ (∀ z, (Value.slice da m dc).ownBlock = some z → z < wr.heap.size) ∧ bc < wr.heap.size) := hid_mk ⟨fun z hz => hC.dlt hz, fun z hz => (own_ge hC.1 hz).2, fun z hz => (own_ge hC.2.1 hz).2, hB.lt⟩
                have HK2 : Hid (w3.cell? ⟨b, 2, none⟩ = some (.slice (some ⟨q, off, none⟩) nf fc) ∧ w3.cell? ⟨q, off + m * 4 + 1, none⟩ = some (.int .i64 L)) := hid_mk ⟨o9.cell k2 (.inr (Nat.zero_le _)), o9.cell c1 (.inr (Nat.zero_le _))⟩
                have HQ : Hid (q < b) := hid_mk (by
                  obtain ⟨hnt, hnf, hts, hfs, hM⟩ := HH.out
                  obtain ⟨q', off', pj', cj', eq, hq, -⟩ := fn_cells hfs HF.out.1
                  cases eq
                  have := hR.2.2.2
                  omega)
                clear hSl hDl hB hC hg hR z2 z3 hHeld o9 o3 hV3 HWy k0 k1 k2 c0 c1 c2 c3
                go_wp2
                go_loopw [17, 18] (fun a c w4 => ∃ k : Nat, c = .int .i64 k ∧ k ≤ n ∧ a = .int .i64 (mxL (D.take k)) ∧ w4 = w3) (fun _ c _ => n - (intOf c).toNat)
                case atStart => exact ⟨0, rfl, Nat.zero_le _, rfl, rfl⟩
                case round =>
                  obtain ⟨k, rfl, hkn, rfl, rfl⟩ := hrel
                  by_cases hgk : k < n
                  · obtain ⟨p1, p2⟩ := lt_dec hgk
                    obtain ⟨y, hy⟩ : ∃ y, D[k]? = some y := ⟨_, List.getElem?_eq_getElem (by have := HW.out.2.1; omega)⟩
                    have ck := iv_cell HD.out hy
                    have HX := hid_mk (mx_take hy)
                    have hi2 : (k : Int) < (n : Int) := by omega
                    have HK : Hid (k < n) := hid_mk hgk
                    generalize mxL (D.take k) = M at *
                    clear hy hgk hkn
                    go_wp2
                    refine ⟨⟨k + 1, up_v HK.out (by have := HF.out.2.2.2.2.2.2; omega), HK.out, by rw [HX.out], trivial⟩, ?_⟩
                    rw [up_w HK.out (by have := HF.out.2.2.2.2.2.2; omega)]
                    exact ms_n HK.out
                  · obtain rfl : n = k := by omega
                    have p1 : decide ((n : Int) < (n : Int)) = false := by simp
                    have HMe : mxL (D.take n) = mxL D := by rw [List.take_of_length_le (by have := HW.out.2.1; omega)]
                    rw [HMe]
                    clear hgk hkn HMe
                    obtain ⟨hSl, hDl, -, -, hg, -⟩ := HS.out
                    have hbc1 : bc + 1 ≤ wr.heap.size := HB3.out.lt
                    have oA : Out 0 0 wr (wr.alloc (.cells #[.slice (some ⟨dg, 0, none⟩) n n] 68)) := (Out.refl 0 0 wr).alloc _
                    have hCA := HC3.out.quiet oA
                    obtain ⟨a2, cap2, w6, hr2, q1, q2, q3⟩ := app_one (w := wr.alloc (.cells #[.slice (some ⟨dg, 0, none⟩) n n] 68)) Tryd.underlying69 info_ints rfl (by decide) (by decide) (hDl ▸ hCA.2.1) (Nat.le_trans hbc1 oA.size) (ys := [.slice (some ⟨dg, 0, none⟩) n n]) (Bl.new _ _ _) rfl (by intro u hu; simp at hu; subst hu; rfl) (by have := HF.out; omega) 69
                    have hloD : ∀ z, (Value.slice da m dc).ownBlock = some z → bc + 1 ≤ z := fun z hz => (own_ge hCA.2.1 hz).1
                    have hbl6 := (HB3.out.kept oA (.inr (Nat.zero_le _))).fx q2 (fun z => by have := hloD _ z; omega)
                    have hC6 := hCA.pushD (dg := dg) (D := D) (HD.out.kept oA (.inr (Nat.zero_le _))) (by have := HDG.out; have := HCd.out.2.2.2; omega) (fun e => by have := HCd.out.1 _ e; have := HDG.out; omega) (fun e => by have := HCd.out.2.1 _ e; have := HDG.out; omega) (fun e => by have := HCd.out.2.2.1 _ e; have := HDG.out; omega) (by rw [HW.out.2.1]; exact q1) hDl q2 q3
                    have hR6 : RC w w6 b #[.int .i64 x, .slice ta nt tc, .slice (some ⟨q, off, none⟩) nf fc] := ⟨(HR3.out.1.kept oA (.inr (Nat.zero_le _))).fx q2 (fun z => by have := hloD _ z; have := HBC.out; omega), (HR3.out.2.1.kept oA (.inr (Nat.zero_le _))).fx q2 (fun z => by have := hloD _ z; have := HBC.out; omega), out_fx (HR3.out.2.2.1.trans oA) q2 (fun k hk => by have := hloD k hk; have := HBC.out; have := HR3.out.2.2.2; omega), HR3.out.2.2.2⟩
                    obtain ⟨W7, hW7⟩ : ∃ W7, w6.setCell ⟨bc, 1, none⟩ (.slice a2 (m + 1) cap2) = W7 := ⟨_, rfl⟩
                    have x7 : Fx (fun z => z = bc) w6 W7 := by rw [← hW7]; exact (Fx.refl (fun z => z = bc) _).set (p := ⟨bc, 1, none⟩) (.inl rfl) _
                    have hC7 := hC6.fx x7 (fun z h1 _ e => by omega)
                    have hB7 : Bl W7 bc #[.slice sa m sc, .slice a2 (m + 1) cap2] 71 := by rw [← hW7]; exact hbl6.set 1 _
                    have hR7 : RC w W7 b #[.int .i64 x, .slice ta nt tc, .slice (some ⟨q, off, none⟩) nf fc] := ⟨hR6.1.fx x7 (fun e => by have := HBC.out; omega), hR6.2.1.fx x7 (fun e => by have := HBC.out; omega), out_fx hR6.2.2.1 x7 (fun k hk => by have := HBC.out; have := hR6.2.2.2; omega), hR6.2.2.2⟩
                    have t0 := HB3.out.cell (i := 1) rfl
                    have t1 := hbl6.cell (i := 1) rfl
                    have t2 := hbl6.frozen 1
                    have s0 := hB7.cell (i := 0) rfl
                    have s2 : W7.cell? ⟨q, off + m * 4 + 1, none⟩ = some (.int .i64 L) := x7.cell (q2.cell (oA.cell HK2.out.2 (.inr (Nat.zero_le _))) (fun e => by have := hloD _ e; have := HBC.out; have := HQ.out; omega)) (fun e => by have := HBC.out; have := HQ.out; omega)
                    have s1 := hR7.1.cell (i := 2) rfl
                    have HC7 := hid_mk (And.intro hC7 (And.intro hB7 hR7))
                    have HR2 := hid_mk hr2
                    have HN2 : Hid (S.length = m ∧ Ds.length = m ∧ gnF fs m S Ds (fs.drop m) = gnF fs 0 [] [] fs) := hid_mk ⟨hSl, hDl, hg⟩
                    clear hSl hDl hg hbc1 oA hCA hr2 q1 q2 q3 hloD hbl6 hC6 hR6 x7 hC7 hB7 hR7 HC3 HB3 HR3 HK2
                    go_upto_region 33 with (at_builtin; refine app_st rfl _ _ _ _ rfl rfl rfl HR2.out ?_)
                    (try rw [hW7])
                    clear hW7 t0 t1 t2 HR2
                    have hsw := HW.out.2.2
                    obtain ⟨V5, hV5⟩ : ∃ V5, W7.drew = V5 := ⟨_, rfl⟩
                    refine wp_region_T (S := fun w' => w'.cell? ⟨bc, 0, none⟩ = some (.slice sa m sc) ∧ w'.cell? ⟨b, 2, none⟩ = some (.slice (some ⟨q, off, none⟩) nf fc) ∧ w'.cell? ⟨q, off + m * 4 + 1, none⟩ = some (.int .i64 L)) (z := 13) (by kernel_rfl) ?hS31 (fun hHeld => ?rest31)
                    case hS31 => exact ⟨s0, s1, s2⟩
                    refine tkT 0 ?_
                    refine tkT 1 ?_
                    refine tkT 2 ?_
                    refine tkT 3 ?_
                    refine tkT 4 ?_
                    refine tkT 5 ?_
                    refine tkT 6 ?_
                    refine tkT 7 ?_
                    refine tkT 8 ?_
                    refine tkT 9 ?_
                    refine wpAnyT_one (i := 10) (by kernel_rfl) rfl (fun KK hK => ?_)
                    simp only [xa, xb, xc]
                    go_simp
                    obtain ⟨X2, hX2⟩ : ∃ X2, V5.alloc (.cells #[.int .i64 (L + mxL D)] 3) = X2 := ⟨_, rfl⟩
                    obtain ⟨t9, ht9⟩ : ∃ t9, V5.heap.size = t9 := ⟨_, rfl⟩
                    rw [hX2, ht9]
                    have o9 : Out 0 0 W7 X2 := by rw [← hX2, ← hV5]; exact ((Out.refl 0 0 W7).drew).alloc _
                    have HX2 : Hid (Bl X2 t9 #[.int .i64 (L + mxL D)] 3) := hid_mk (by rw [← hX2, ← ht9]; exact Bl.new _ _ _)
                    clear hX2 ht9
                    refine hK.out _ _ ?hS42 (fun hHeld2 => ?rest42)
                    case hS42 => exact ⟨o9.cell s0 (.inr (Nat.zero_le _)), o9.cell s1 (.inr (Nat.zero_le _)), o9.cell s2 (.inr (Nat.zero_le _))⟩
                    clear hK KK
                    (try clear hHeld)
                    have hHeld := hHeld2
                    clear hHeld2
                    (try simp only [Act.put, xa, xb, xc, xd, xe, xf])
                    refine wpAnyT_one (i := 11) (by kernel_rfl) rfl (fun KK hK => ?_)
                    simp only [xa, xb, xc]
                    obtain ⟨a3, cap3, w9, hr, q1, q2, q3⟩ := app_one Tryd.underlying68 info_int rfl (by decide) (by decide) (HN2.out.1 ▸ (HC7.out.1.quiet o9).1) (by have := HC7.out.2.1.lt; have := o9.size; omega) (ys := [.int .i64 (L + mxL D)]) HX2.out rfl (by intro u hu; simp at hu; subst hu; rfl) (by have := HF.out; omega) 68
                    refine app_sr X2 _ _ _ _ rfl _ _ rfl rfl hr ?_
                    refine hK.out _ _ ?hS43 (fun hHeld2 => ?rest43)
                    case hS43 => exact ⟨((HC7.out.2.1.kept o9 (.inr (Nat.zero_le _))).fx q2 (fun z => by have := (own_ge HC7.out.1.1 z).1; omega)).cell (i := 0) rfl, ((HC7.out.2.2.1.kept o9 (.inr (Nat.zero_le _))).fx q2 (fun z => by have := (own_ge HC7.out.1.1 z).1; have := HBC.out; omega)).cell (i := 2) rfl, q2.cell (o9.cell s2 (.inr (Nat.zero_le _))) (fun z => by have := (own_ge HC7.out.1.1 z).1; have := HBC.out; have := HQ.out; omega)⟩
                    clear hK KK
                    (try clear hHeld)
                    have hHeld := hHeld2
                    clear hHeld2
                    (try simp only [Act.put, xa, xb, xc, xd, xe, xf])
                    refine tkT 12 ?_
                    refine wpAnyT_last (by kernel_rfl) rfl (fun KK hK => ?_)
                    simp only [xa, xb, xc]
                    have s9 := hHeld.1
                    have z9 := ((HC7.out.2.1.kept o9 (.inr (Nat.zero_le _))).fx q2 (fun z => by have := (own_ge HC7.out.1.1 z).1; omega)).frozen 0
                    go_simp
                    refine hK.out _ _ ?_
                    clear hK KK
                    (try simp only [Act.put, xa, xb, xc, xd, xe, xf])
                    refine wpAnyT_done (by kernel_rfl) ?_ _
                    have hlo : ∀ z, (Value.slice sa m sc).ownBlock = some z → bc + 1 ≤ z := fun z hz => (own_ge HC7.out.1.1 hz).1
                    have hC9 := (HC7.out.1.quiet o9).pushS q1 HN2.out.1 q2 q3
                    have hB9 := (HC7.out.2.1.kept o9 (.inr (Nat.zero_le _))).fx q2 (fun z => by have := hlo _ z; omega)
                    have hR9 : RC w w9 b #[.int .i64 x, .slice ta nt tc, .slice (some ⟨q, off, none⟩) nf fc] := ⟨(HC7.out.2.2.1.kept o9 (.inr (Nat.zero_le _))).fx q2 (fun z => by have := hlo _ z; have := HBC.out; omega), (HC7.out.2.2.2.1.kept o9 (.inr (Nat.zero_le _))).fx q2 (fun z => by have := hlo _ z; have := HBC.out; omega), out_fx (HC7.out.2.2.2.2.1.trans o9) q2 (fun k hk => by have := hlo k hk; have := HBC.out; have := HC7.out.2.2.2.2.2; omega), HC7.out.2.2.2.2.2⟩
                    obtain ⟨W9, hW9⟩ : ∃ W9, w9.setCell ⟨bc, 0, none⟩ (.slice a3 (m + 1) cap3) = W9 := ⟨_, rfl⟩
                    have x9 : Fx (fun z => z = bc) w9 W9 := by rw [← hW9]; exact (Fx.refl (fun z => z = bc) _).set (p := ⟨bc, 0, none⟩) (.inl rfl) _
                    have HB9 : Hid (Bl W9 bc #[.slice a3 (m + 1) cap3, .slice a2 (m + 1) cap2] 71) := hid_mk (by rw [← hW9]; exact hB9.set 0 _)
                    have HC9 := hid_mk (hC9.fx x9 (fun z h1 _ e => by omega))
                    have HR9 : Hid (RC w W9 b #[.int .i64 x, .slice ta nt tc, .slice (some ⟨q, off, none⟩) nf fc]) := hid_mk ⟨hR9.1.fx x9 (fun e => by have := HBC.out; omega), hR9.2.1.fx x9 (fun e => by have := HBC.out; omega), out_fx hR9.2.2.1 x9 (fun k hk => by have := HBC.out; have := hR9.2.2.2; omega), hR9.2.2.2⟩
                    rw [hW9]
                    clear hlo hC9 hB9 hR9 x9 hW9 q1 q2 q3 hr hHeld o9 HX2 hV5 s0 s1 s2 hsw
                    go_wp2
                    refine ⟨⟨m + 1, a3, cap3, a2, cap2, S ++ [L + mxL D], Ds ++ [D], dgs ++ [dg], up_v HF.out.2.1 (by have := HF.out; omega), HF.out.2.1, by simp [HN2.out.1], by simp [HN2.out.2.1], HB9.out, HC9.out, ?_, HR9.out⟩, ?_⟩
                    · rw [← HN2.out.2.2, drop_at HF.out.1, gn_go HW.out.1]
                    · rw [up_w HF.out.2.1 (by have := HF.out; omega)]
                      exact ms_n HF.out.2.1
            · obtain rfl : nf = m := by omega
              have l1 : decide ((nf : Int) < (nf : Int)) = false := by simp
              have c0 := hB.cell (i := 0) rfl
              have c1 := hB.cell (i := 1) rfl
              have r0 := hR.2.1.cell (i := 0) rfl
              have r1 := hR.2.1.cell (i := 1) rfl
              have f0 := hR.2.1.frozen 0
              have f1 := hR.2.1.frozen 1
              have HS : Hid (CkAt wr (bc + 1) (.slice sa nf sc) (.slice da nf dc) S Ds dgs ∧ RC w wr b #[.int .i64 x, .slice ta nt tc, .slice (some ⟨q, off, none⟩) nf fc]) := hid_mk ⟨hC, hR⟩
              have HE4 : Hid (ckV (x, ts, fs) = .inr (S, Ds)) := hid_mk (by rw [HE3.out, ← hg, List.drop_of_length_le (by have := HH.out.2.1; omega)]; rfl)
              clear hgo hB hC hg hSl hDl hR hm k0 k1
              go_wp2
              have hF := (HS.out.2.2.1.set 0 (.slice sa nf sc)).set 1 (.slice da nf dc)
              have hx : Fx (fun z => z = b + 1) wr ((wr.setCell ⟨b + 1, 0, none⟩ (.slice sa nf sc)).setCell ⟨b + 1, 1, none⟩ (.slice da nf dc)) := ((Fx.refl (fun z => z = b + 1) _).set (p := ⟨b + 1, 0, none⟩) (.inl rfl) _).set (p := ⟨b + 1, 1, none⟩) (.inl rfl) _
              refine bodyPost_ret (v := .tuple #[.agg #[.slice sa nf sc, .slice da nf dc], .int .i64 0, .int .i64 0, .int .i64 0]) (results_c3 Tryd.results33 rfl rfl rfl rfl (load_ck hF)) rfl ⟨out_fx HS.out.2.2.2.1 hx (fun k hk => by have := HS.out.2.2.2.2; omega), .inl ⟨S, Ds, _, _, dgs, HE4.out, rfl, ?_⟩⟩
              exact (HS.out.1.fx hx (fun z h1 _ e => by have := HBC.out; omega)).low (by have := HBC.out; have := HS.out.2.2.2.2; omega)
    · have HE2 : Hid (ckV (x, ts, fs) = .inl (70, 0, 0)) := hid_mk (by
        rw [HE.out]
        exact ch_main HOK.out hf0 hm)
      by_cases h00 : f0.1 = 0
      · have m1 : decide (0 < f0.1) = false := by rw [h00]; rfl
        have m2 : decide (0 < f0.2.2.1) = true := by simp; omega
        clear hm hf0 hg0 hg2 h00
        go_wp2
        exact rc_err (f := 0) (i := 0) HR1.out HE2.out rfl rfl rfl rfl
      · have m1 : decide (0 < f0.1) = true := by simp; omega
        clear hm hf0 hg0 hg2 h00
        go_wp2
        exact rc_err (f := 0) (i := 0) HR1.out HE2.out rfl rfl rfl rfl
  · have hw2 : (wrE (x, ts, fs) == 0) = false := by simpa using hw
    have HE : Hid (ckV (x, ts, fs) = .inl (62, 0, 0)) := hid_mk (by unfold ckV; rw [if_neg hw])
    clear hw hR1 o1 k0 k1 k2
    go_wp2
    exact rc_err (f := 0) (i := 0) HR1.out HE.out rfl rfl rfl rfl
end Go.Proofs.YtkghabmgofgclaaDoor
