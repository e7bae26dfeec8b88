import Derived.Test.YtcnjlbjpeklgkaaGreatDoorR33
import Derived.Laws.StructEq
namespace Go.Proofs.YtcnjlbjpeklgkaaGreatDoor
open Go.RowKit
set_option linter.unusedVariables false
set_option linter.unusedSimpArgs false

theorem str_inj {s t : List Int} (hs : Byt s) (ht : Byt t) (h : strOfNums s = strOfNums t) : s = t := by
  have key : ∀ {s t : List Int}, Byt s → Byt t → s.map (fun x => UInt8.ofNat x.toNat) = t.map (fun x => UInt8.ofNat x.toNat) → s = t := by
    intro s
    induction s with
    | nil => intro t _ _ h; cases t with | nil => rfl | cons => simp at h
    | cons a s ih =>
      intro t hs ht h
      cases t with
      | nil => simp at h
      | cons b t =>
        simp only [List.map_cons, List.cons.injEq] at h
        have ha := hs a (by simp)
        have hb := ht b (by simp)
        have e : a = b := by
          have := congrArg UInt8.toNat h.1
          rw [UInt8.toNat_ofNat', UInt8.toNat_ofNat'] at this
          omega
        rw [e, ih (fun x hx => hs x (List.mem_cons_of_mem _ hx)) (fun x hx => ht x (List.mem_cons_of_mem _ hx)) h.2]
  apply key hs ht
  unfold strOfNums at h
  simpa using h
/-- a program lies below B -/
def PI (w : World) (B : Nat) (v : Value) (P : Int × List (List Int) × List (Int × Int × Int × List (Int × Int))) : Prop := ∃ ta tc fa fc, v = .agg #[.int .i64 P.1, .slice ta P.2.1.length tc, .slice fa P.2.2.length fc] ∧ TxIn w B ta P.2.1 ∧ FnIn w B fa P.2.2


theorem take_up {α : Type} {l m : List α} {i : Nat} {x : α} (h : l.take i = m.take i) (hl : l[i]? = some x) (hm : m[i]? = some x) : l.take (i + 1) = m.take (i + 1) := by
  rw [List.take_add_one, List.take_add_one, h, hl, hm]
theorem ne_at {α : Type} {l m : List α} {i : Nat} {x y : α} (hl : l[i]? = some x) (hm : m[i]? = some y) (hne : x ≠ y) : l ≠ m := by
  intro e; rw [e, hm] at hl; exact hne (Option.some.inj hl).symm
set_option maxRecDepth 100000 in
theorem neq_ins (a b c d : Int) (W : World) : (binOp .neq 55 (.agg #[.int .i64 a, .int .i64 b]) (.agg #[.int .i64 c, .int .i64 d])).run Tryz.prog W = .ok (.bool (!(a == c && b == d))) W := by
  cases h1 : (a == c) <;> cases h2 : (b == d) <;> go_simp
theorem str_same {s t : List Int} (h : s = t) : ((strOfNums s).toList == (strOfNums t).toList) = true := by rw [h]; simp
theorem str_diff {s t : List Int} (hs : Byt s) (ht : Byt t) (h : s ≠ t) : ((strOfNums s).toList == (strOfNums t).toList) = false := by
  simp only [beq_eq_false_iff_ne]
  intro e
  rw [ByteArray.toList_eq, ByteArray.toList_eq] at e
  exact h (str_inj hs ht (by
    have : (strOfNums s).data = (strOfNums t).data := Array.toList_inj.1 e
    cases hs' : strOfNums s; cases ht' : strOfNums t
    rw [hs', ht'] at this
    simpa using this))
/-- what same answers -/
def SmQ (w : World) (P Q : Int × List (List Int) × List (Int × Int × Int × List (Int × Int))) (e : Ending) (w' : World) : Prop := (∃ b, e = .returned (.bool b) ∧ (b = true ↔ P = Q)) ∧ Out 0 0 w w'
theorem SmQ.no {w w' : World} {P Q : Int × List (List Int) × List (Int × Int × Int × List (Int × Int))} (h : P ≠ Q) (o : Out 0 0 w w') : SmQ w P Q (.returned (.bool false)) w' := ⟨⟨false, rfl, by simpa using h⟩, o⟩
theorem SmQ.yes {w w' : World} {P Q : Int × List (List Int) × List (Int × Int × Int × List (Int × Int))} (h : P = Q) (o : Out 0 0 w w') : SmQ w P Q (.returned (.bool true)) w' := ⟨⟨true, rfl, by simpa using h⟩, o⟩
theorem kept0 {w w' : World} {g : Nat} {cs : Array Value} {T : TypeId} (h : Bl w g cs T) (o : Out 0 0 w w') : Bl w' g cs T := h.kept o (.inr (Nat.zero_le _))
theorem cell0 {w w' : World} {b o : Nat} {v : Value} (h : w.cell? ⟨b, o, none⟩ = some v) (g : Out 0 0 w w') : w'.cell? ⟨b, o, none⟩ = some v := g.cell h (.inr (Nat.zero_le _))
set_option maxRecDepth 100000 in
set_option maxHeartbeats 4000000 in
theorem same_any {w : World} {B : Nat} (x y : Int) (ts us : List (List Int)) (fs gs : List (Int × Int × Int × List (Int × Int))) (ta ua fa ga : Option Addr) (nt nu nf ng tc uc fc gc : Nat) (hnt : ts.length = nt) (hnu : us.length = nu) (hnf : fs.length = nf) (hng : gs.length = ng)
    (hts : TxIn w B ta ts) (hus : TxIn w B ua us) (hfs : FnIn w B fa fs) (hgs : FnIn w B ga gs) (hbig : (nt : Int) ≤ 400000 ∧ (nf : Int) ≤ 400000 ∧ ∀ f ∈ fs, (f.2.2.2.length : Int) ≤ 400000) :
    Calls Tryz.prog 20 #[.agg #[.int .i64 x, .slice ta nt tc, .slice fa nf fc], .agg #[.int .i64 y, .slice ua nu uc, .slice ga ng gc]] w fun e w' => SmQ w (x, ts, fs) (y, us, gs) e w' := by
  have HA := hid_mk ((Bl.new w #[.int .i64 x, .slice ta nt tc, .slice fa nf fc] 32).alloc (.cells #[.int .i64 y, .slice ua nu uc, .slice ga ng gc] 32))
  have HB : Hid (Bl ((w.alloc (.cells #[.int .i64 x, .slice ta nt tc, .slice fa nf fc] 32)).alloc (.cells #[.int .i64 y, .slice ua nu uc, .slice ga ng gc] 32)) (w.heap.size + 1) #[.int .i64 y, .slice ua nu uc, .slice ga ng gc] 32) := hid_mk (by
    have := Bl.new (w.alloc (.cells #[.int .i64 x, .slice ta nt tc, .slice fa nf fc] 32)) #[.int .i64 y, .slice ua nu uc, .slice ga ng gc] 32
    rwa [size_alloc] at this)
  have HO := hid_mk (((Out.refl 0 0 w).alloc (.cells #[.int .i64 x, .slice ta nt tc, .slice fa nf fc] 32)).alloc (.cells #[.int .i64 y, .slice ua nu uc, .slice ga ng gc] 32))
  obtain ⟨V, hV⟩ : ∃ V, (w.alloc (.cells #[.int .i64 x, .slice ta nt tc, .slice fa nf fc] 32)).alloc (.cells #[.int .i64 y, .slice ua nu uc, .slice ga ng gc] 32) = V := ⟨_, rfl⟩
  rw [hV] at HA HB HO
  have HT := hid_mk (hts.kept (Lo.of_out HO.out) (Nat.le_refl _))
  have HU := hid_mk (hus.kept (Lo.of_out HO.out) (Nat.le_refl _))
  have HF := hid_mk (hfs.kept (Lo.of_out HO.out) (Nat.le_refl _))
  have HG := hid_mk (hgs.kept (Lo.of_out HO.out) (Nat.le_refl _))
  have HN := hid_mk (And.intro hnt (And.intro hnu (And.intro hnf hng)))
  have HBig := hid_mk hbig
  obtain ⟨p, hp⟩ : ∃ p, w.heap.size = p := ⟨_, rfl⟩
  rw [hp] at HA HB
  have a0 := HA.out.cell (i := 0) rfl
  have a1 := HA.out.cell (i := 1) rfl
  have a2 := HA.out.cell (i := 2) rfl
  have b0 := HB.out.cell (i := 0) rfl
  have b1 := HB.out.cell (i := 1) rfl
  have b2 := HB.out.cell (i := 2) rfl
  clear hts hus hfs hgs hnt hnu hnf hng hbig
  by_cases hx : x = y
  · by_cases hn1 : nt = nu
    · by_cases hn2 : nf = ng
      · subst hx hn1 hn2
        have HX : Hid (∀ (i : Nat) v (wr : World), (#[Value.int .i64 x, .slice ta nt tc, .slice fa nf fc] : Array Value)[i]? = some v → Out 0 0 V wr → wr.cell? ⟨p, i, none⟩ = some v) := hid_mk fun i v wr hv o => cell0 (HA.out.cell hv) o
        have HY : Hid (∀ (i : Nat) v (wr : World), (#[Value.int .i64 x, .slice ua nt uc, .slice ga nf gc] : Array Value)[i]? = some v → Out 0 0 V wr → wr.cell? ⟨p + 1, i, none⟩ = some v) := hid_mk fun i v wr hv o => cell0 (HB.out.cell hv) o
        go_enter Tryz.func20, Tryz.ntmps20
        go_wp2_with fail
        (try rw [hV])
        (try rw [hp])
        clear hV hp a0 a1 a2 b0 b1 b2
        have hnt4 : (nt : Int) ≤ 400000 := HBig.out.1
        go_loopw [5] (fun q wr => ∃ i : Nat, q = .int .i64 i ∧ i ≤ nt ∧ ts.take i = us.take i ∧ Out 0 0 V wr) (fun q _ => nt - (intOf q).toNat)
        case atStart => exact ⟨0, rfl, Nat.zero_le _, rfl, Out.refl _ _ _⟩
        case round =>
          obtain ⟨i, rfl, him, heq, ho⟩ := hrel
          have HE := hid_mk heq
          have HOr := hid_mk ho
          have a1 := HX.out 1 _ wr rfl ho
          have b1 := HY.out 1 _ wr rfl ho
          clear heq ho
          by_cases hgo : i < nt
          · have g1 : (i : Int) < (nt : Int) := by omega
            obtain ⟨t, ht⟩ : ∃ t, ts[i]? = some t := ⟨_, List.getElem?_eq_getElem (by have := HN.out.1; omega)⟩
            obtain ⟨u, hu⟩ : ∃ t, us[i]? = some t := ⟨_, List.getElem?_eq_getElem (by have := HN.out.2.1; omega)⟩
            rcases HT.out with h0 | ⟨g, off, rfl, hg, hc⟩
            · rw [h0] at ht; cases ht
            rcases HU.out with h0 | ⟨g', off', rfl, hg', hc'⟩
            · rw [h0] at hu; cases hu
            obtain ⟨pj, cj, c0, hby⟩ := hc i _ ht
            obtain ⟨qj, dj, c0', hby'⟩ := hc' i _ hu
            have d0 := cell0 c0 HOr.out
            have d1 := cell0 c0' HOr.out
            have HByt := hid_mk (And.intro hby.1 hby'.1)
            obtain ⟨lt, hlt⟩ : ∃ k, t.length = k := ⟨_, rfl⟩
            obtain ⟨lu, hlu⟩ : ∃ k, u.length = k := ⟨_, rfl⟩
            have hcv := conv_bytes (w := wr.drew) (c := cj) ((hby.kept (Lo.of_out HOr.out) (Nat.le_refl _)).bytes) hlt
            have hcu := conv_bytes (w := wr.drew) (c := dj) ((hby'.kept (Lo.of_out HOr.out) (Nat.le_refl _)).bytes) hlu
            rw [hlt] at d0
            rw [hlu] at d1
            have H1 := hid_mk ht
            have H2 := hid_mk hu
            clear ht hu hc hc' c0 c0' hby hby' hlt hlu
            by_cases htu : t = u
            · have hne := str_same htu
              have HTU := hid_mk htu
              clear htu
              go_wp2
              go_region
              go_wp2
              go_roundw
              case rel => exact ⟨i + 1, by go_num, by omega, take_up HE.out H1.out (HTU.out ▸ H2.out), HOr.out.drew⟩
              case measure => simp [intOf]; omega
            · have hne := str_diff HByt.out.1 HByt.out.2 htu
              have HTU := hid_mk htu
              clear htu
              go_wp2
              go_region
              go_wp2
              go_ret
              exact SmQ.no (fun e => ne_at H1.out H2.out HTU.out (congrArg (fun z => z.2.1) e)) (HO.out.trans HOr.out).drew
          · have hiE : i = nt := by omega
            subst hiE
            have g1 : ¬ ((i : Int) < (i : Int)) := by omega
            have hTE : Hid (ts = us) := hid_mk (by have := HE.out; rwa [take_all HN.out.1, take_all HN.out.2.1] at this)
            go_wp2
            clear a1 b1
            have hnf4 : (nf : Int) ≤ 400000 := HBig.out.2.1
            go_loopw [6] (fun q wr => ∃ j : Nat, q = .int .i64 j ∧ j ≤ nf ∧ fs.take j = gs.take j ∧ Out 0 0 V wr) (fun q _ => nf - (intOf q).toNat)
            case atStart => exact ⟨0, rfl, Nat.zero_le _, rfl, HOr.out⟩
            case round =>
              obtain ⟨j, rfl, hjm, heq, ho⟩ := hrel
              have HEj := hid_mk heq
              have HOj := hid_mk ho
              have a2 := HX.out 2 _ wr rfl ho
              have b2 := HY.out 2 _ wr rfl ho
              clear heq ho
              by_cases hgo2 : j < nf
              · have g2 : (j : Int) < (nf : Int) := by omega
                obtain ⟨⟨f1, f2, f3, fl⟩, hf⟩ : ∃ t, fs[j]? = some t := ⟨_, List.getElem?_eq_getElem (by have := HN.out.2.2.1; omega)⟩
                obtain ⟨⟨e1, e2, e3, el⟩, hg0⟩ : ∃ t, gs[j]? = some t := ⟨_, List.getElem?_eq_getElem (by have := HN.out.2.2.2; omega)⟩
                rcases HF.out with h0 | ⟨g, off, rfl, hg, hc⟩
                · rw [h0] at hf; cases hf
                rcases HG.out with h0 | ⟨g', off', rfl, hg', hc'⟩
                · rw [h0] at hg0; cases hg0
                obtain ⟨pj, cj, c0, c1, c2, c3, hin⟩ := hc j _ hf
                obtain ⟨qj, dj, c0', c1', c2', c3', hin'⟩ := hc' j _ hg0
                dsimp only at c0 c1 c2 c3 hin c0' c1' c2' c3' hin'
                have d0 := cell0 c0 HOj.out
                have d1 := cell0 c1 HOj.out
                have d2 := cell0 c2 HOj.out
                have d3 := cell0 c3 HOj.out
                have k0 := cell0 (cell0 c0' HOj.out) ((Out.refl 0 0 wr).alloc (.cells #[.int .i64 f1, .int .i64 f2, .int .i64 f3, .slice pj fl.length cj] 39))
                have k1 := cell0 (cell0 c1' HOj.out) ((Out.refl 0 0 wr).alloc (.cells #[.int .i64 f1, .int .i64 f2, .int .i64 f3, .slice pj fl.length cj] 39))
                have k2 := cell0 (cell0 c2' HOj.out) ((Out.refl 0 0 wr).alloc (.cells #[.int .i64 f1, .int .i64 f2, .int .i64 f3, .slice pj fl.length cj] 39))
                have k3 := cell0 (cell0 c3' HOj.out) ((Out.refl 0 0 wr).alloc (.cells #[.int .i64 f1, .int .i64 f2, .int .i64 f3, .slice pj fl.length cj] 39))
                have b2' := cell0 b2 ((Out.refl 0 0 wr).alloc (.cells #[.int .i64 f1, .int .i64 f2, .int .i64 f3, .slice pj fl.length cj] 39))
                obtain ⟨lf, hlf⟩ : ∃ k, fl.length = k := ⟨_, rfl⟩
                obtain ⟨le, hle⟩ : ∃ k, el.length = k := ⟨_, rfl⟩
                rw [hlf] at d3 k0 k1 k2 k3 b2'
                rw [hle] at k3
                have HI1 := hid_mk hin
                have HI2 := hid_mk hin'
                have H1 := hid_mk hf
                have H2 := hid_mk hg0
                have HLe := hid_mk (And.intro hlf hle)
                have HM : Hid ((lf : Int) ≤ 400000) := hid_mk (by have := HBig.out.2.2 _ (List.mem_of_getElem? hf); dsimp only at this; omega)
                have HOk := hid_mk (((Out.refl 0 0 wr).alloc (.cells #[.int .i64 f1, .int .i64 f2, .int .i64 f3, .slice pj lf cj] 39)).alloc (.cells #[.int .i64 e1, .int .i64 e2, .int .i64 e3, .slice qj le dj] 39))
                have HW1 := hid_mk ((Bl.new wr #[.int .i64 f1, .int .i64 f2, .int .i64 f3, .slice pj lf cj] 39).alloc (.cells #[.int .i64 e1, .int .i64 e2, .int .i64 e3, .slice qj le dj] 39))
                have HW2 : Hid (Bl ((wr.alloc (.cells #[.int .i64 f1, .int .i64 f2, .int .i64 f3, .slice pj lf cj] 39)).alloc (.cells #[.int .i64 e1, .int .i64 e2, .int .i64 e3, .slice qj le dj] 39)) (wr.heap.size + 1) #[.int .i64 e1, .int .i64 e2, .int .i64 e3, .slice qj le dj] 39) := hid_mk (by
                  have := Bl.new (wr.alloc (.cells #[.int .i64 f1, .int .i64 f2, .int .i64 f3, .slice pj lf cj] 39)) #[.int .i64 e1, .int .i64 e2, .int .i64 e3, .slice qj le dj] 39
                  rwa [size_alloc] at this)
                clear hf hg0 hc hc' c0 c1 c2 c3 c0' c1' c2' c3' hin hin' hlf hle hg hg'
                by_cases q1 : f1 = e1
                · by_cases q2 : f2 = e2
                  · by_cases q3 : f3 = e3
                    · by_cases q4 : lf = le
                      · subst q1 q2 q3 q4
                        go_wp2
                        have hlf4 : (lf : Int) ≤ 400000 := HM.out
                        have HOn := hid_mk (HOj.out.trans HOk.out)
                        obtain ⟨W2, hW2⟩ : ∃ W, (wr.alloc (.cells #[.int .i64 f1, .int .i64 f2, .int .i64 f3, .slice pj lf cj] 39)).alloc (.cells #[.int .i64 f1, .int .i64 f2, .int .i64 f3, .slice qj lf dj] 39) = W := ⟨_, rfl⟩
                        rw [hW2] at HW1 HW2 HOn HOk ⊢
                        clear hW2 d0 d1 d2 d3 k0 k1 k2 k3 b2' a2 b2
                        go_loopw [9] (fun q wz => ∃ k : Nat, q = .int .i64 k ∧ k ≤ lf ∧ fl.take k = el.take k ∧ Out 0 0 W2 wz) (fun q _ => lf - (intOf q).toNat)
                        case atStart => exact ⟨0, rfl, Nat.zero_le _, rfl, Out.refl _ _ _⟩
                        case round =>
                          obtain ⟨k, rfl, hkm, heq, ho⟩ := hrel
                          have HEk := hid_mk heq
                          have HOz := hid_mk ho
                          have t3 := cell0 (HW1.out.cell (i := 3) rfl) ho
                          have v3 := cell0 (HW2.out.cell (i := 3) rfl) ho
                          clear heq ho
                          by_cases hgo3 : k < lf
                          · have g3 : (k : Int) < (lf : Int) := by omega
                            obtain ⟨⟨m1, m2⟩, hm⟩ : ∃ t, fl[k]? = some t := ⟨_, List.getElem?_eq_getElem (by have := HLe.out.1; omega)⟩
                            obtain ⟨⟨n1, n2⟩, hn⟩ : ∃ t, el[k]? = some t := ⟨_, List.getElem?_eq_getElem (by have := HLe.out.2; omega)⟩
                            rcases HI1.out with h0 | ⟨gi, oi, rfl, _, hci⟩
                            · rw [h0] at hm; cases hm
                            rcases HI2.out with h0 | ⟨gj, oj, rfl, _, hcj⟩
                            · rw [h0] at hn; cases hn
                            obtain ⟨i0, i1⟩ := hci k _ hm
                            obtain ⟨j0, j1⟩ := hcj k _ hn
                            dsimp only at i0 i1 j0 j1
                            have d0 := cell0 (cell0 i0 HOn.out) HOz.out
                            have d1 := cell0 (cell0 i1 HOn.out) HOz.out
                            have d2 := cell0 (cell0 j0 HOn.out) HOz.out
                            have d3 := cell0 (cell0 j1 HOn.out) HOz.out
                            have hnq := neq_ins m1 m2 n1 n2
                            have Hm := hid_mk hm
                            have Hn := hid_mk hn
                            clear hm hn hci hcj i0 i1 j0 j1
                            by_cases hmn : m1 = n1 ∧ m2 = n2
                            · obtain ⟨rfl, rfl⟩ := hmn
                              have e1 : (m1 == m1) = true := by simp
                              have e2 : (m2 == m2) = true := by simp
                              go_wp2
                              go_region
                              go_wp2
                              go_roundw
                              case rel => exact ⟨k + 1, by go_num, by omega, take_up HEk.out Hm.out Hn.out, HOz.out.drew⟩
                              case measure => simp [intOf]; omega
                            · have HQ := hid_mk hmn
                              have hnb : (!(m1 == n1 && m2 == n2)) = true := by
                                simp only [Bool.not_eq_true', Bool.and_eq_false_iff, beq_eq_false_iff_ne]
                                omega
                              rw [hnb] at hnq
                              clear hmn hnb
                              go_wp2
                              go_region
                              go_wp2
                              go_ret
                              exact SmQ.no (fun e => ne_at H1.out H2.out (fun e' => ne_at Hm.out Hn.out (fun e'' => HQ.out (by simpa using e'')) (congrArg (fun z => z.2.2.2) e')) (congrArg (fun z => z.2.2) e)) ((HO.out.trans HOn.out).trans HOz.out).drew
                          · have hkE : k = lf := by omega
                            subst hkE
                            have g3 : ¬ ((k : Int) < (k : Int)) := by omega
                            have hFE : Hid (fl = el) := hid_mk (by have := HEk.out; rwa [take_all HLe.out.1, take_all HLe.out.2] at this)
                            go_wp2
                            go_roundw
                            case rel => exact ⟨j + 1, by go_num, by omega, take_up HEj.out H1.out (hFE.out ▸ H2.out), HOn.out.trans HOz.out⟩
                            case measure => simp [intOf]; omega
                      · have q4' : ((lf : Int) != (le : Int)) = true := by simp; omega
                        have HQ := hid_mk q4
                        subst q1 q2 q3
                        clear q4
                        go_wp2
                        go_ret
                        exact SmQ.no (fun e => ne_at H1.out H2.out (fun e' => HQ.out (by have := congrArg (fun z => z.2.2.2.length) e'; have := HLe.out; dsimp only at *; omega)) (congrArg (fun z => z.2.2) e)) ((HO.out.trans HOj.out).trans HOk.out)
                    · have q3' : (f3 != e3) = true := by simpa using q3
                      have HQ := hid_mk q3
                      subst q1 q2
                      clear q3
                      go_wp2
                      go_ret
                      exact SmQ.no (fun e => ne_at H1.out H2.out (fun e' => HQ.out (congrArg (fun z => z.2.2.1) e')) (congrArg (fun z => z.2.2) e)) ((HO.out.trans HOj.out).trans HOk.out)
                  · have q2' : (f2 != e2) = true := by simpa using q2
                    have HQ := hid_mk q2
                    subst q1
                    clear q2
                    go_wp2
                    go_ret
                    exact SmQ.no (fun e => ne_at H1.out H2.out (fun e' => HQ.out (congrArg (fun z => z.2.1) e')) (congrArg (fun z => z.2.2) e)) ((HO.out.trans HOj.out).trans HOk.out)
                · have q1' : (f1 != e1) = true := by simpa using q1
                  have HQ := hid_mk q1
                  clear q1
                  go_wp2
                  go_ret
                  exact SmQ.no (fun e => ne_at H1.out H2.out (fun e' => HQ.out (congrArg (fun z => z.1) e')) (congrArg (fun z => z.2.2) e)) ((HO.out.trans HOj.out).trans HOk.out)
              · have hjE : j = nf := by omega
                subst hjE
                have g2 : ¬ ((j : Int) < (j : Int)) := by omega
                go_wp2
                go_ret
                refine SmQ.yes ?_ (HO.out.trans HOj.out)
                have := HEj.out
                rw [take_all HN.out.2.2.1, take_all HN.out.2.2.2] at this
                rw [hTE.out, this]
      · have hq : ((nf : Int) != (ng : Int)) = true := by simp; omega
        have hq1 : ((x : Int) != y) = false := by simp [hx]
        have hq2 : ((nt : Int) != (nu : Int)) = false := by simp [hn1]
        have HQ := hid_mk hn2
        clear hx hn1 hn2
        go_enter Tryz.func20, Tryz.ntmps20
        go_wp2
        go_ret
        exact SmQ.no (fun e => HQ.out (by have := congrArg (fun z => z.2.2.length) e; have := HN.out; dsimp only at *; omega)) HO.out
    · have hq2 : ((nt : Int) != (nu : Int)) = true := by simp; omega
      have hq1 : ((x : Int) != y) = false := by simp [hx]
      have HQ := hid_mk hn1
      clear hx hn1
      go_enter Tryz.func20, Tryz.ntmps20
      go_wp2
      go_ret
      exact SmQ.no (fun e => HQ.out (by have := congrArg (fun z => z.2.1.length) e; have := HN.out; dsimp only at *; omega)) HO.out
  · have hq1 : ((x : Int) != y) = true := by simpa using hx
    have HQ := hid_mk hx
    clear hx
    go_enter Tryz.func20, Tryz.ntmps20
    go_wp2
    go_ret
    exact SmQ.no (fun e => HQ.out (congrArg (fun z => z.1) e)) HO.out
end Go.Proofs.YtcnjlbjpeklgkaaGreatDoor
