import Derived.Test.YtcnjlbjpeklgkaaGreatDoorR32
import Derived.Test.YtcnjlbjpeklgkaaGreatDoorR26
namespace Go.Proofs.YtcnjlbjpeklgkaaGreatDoor
open Go.RowKit
set_option linter.unusedVariables false
set_option linter.unusedSimpArgs false

def glL (x : Int) : List (List Int) := if x > 0 then [byS "globals " ++ dcF x.toNat] else []
def txL (b : List Int) : List Int := byS "text \"" ++ spF b ++ [34]
theorem prL_parts (x : Int) (ts : List (List Int)) (fs : List FnF) : prL plO (x, ts, fs) = glL x ++ ts.map txL ++ fs.flatMap (fnL plO) := rfl
theorem lf_take_t {ts : List (List Int)} {i : Nat} {t : List Int} (h : ts[i]? = some t) : lfF ((ts.take (i + 1)).map txL) = lfF ((ts.take i).map txL) ++ (txL t ++ [10]) := by
  rw [List.take_add_one, h, List.map_append, lfF_app]
  show _ ++ lfF [txL t] = _
  rw [lfF_one]
theorem lf_take_f {fs : List FnF} {i : Nat} {f : FnF} (h : fs[i]? = some f) : lfF ((fs.take (i + 1)).flatMap (fnL plO)) = lfF ((fs.take i).flatMap (fnL plO)) ++ lfF (fnL plO f) := by
  rw [List.take_add_one, h, List.flatMap_append, lfF_app]
  show _ ++ lfF (fnL plO f ++ []) = _
  rw [List.append_nil]
theorem lf_le_t (ts : List (List Int)) (i : Nat) : (lfF ((ts.take i).map txL)).length ≤ (lfF (ts.map txL)).length := by
  have e : lfF (ts.map txL) = lfF ((ts.take i).map txL) ++ lfF ((ts.drop i).map txL) := by
    rw [← lfF_app, ← List.map_append, List.take_append_drop]
  rw [e, List.length_append]; omega
theorem lf_le_f (fs : List FnF) (i : Nat) : (lfF ((fs.take i).flatMap (fnL plO))).length ≤ (lfF (fs.flatMap (fnL plO))).length := by
  have e : lfF (fs.flatMap (fnL plO)) = lfF ((fs.take i).flatMap (fnL plO)) ++ lfF ((fs.drop i).flatMap (fnL plO)) := by
    rw [← lfF_app, ← List.flatMap_append, List.take_append_drop]
  rw [e, List.length_append]; omega
theorem gl_line {x : Int} (h : 0 < x) {s : ByteArray} (e : bt s = if x < 0 then 45 :: dcF (-x).toNat else dcF x.toNat) : [⟨#[103, 108, 111, 98, 97, 108, 115]⟩, ⟨#[32]⟩, s].flatMap bt ++ [10] = lfF (glL x) := by
  rw [dc_int _ (by omega)] at e
  unfold glL
  rw [if_pos (by omega), lfF_one]
  have b1 : bt ⟨#[103, 108, 111, 98, 97, 108, 115]⟩ = [103, 108, 111, 98, 97, 108, 115] := rfl
  have b2 : bt ⟨#[32]⟩ = [32] := rfl
  have b3 : byS "globals " = [103, 108, 111, 98, 97, 108, 115, 32] := by decide +kernel
  simp only [List.flatMap_cons, List.flatMap_nil, e, b1, b2, b3, List.append_nil, List.cons_append, List.nil_append]
theorem tx_line {t : List Int} (h : Byt t) {s : ByteArray} (e : bt s = ((34 : Nat) : Int) :: t.flatMap (spG ((34 : Nat) : Int)) ++ [((34 : Nat) : Int)]) : [⟨#[116, 101, 120, 116]⟩, ⟨#[32]⟩, s].flatMap bt = txL t := by
  have e2 : t.flatMap (spG ((34 : Nat) : Int)) = spF t := spG_flat h
  rw [e2] at e
  unfold txL
  have b1 : bt ⟨#[116, 101, 120, 116]⟩ = [116, 101, 120, 116] := rfl
  have b2 : bt ⟨#[32]⟩ = [32] := rfl
  have b3 : byS "text \"" = [116, 101, 120, 116, 32, 34] := by decide +kernel
  simp only [List.flatMap_cons, List.flatMap_nil, e, b1, b2, b3, List.append_nil, List.cons_append, List.nil_append]
  rfl
set_option maxRecDepth 100000 in
set_option maxHeartbeats 8000000 in
theorem whole_any {w : World} {B lo b : Nat} (x : Int) (ts : List (List Int)) (fs : List FnF) (ta fa : Option Addr) (nt tc nf fc : Nat) (hok : okP (x, ts, fs)) (hnt : ts.length = nt) (hnf : fs.length = nf) (hts : TxIn w B ta ts) (hfs : FnIn w B fa fs) (hBl : B ≤ lo) (hBb : B ≤ b) (hNl : 9 ≤ lo) (hNb : 9 ≤ b) (hlo : lo ≤ w.heap.size)
    (hb : BuT 70 w lo b []) (ht : Tpw w) (hN : Nt w) (hlen : (lfF (prL plO (x, ts, fs))).length ≤ 3000000) :
    Calls Tryz.prog 29 #[.pointer (some ⟨b, 0, none⟩), .agg #[.int .i64 x, .slice ta nt tc, .slice fa nf fc]] w fun e w' => e = .returned (.tuple #[]) ∧ BuT 70 w' lo b (lfF (prL plO (x, ts, fs))) ∧ PF lo b w w' := by
  obtain ⟨h1, h2, h3, h4, h5⟩ := hok
  simp only at h1 h2 h3 h4 h5
  rw [prL_parts, lfF_app, lfF_app] at hlen ⊢
  rw [List.length_append, List.length_append] at hlen
  obtain ⟨h, hh⟩ : ∃ h, w.heap.size = h := ⟨_, rfl⟩
  have hbh : b < h := by rw [← hh]; exact hb.lt
  obtain ⟨V, hV⟩ : ∃ V, w.alloc (.cells #[.int .i64 x, .slice ta nt tc, .slice fa nf fc] 32) = V := ⟨_, rfl⟩
  have hx := Bl.new w #[.int .i64 x, .slice ta nt tc, .slice fa nf fc] 32
  rw [hV, hh] at hx
  have hoV : Out 0 0 w V := by rw [← hV]; exact (Out.refl 0 0 w).alloc _
  have hVs : V.heap.size = h + 1 := by rw [← hV, size_alloc, hh]
  have HX := hid_mk hx
  have k0 := hx.cell (i := 0) rfl
  have k1 := hx.cell (i := 1) rfl
  have k2 := hx.cell (i := 2) rfl
  have HOV := hid_mk hoV
  have HB := hid_mk (hb.out hoV)
  have HT := hid_mk (ht.out hoV)
  have HN := hid_mk (hN.out hoV)
  have HTX := hid_mk (hts.kept (Lo.of_out (B := B) hoV) (Nat.le_refl _))
  have HFN := hid_mk (hfs.kept (Lo.of_out (B := B) hoV) (Nat.le_refl _))
  have HK := hid_mk (And.intro h1 (And.intro h2 (And.intro h3 (And.intro h4 h5))))
  have HC := hid_mk (And.intro hnt hnf)
  have HL := hid_mk hlen
  have HH := hid_mk (And.intro hh (And.intro hbh hVs))
  clear hx hoV hb ht hN h1 h2 h3 h4 h5 hts hfs hnt hnf hlen
  by_cases hx0 : 0 < x
  · go_enter Tryz.func29, Tryz.ntmps29
    go_wp2_with (go_at_call 54; refine (itoa_dc x (by have := HK.out.1; omega) (by have := HK.out.1; omega) HT.out).mono ?_; rintro e w3 ⟨s, hs, rfl, o3⟩; have HS := hid_mk hs; have HO3 := hid_mk o3; clear hs o3)
    go_at_call 53
    refine (line_any (n := 3) (xs := [⟨#[103, 108, 111, 98, 97, 108, 115]⟩, ⟨#[32]⟩, s]) ((HB.out.out HO3.out).out ((Out.refl 0 0 w3).alloc _)) (by have := HOV.out.size; have := HO3.out.size; rw [size_alloc]; omega) (Bl.new w3 _ _) (by have := HO3.out.size; have := HH.out; omega) rfl (by have h1 := congrArg List.length (gl_line hx0 HS.out); rw [List.length_append] at h1; have h2 := HL.out; have e : ([10] : List Int).length = 1 := rfl; have e0 : ([] : List Int).length = 0 := rfl; omega) (by decide)).mono ?_
    rintro e w4 ⟨rfl, hb4, hp4⟩
    rw [List.nil_append, gl_line hx0 HS.out] at hb4
    have HB2 := hid_mk hb4
    have P2 : Hid (PF lo b V w4) := hid_mk ((PF.of_out (HO3.out.alloc _)).trans hp4)
    clear hb4 hp4 hV hh hbh hVs k0 k1 k2
    have n1 := (P2.out.bl HX.out (by have := HH.out; omega) (by decide)).cell (i := 1) rfl
    have n2 := (P2.out.bl HX.out (by have := HH.out; omega) (by decide)).cell (i := 2) rfl
    go_wp2_with fail
    go_loopw [20] (fun v wr => ∃ i : Nat, v = .int .i64 (i : Int) ∧ i ≤ nt ∧ BuT 70 wr lo b (lfF (glL x) ++ lfF ((ts.take i).map txL)) ∧ PF lo b V wr) (fun v _ => nt - (intOf v).toNat)
    case atStart => exact ⟨0, rfl, Nat.zero_le _, by simpa [lfF] using HB2.out, P2.out⟩
    case round =>
      obtain ⟨i, rfl, hi, hbi, hpi⟩ := hrel
      have HBi := hid_mk hbi
      have HPi := hid_mk hpi
      have hn4 : nt ≤ 64 := by have := HK.out.2.1; have := HC.out.1; omega
      by_cases hlt : i < nt
      · have hd : decide ((i : Int) < (nt : Int)) = true := decide_eq_true (by omega)
        have hkm : (i : Int) < (nt : Int) := by omega
        have hk0 : (0 : Int) ≤ (i : Int) := by omega
        obtain ⟨t, hx⟩ : ∃ t, ts[i]? = some t := ⟨_, List.getElem?_eq_getElem (by have := HC.out.1; omega)⟩
        obtain ⟨g, off, pj, cj, rfl, c0, hby⟩ : ∃ g off pj cj, ta = some ⟨g, off, none⟩ ∧ wr.cell? ⟨g, off + i, none⟩ = some (.slice pj t.length cj) ∧ ByIn wr B pj t := by
          rcases HTX.out.kept (hpi.lo hBl hBb) (Nat.le_refl _) with h | ⟨g, off, h1, _, h3⟩
          · rw [h] at hx; simp at hx
          · obtain ⟨pj, cj, c1, c2⟩ := h3 i _ hx
            exact ⟨g, off, pj, cj, h1, c1, c2⟩
        have htl := HK.out.2.2.1 t (List.mem_of_getElem? hx)
        have HTL := hid_mk htl
        have HBY := hid_mk hby
        have HXi := hid_mk hx
        have HLt := hid_mk hlt
        have htk := lf_take_t hx
        have hle := lf_le_t ts (i + 1)
        have hlin : Hid ((lfF (glL x) ++ lfF ((ts.take i).map txL)).length + (txL t).length + 1 ≤ 3000000) := hid_mk (by
          rw [htk, List.length_append, List.length_append] at hle
          have := HL.out
          rw [List.length_append]
          have e : ([10] : List Int).length = 1 := rfl
          omega)
        have HTK := hid_mk htk
        obtain ⟨m, hm⟩ : ∃ m, t.length = m := ⟨_, rfl⟩
        have HM := hid_mk hm
        rw [hm] at c0
        clear hi hbi hpi hx hby htl hlt htk hle hm n1 n2
        go_wp2_with (go_at_call 55; refine (quoted_any ⟨#[34]⟩ 34 (.inl rfl) rfl t pj m cj HM.out (by have h1 := HTL.out; have h2 := HM.out; unfold okT at h1; omega) wr HBY.out.bytes).mono ?_; rintro e w3 ⟨s, hs, rfl, o3⟩; have HS := hid_mk hs; have HO3 := hid_mk o3; clear hs o3)
        go_at_call 53
        refine (line_any (n := 3) (xs := [⟨#[116, 101, 120, 116]⟩, ⟨#[32]⟩, s]) ((HBi.out.out HO3.out).out ((Out.refl 0 0 w3).alloc _)) (by have := HPi.out.size; have := HH.out; have := HO3.out.size; rw [size_alloc]; omega) (Bl.new w3 _ _) (by have := HBi.out.lt; have := HO3.out.size; omega) rfl (by rw [tx_line HBY.out.1 HS.out]; have := hlin.out; omega) (by decide)).mono ?_
        rintro e w4 ⟨rfl, hb4, hp4⟩
        rw [tx_line HBY.out.1 HS.out, List.append_assoc, List.append_assoc, ← HTK.out] at hb4
        have p4 : PF lo b wr w4 := (PF.of_out (HO3.out.alloc _)).trans hp4
        have HB4 := hid_mk hb4
        have P4 := hid_mk (HPi.out.trans p4)
        clear hb4 hp4 p4
        go_wp2
        exact ⟨⟨i + 1, rfl, HLt.out, HB4.out, P4.out⟩, by have := HLt.out; show nt - (((i : Int) + 1).toNat) < nt - ((i : Int).toNat); omega⟩
      · have hd : decide ((i : Int) < (nt : Int)) = false := decide_eq_false (by omega)
        have hkm : ¬ ((i : Int) < (nt : Int)) := by omega
        obtain rfl : i = nt := by omega
        have e : ts.take i = ts := List.take_of_length_le (by have := HC.out.1; omega)
        rw [e] at hbi
        have HB5 := hid_mk hbi
        have j2 := (hpi.bl HX.out (by have := HH.out; omega) (by decide)).cell (i := 2) rfl
        clear hlt hi hbi hpi n1 n2 e HBi
        go_wp2_with fail
        go_loopw [33] (fun v wr => ∃ j : Nat, v = .int .i64 (j : Int) ∧ j ≤ nf ∧ BuT 70 wr lo b (lfF (glL x) ++ lfF (ts.map txL) ++ lfF ((fs.take j).flatMap (fnL plO))) ∧ PF lo b V wr) (fun v _ => nf - (intOf v).toNat)
        case atStart => exact ⟨0, rfl, Nat.zero_le _, by simpa [lfF] using HB5.out, HPi.out⟩
        case round =>
          obtain ⟨j, rfl, hj, hbj, hpj⟩ := hrel
          have HBj := hid_mk hbj
          have HPj := hid_mk hpj
          have hf4 : nf ≤ 64 := by have := HK.out.2.2.2.1; have := HC.out.2; omega
          by_cases hlj : j < nf
          · have hd : decide ((j : Int) < (nf : Int)) = true := decide_eq_true (by omega)
            have hkm : (j : Int) < (nf : Int) := by omega
            have hk0 : (0 : Int) ≤ (j : Int) := by omega
            obtain ⟨⟨fP, fL, fC, cd⟩, hx⟩ : ∃ f, fs[j]? = some f := ⟨_, List.getElem?_eq_getElem (by have := HC.out.2; omega)⟩
            obtain ⟨g, off, pj, cj, rfl, c0, c1, c2, c3, hin⟩ : ∃ g off pj cj, fa = some ⟨g, off, none⟩ ∧ wr.cell? ⟨g, off + j * 4, none⟩ = some (.int .i64 fP) ∧ wr.cell? ⟨g, off + j * 4 + 1, none⟩ = some (.int .i64 fL) ∧ wr.cell? ⟨g, off + j * 4 + 2, none⟩ = some (.int .i64 fC) ∧ wr.cell? ⟨g, off + j * 4 + 3, none⟩ = some (.slice pj cd.length cj) ∧ InIn wr B pj cd := by
              rcases HFN.out.kept (hpj.lo hBl hBb) (Nat.le_refl _) with h | ⟨g, off, h1, _, h3⟩
              · rw [h] at hx; simp at hx
              · obtain ⟨pj, cj, c1, c2, c3, c4, c5⟩ := h3 j _ hx
                exact ⟨g, off, pj, cj, h1, c1, c2, c3, c4, c5⟩
            have hfo := HK.out.2.2.2.2 _ (List.mem_of_getElem? hx)
            have HFO := hid_mk hfo
            have HIN := hid_mk hin
            have HLt := hid_mk hlj
            have htk := lf_take_f hx
            have hle := lf_le_f fs (j + 1)
            have hlin : Hid ((lfF (glL x) ++ lfF (ts.map txL) ++ lfF ((fs.take j).flatMap (fnL plO))).length + (lfF (fnL plO (fP, fL, fC, cd))).length ≤ 3000000) := hid_mk (by
              rw [htk, List.length_append] at hle
              have := HL.out
              rw [List.length_append, List.length_append]
              omega)
            have HTK := hid_mk htk
            obtain ⟨m, hm⟩ : ∃ m, cd.length = m := ⟨_, rfl⟩
            have HM := hid_mk hm
            rw [hm] at c3
            clear hj hbj hpj hx hin hfo hlj htk hle hm j2
            go_wp2_with fail
            go_at_call 56
            refine (pfunc_any (B := B) fP fL fC pj m cj cd HFO.out HM.out (HIN.out.kept (Lo.of_out (B := B) ((Out.refl 0 0 wr).alloc _)) (Nat.le_refl _)) hBl hBb hNl hNb (by have := HPj.out.size; have := HH.out; rw [size_alloc]; omega) (HBj.out.out ((Out.refl 0 0 wr).alloc _)) ((HT.out.pf HPj.out hNl hNb).out ((Out.refl 0 0 wr).alloc _)) ((HN.out.pf HPj.out hNl hNb).out ((Out.refl 0 0 wr).alloc _)) hlin.out).mono ?_
            rintro e w6 ⟨rfl, hb6, hp6⟩
            rw [List.append_assoc, ← HTK.out] at hb6
            have HB6 := hid_mk hb6
            have P6 := hid_mk (HPj.out.trans ((PF.of_out ((Out.refl 0 0 wr).alloc _)).trans hp6))
            clear hb6 hp6
            go_wp2
            exact ⟨⟨j + 1, rfl, HLt.out, HB6.out, P6.out⟩, by have := HLt.out; show nf - (((j : Int) + 1).toNat) < nf - ((j : Int).toNat); omega⟩
          · have hd : decide ((j : Int) < (nf : Int)) = false := decide_eq_false (by omega)
            have hkm : ¬ ((j : Int) < (nf : Int)) := by omega
            obtain rfl : j = nf := by omega
            have e : fs.take j = fs := List.take_of_length_le (by have := HC.out.2; omega)
            rw [e] at hbj
            have HB7 := hid_mk hbj
            clear hlj hj hbj hpj j2 e HBj
            go_wp2
            go_end0
            exact ⟨rfl, by rw [← List.append_assoc]; exact HB7.out, (PF.of_out HOV.out).trans HPj.out⟩

  · have hg : glL x = [] := by unfold glL; rw [if_neg (by omega)]
    have HB2 : Hid (BuT 70 V lo b (lfF (glL x))) := hid_mk (by rw [hg]; exact HB.out)
    have P2 : Hid (PF lo b V V) := hid_mk (PF.refl _ _ _)
    clear hg
    go_enter Tryz.func29, Tryz.ntmps29
    have n1 := (P2.out.bl HX.out (by have := HH.out; omega) (by decide)).cell (i := 1) rfl
    have n2 := (P2.out.bl HX.out (by have := HH.out; omega) (by decide)).cell (i := 2) rfl
    go_wp2_with fail
    clear hV hh hbh hVs k0 k1 k2
    go_loopw [20] (fun v wr => ∃ i : Nat, v = .int .i64 (i : Int) ∧ i ≤ nt ∧ BuT 70 wr lo b (lfF (glL x) ++ lfF ((ts.take i).map txL)) ∧ PF lo b V wr) (fun v _ => nt - (intOf v).toNat)
    case atStart => exact ⟨0, rfl, Nat.zero_le _, by simpa [lfF] using HB2.out, P2.out⟩
    case round =>
      obtain ⟨i, rfl, hi, hbi, hpi⟩ := hrel
      have HBi := hid_mk hbi
      have HPi := hid_mk hpi
      have hn4 : nt ≤ 64 := by have := HK.out.2.1; have := HC.out.1; omega
      by_cases hlt : i < nt
      · have hd : decide ((i : Int) < (nt : Int)) = true := decide_eq_true (by omega)
        have hkm : (i : Int) < (nt : Int) := by omega
        have hk0 : (0 : Int) ≤ (i : Int) := by omega
        obtain ⟨t, hx⟩ : ∃ t, ts[i]? = some t := ⟨_, List.getElem?_eq_getElem (by have := HC.out.1; omega)⟩
        obtain ⟨g, off, pj, cj, rfl, c0, hby⟩ : ∃ g off pj cj, ta = some ⟨g, off, none⟩ ∧ wr.cell? ⟨g, off + i, none⟩ = some (.slice pj t.length cj) ∧ ByIn wr B pj t := by
          rcases HTX.out.kept (hpi.lo hBl hBb) (Nat.le_refl _) with h | ⟨g, off, h1, _, h3⟩
          · rw [h] at hx; simp at hx
          · obtain ⟨pj, cj, c1, c2⟩ := h3 i _ hx
            exact ⟨g, off, pj, cj, h1, c1, c2⟩
        have htl := HK.out.2.2.1 t (List.mem_of_getElem? hx)
        have HTL := hid_mk htl
        have HBY := hid_mk hby
        have HXi := hid_mk hx
        have HLt := hid_mk hlt
        have htk := lf_take_t hx
        have hle := lf_le_t ts (i + 1)
        have hlin : Hid ((lfF (glL x) ++ lfF ((ts.take i).map txL)).length + (txL t).length + 1 ≤ 3000000) := hid_mk (by
          rw [htk, List.length_append, List.length_append] at hle
          have := HL.out
          rw [List.length_append]
          have e : ([10] : List Int).length = 1 := rfl
          omega)
        have HTK := hid_mk htk
        obtain ⟨m, hm⟩ : ∃ m, t.length = m := ⟨_, rfl⟩
        have HM := hid_mk hm
        rw [hm] at c0
        clear hi hbi hpi hx hby htl hlt htk hle hm n1 n2
        go_wp2_with (go_at_call 55; refine (quoted_any ⟨#[34]⟩ 34 (.inl rfl) rfl t pj m cj HM.out (by have h1 := HTL.out; have h2 := HM.out; unfold okT at h1; omega) wr HBY.out.bytes).mono ?_; rintro e w3 ⟨s, hs, rfl, o3⟩; have HS := hid_mk hs; have HO3 := hid_mk o3; clear hs o3)
        go_at_call 53
        refine (line_any (n := 3) (xs := [⟨#[116, 101, 120, 116]⟩, ⟨#[32]⟩, s]) ((HBi.out.out HO3.out).out ((Out.refl 0 0 w3).alloc _)) (by have := HPi.out.size; have := HH.out; have := HO3.out.size; rw [size_alloc]; omega) (Bl.new w3 _ _) (by have := HBi.out.lt; have := HO3.out.size; omega) rfl (by rw [tx_line HBY.out.1 HS.out]; have := hlin.out; omega) (by decide)).mono ?_
        rintro e w4 ⟨rfl, hb4, hp4⟩
        rw [tx_line HBY.out.1 HS.out, List.append_assoc, List.append_assoc, ← HTK.out] at hb4
        have p4 : PF lo b wr w4 := (PF.of_out (HO3.out.alloc _)).trans hp4
        have HB4 := hid_mk hb4
        have P4 := hid_mk (HPi.out.trans p4)
        clear hb4 hp4 p4
        go_wp2
        exact ⟨⟨i + 1, rfl, HLt.out, HB4.out, P4.out⟩, by have := HLt.out; show nt - (((i : Int) + 1).toNat) < nt - ((i : Int).toNat); omega⟩
      · have hd : decide ((i : Int) < (nt : Int)) = false := decide_eq_false (by omega)
        have hkm : ¬ ((i : Int) < (nt : Int)) := by omega
        obtain rfl : i = nt := by omega
        have e : ts.take i = ts := List.take_of_length_le (by have := HC.out.1; omega)
        rw [e] at hbi
        have HB5 := hid_mk hbi
        have j2 := (hpi.bl HX.out (by have := HH.out; omega) (by decide)).cell (i := 2) rfl
        clear hlt hi hbi hpi n1 n2 e HBi
        go_wp2_with fail
        go_loopw [33] (fun v wr => ∃ j : Nat, v = .int .i64 (j : Int) ∧ j ≤ nf ∧ BuT 70 wr lo b (lfF (glL x) ++ lfF (ts.map txL) ++ lfF ((fs.take j).flatMap (fnL plO))) ∧ PF lo b V wr) (fun v _ => nf - (intOf v).toNat)
        case atStart => exact ⟨0, rfl, Nat.zero_le _, by simpa [lfF] using HB5.out, HPi.out⟩
        case round =>
          obtain ⟨j, rfl, hj, hbj, hpj⟩ := hrel
          have HBj := hid_mk hbj
          have HPj := hid_mk hpj
          have hf4 : nf ≤ 64 := by have := HK.out.2.2.2.1; have := HC.out.2; omega
          by_cases hlj : j < nf
          · have hd : decide ((j : Int) < (nf : Int)) = true := decide_eq_true (by omega)
            have hkm : (j : Int) < (nf : Int) := by omega
            have hk0 : (0 : Int) ≤ (j : Int) := by omega
            obtain ⟨⟨fP, fL, fC, cd⟩, hx⟩ : ∃ f, fs[j]? = some f := ⟨_, List.getElem?_eq_getElem (by have := HC.out.2; omega)⟩
            obtain ⟨g, off, pj, cj, rfl, c0, c1, c2, c3, hin⟩ : ∃ g off pj cj, fa = some ⟨g, off, none⟩ ∧ wr.cell? ⟨g, off + j * 4, none⟩ = some (.int .i64 fP) ∧ wr.cell? ⟨g, off + j * 4 + 1, none⟩ = some (.int .i64 fL) ∧ wr.cell? ⟨g, off + j * 4 + 2, none⟩ = some (.int .i64 fC) ∧ wr.cell? ⟨g, off + j * 4 + 3, none⟩ = some (.slice pj cd.length cj) ∧ InIn wr B pj cd := by
              rcases HFN.out.kept (hpj.lo hBl hBb) (Nat.le_refl _) with h | ⟨g, off, h1, _, h3⟩
              · rw [h] at hx; simp at hx
              · obtain ⟨pj, cj, c1, c2, c3, c4, c5⟩ := h3 j _ hx
                exact ⟨g, off, pj, cj, h1, c1, c2, c3, c4, c5⟩
            have hfo := HK.out.2.2.2.2 _ (List.mem_of_getElem? hx)
            have HFO := hid_mk hfo
            have HIN := hid_mk hin
            have HLt := hid_mk hlj
            have htk := lf_take_f hx
            have hle := lf_le_f fs (j + 1)
            have hlin : Hid ((lfF (glL x) ++ lfF (ts.map txL) ++ lfF ((fs.take j).flatMap (fnL plO))).length + (lfF (fnL plO (fP, fL, fC, cd))).length ≤ 3000000) := hid_mk (by
              rw [htk, List.length_append] at hle
              have := HL.out
              rw [List.length_append, List.length_append]
              omega)
            have HTK := hid_mk htk
            obtain ⟨m, hm⟩ : ∃ m, cd.length = m := ⟨_, rfl⟩
            have HM := hid_mk hm
            rw [hm] at c3
            clear hj hbj hpj hx hin hfo hlj htk hle hm j2
            go_wp2_with fail
            go_at_call 56
            refine (pfunc_any (B := B) fP fL fC pj m cj cd HFO.out HM.out (HIN.out.kept (Lo.of_out (B := B) ((Out.refl 0 0 wr).alloc _)) (Nat.le_refl _)) hBl hBb hNl hNb (by have := HPj.out.size; have := HH.out; rw [size_alloc]; omega) (HBj.out.out ((Out.refl 0 0 wr).alloc _)) ((HT.out.pf HPj.out hNl hNb).out ((Out.refl 0 0 wr).alloc _)) ((HN.out.pf HPj.out hNl hNb).out ((Out.refl 0 0 wr).alloc _)) hlin.out).mono ?_
            rintro e w6 ⟨rfl, hb6, hp6⟩
            rw [List.append_assoc, ← HTK.out] at hb6
            have HB6 := hid_mk hb6
            have P6 := hid_mk (HPj.out.trans ((PF.of_out ((Out.refl 0 0 wr).alloc _)).trans hp6))
            clear hb6 hp6
            go_wp2
            exact ⟨⟨j + 1, rfl, HLt.out, HB6.out, P6.out⟩, by have := HLt.out; show nf - (((j : Int) + 1).toNat) < nf - ((j : Int).toNat); omega⟩
          · have hd : decide ((j : Int) < (nf : Int)) = false := decide_eq_false (by omega)
            have hkm : ¬ ((j : Int) < (nf : Int)) := by omega
            obtain rfl : j = nf := by omega
            have e : fs.take j = fs := List.take_of_length_le (by have := HC.out.2; omega)
            rw [e] at hbj
            have HB7 := hid_mk hbj
            clear hlj hj hbj hpj j2 e HBj
            go_wp2
            go_end0
            exact ⟨rfl, by rw [← List.append_assoc]; exact HB7.out, (PF.of_out HOV.out).trans HPj.out⟩

end Go.Proofs.YtcnjlbjpeklgkaaGreatDoor
namespace Go.Proofs.YtcnjlbjpeklgkaaGreatDoor
open Go.RowKit
set_option linter.unusedVariables false
set_option linter.unusedSimpArgs false

theorem prt_lf (P : PrF) : prtF plO P = lfF (prL plO P) := rfl
theorem prt_small {P : PrF} (h : okP P) (hl : (encP P).length ≤ 65536) : (lfF (prL plO P)).length ≤ 3000000 := by
  have h1 := (pr_cost P h).1
  have h2 := prt_len plO P
  rw [prt_lf] at h2
  omega
theorem prt_some {P : PrF} (h : okP P) : lfF (prL plO P) ≠ [] := by
  obtain ⟨x, ts, fs⟩ := P
  obtain ⟨_, _, _, h4, _⟩ := h
  simp only at h4
  rw [prL_parts, lfF_app]
  match fs, h4 with
  | [], h4 => simp at h4
  | f :: r, _ =>
    intro e
    have e2 := (List.append_eq_nil_iff.1 e).2
    rw [List.flatMap_cons, lfF_app] at e2
    have e3 := (List.append_eq_nil_iff.1 e2).1
    rw [fn_lines f.1 f.2.1 f.2.2.1 f.2.2.2] at e3
    simp at e3
/-- what Print answers -/
def PrQ (w : World) (P : PrF) (e : Ending) (w' : World) : Prop := ∃ s : ByteArray, (wrE P = 0 → bt s = prtF plO P) ∧ (wrE P ≠ 0 → bt s = []) ∧ e = .returned (.tuple #[.string s, .int .i64 (wrE P)]) ∧ Out 0 0 w w'
set_option maxRecDepth 100000 in
set_option maxHeartbeats 4000000 in
theorem print_any {w : World} {B : Nat} (hT : Ty w) (hP : Tpw w) (hN : Nt w) (hB : B ≤ w.heap.size) (hNG : 9 ≤ w.heap.size) (x : Int) (ts : List (List Int)) (fs : List FnF) (ta fa : Option Addr) (nt tc nf fc : Nat) (hnt : ts.length = nt) (hnf : fs.length = nf) (hts : TxIn w B ta ts) (hfs : FnIn w B fa fs) (hM : ∀ f ∈ fs, MI f.2.2.2) :
    Calls Tryz.prog 18 #[.agg #[.int .i64 x, .slice ta nt tc, .slice fa nf fc]] w (PrQ w (x, ts, fs)) := by
  obtain ⟨V, hV⟩ : ∃ V, w.alloc (.cells #[.int .i64 x, .slice ta nt tc, .slice fa nf fc] 32) = V := ⟨_, rfl⟩
  obtain ⟨h, hh⟩ : ∃ h, w.heap.size = h := ⟨_, rfl⟩
  have hx := Bl.new w #[.int .i64 x, .slice ta nt tc, .slice fa nf fc] 32
  rw [hV, hh] at hx
  have hoV : Out 0 0 w V := by rw [← hV]; exact (Out.refl 0 0 w).alloc _
  have hVs : V.heap.size = h + 1 := by rw [← hV, size_alloc, hh]
  have k0 := hx.cell (i := 0) rfl
  have k1 := hx.cell (i := 1) rfl
  have k2 := hx.cell (i := 2) rfl
  have HX := hid_mk hx
  have HOV := hid_mk hoV
  have hTV : Ty V := hT.out hoV (.inr rfl)
  have HW := hid_mk (write_any hTV (B := B) (by omega) x ts fs ta fa nt tc nf fc hnt hnf (hts.kept (Lo.of_out (B := B) hoV) (Nat.le_refl _)) (hfs.kept (Lo.of_out (B := B) hoV) (Nat.le_refl _)) hM)
  have HP := hid_mk (hP.out hoV)
  have HN := hid_mk (hN.out hoV)
  have HTX := hid_mk (hts.kept (Lo.of_out (B := B) hoV) (Nat.le_refl _))
  have HFN := hid_mk (hfs.kept (Lo.of_out (B := B) hoV) (Nat.le_refl _))
  have HH := hid_mk (And.intro hh (And.intro hVs (And.intro hB hNG)))
  have HC := hid_mk (And.intro hnt hnf)
  clear hx hoV hTV hT hP hN hts hfs hM hB hNG hnt hnf hVs
  go_enter Tryz.func18, Tryz.ntmps18
  by_cases hok : okP (x, ts, fs) ∧ (encP (x, ts, fs)).length ≤ 65536
  · have hE := (wr_ok hok.1 hok.2).1
    have HOK := hid_mk hok
    have HE := hid_mk hE
    clear hok
    go_wp2_with (go_at_call 28; refine HW.out.mono ?_; rintro e w1 ⟨ra, K, cap, rfl, o1, _, _⟩; have hz := (HX.out.kept o1 (.inr (Nat.zero_le _))).alloc (.cells #[.pointer none, .slice none 0 0] 70); have m0 := hz.cell (i := 0) rfl; have m1 := hz.cell (i := 1) rfl; have m2 := hz.cell (i := 2) rfl; have HO1 := hid_mk o1; clear o1 hz)
    have hbu : BuT 70 (w1.alloc (.cells #[.pointer none, .slice none 0 0] 70)) (w1.heap.size + 1) w1.heap.size [] := ⟨none, _, .inl rfl, Bl.new w1 _ _, b8_nil _ _⟩
    have HA : Hid (Out 0 0 V (w1.alloc (.cells #[.pointer none, .slice none 0 0] 70))) := hid_mk (HO1.out.alloc _)
    go_at_call 29
    refine (whole_any (B := B) (lo := w1.heap.size + 1) (b := w1.heap.size) x ts fs ta fa nt tc nf fc HOK.out.1 HC.out.1 HC.out.2 (HTX.out.kept (Lo.of_out (B := B) HA.out) (Nat.le_refl _)) (HFN.out.kept (Lo.of_out (B := B) HA.out) (Nat.le_refl _)) (by have := HH.out; have := HO1.out.size; omega) (by have := HH.out; have := HO1.out.size; omega) (by have := HH.out; have := HO1.out.size; omega) (by have := HH.out; have := HO1.out.size; omega) (by rw [size_alloc]; exact Nat.le_refl _) hbu (HP.out.out HA.out) (HN.out.out HA.out) (prt_small HOK.out.1 HOK.out.2)).mono ?_
    rintro e w2 ⟨rfl, hb2, hp2⟩
    have HB2 := hid_mk hb2
    have HO2 := hid_mk (hp2.low ((HOV.out.trans HO1.out).alloc _) (by have := HH.out; have := HO1.out.size; omega) (by have := HH.out; have := HO1.out.size; omega))
    clear hb2 hp2 hbu m0 m1 m2
    go_wp2_with (go_at_call 30; refine (string_some HB2.out (prt_some HOK.out.1)).mono ?_; rintro e w3 ⟨s, hs, rfl, o3⟩; have HS := hid_mk hs; have HO3 := hid_mk (o3 w HO2.out (by have := HH.out; have := HO1.out.size; omega)); clear hs o3)
    go_ret2
    exact ⟨s, fun _ => HS.out, fun q => absurd HE.out q, by rw [HE.out]; rfl, HO3.out⟩
  · have hE : wrE (x, ts, fs) ≠ 0 := by
      by_cases h1 : okP (x, ts, fs)
      · rw [(wr_long h1 (Nat.lt_of_not_le fun q => hok ⟨h1, q⟩)).1]; decide
      · rw [(wr_form h1).1]; decide
    have hEd : (wrE (x, ts, fs) == 0) = false := by simpa using hE
    have HE := hid_mk hE
    clear hok hE
    go_wp2_with (go_at_call 28; refine HW.out.mono ?_; rintro e w1 ⟨ra, K, cap, rfl, o1, _, _⟩; have HO1 := hid_mk o1; clear o1)
    go_ret2
    exact ⟨⟨#[]⟩, fun q => absurd q HE.out, fun _ => rfl, rfl, HOV.out.trans HO1.out⟩
end Go.Proofs.YtcnjlbjpeklgkaaGreatDoor
