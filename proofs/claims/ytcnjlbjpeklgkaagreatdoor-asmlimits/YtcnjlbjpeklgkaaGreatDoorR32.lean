import Derived.Test.YtcnjlbjpeklgkaaGreatDoorR31
namespace Go.Proofs.YtcnjlbjpeklgkaaGreatDoor
open Go.RowKit
set_option linter.unusedVariables false
set_option linter.unusedSimpArgs false

theorem Nt.pf {w w' : World} {lo b : Nat} (h : Nt w) (g : PF lo b w w') (h1 : 9 ≤ lo) (h2 : 9 ≤ b) : Nt w' :=
  ⟨fun j v hj => g.cell (h.1 j v hj) (by rintro (q | ⟨q, _⟩); exact absurd (show 0 = b from q) (by omega); exact absurd (show lo ≤ 0 from q) (by omega)), fun j v hj => g.cell (h.2 j v hj) (by rintro (q | ⟨q, _⟩); exact absurd (show 2 = b from q) (by omega); exact absurd (show lo ≤ 2 from q) (by omega))⟩
/-- lines with their ends -/
def lfF (ls : List (List Int)) : List Int := ls.flatMap (fun l => l ++ [10])
theorem lfF_app (a b : List (List Int)) : lfF (a ++ b) = lfF a ++ lfF b := by unfold lfF; simp
theorem lfF_one (l : List Int) : lfF [l] = l ++ [10] := by unfold lfF; simp
theorem codL_snoc (c : List InF) : ∀ (l : List InF) (j : Nat) (x : InF), codL plO c j (l ++ [x]) = codL plO c j l ++ insL plO c (j + l.length) x
  | [], j, x => by simp [codL]
  | y :: l, j, x => by
    rw [List.cons_append, codL, codL, codL_snoc c l (j + 1) x, List.append_assoc]
    congr 3
    simp; omega
theorem codL_take (c : List InF) {i : Nat} {x : InF} (h : c[i]? = some x) : codL plO c 0 (c.take (i + 1)) = codL plO c 0 (c.take i) ++ insL plO c i x := by
  have hi := (List.getElem?_eq_some_iff.1 h).1
  rw [List.take_add_one, h]
  show codL plO c 0 (c.take i ++ [x]) = _
  rw [codL_snoc, List.length_take, Nat.min_eq_left (by omega), Nat.zero_add]
theorem codL_app (c : List InF) : ∀ (l r : List InF) (j : Nat), codL plO c j (l ++ r) = codL plO c j l ++ codL plO c (j + l.length) r
  | [], r, j => by simp [codL]
  | y :: l, r, j => by
    rw [List.cons_append, codL, codL, codL_app c l r (j + 1), List.append_assoc]
    congr 3
    simp; omega
theorem codL_le (c : List InF) (i : Nat) : (lfF (codL plO c 0 (c.take i))).length ≤ (lfF (codL plO c 0 c)).length := by
  conv => rhs; rw [← List.take_append_drop i c, codL_app, lfF_app, List.length_append]
  have : c.take i ++ c.drop i = c := List.take_append_drop i c
  rw [this]
  omega
theorem how_0 {op : Int} (h : opS op ≠ 0) : howF op = 0 ↔ ¬ 1 < opS op := by
  unfold howF opS at *
  constructor
  · intro q
    repeat' split at q
    all_goals first | (exfalso; omega) | skip
    repeat' split
    all_goals omega
  · intro q
    repeat' split at q
    all_goals first | (exfalso; omega) | skip
    repeat' split
    all_goals omega
/-- the line that begins a function -/
def fnH (P L C : Int) : List Int := byS "func " ++ dcF P.toNat ++ [32] ++ dcF L.toNat ++ [32] ++ dcF C.toNat
theorem dc_small {n : Nat} (h : n < 1000000) : (dcF n).length ≤ 6 := dcF_len 5 n (by omega)
theorem dc_int (n : Int) (h : 0 ≤ n) : (if n < 0 then 45 :: dcF (-n).toNat else dcF n.toNat) = dcF n.toNat := if_neg (by omega)
theorem fn_head {s1 s2 s3 : ByteArray} {P L C : Int} (e1 : bt s1 = if P < 0 then 45 :: dcF (-P).toNat else dcF P.toNat) (e2 : bt s2 = if L < 0 then 45 :: dcF (-L).toNat else dcF L.toNat) (e3 : bt s3 = if C < 0 then 45 :: dcF (-C).toNat else dcF C.toNat) (h1 : 0 ≤ P) (h2 : 0 ≤ L) (h3 : 0 ≤ C) : [⟨#[102, 117, 110, 99]⟩, ⟨#[32]⟩, s1, ⟨#[32]⟩, s2, ⟨#[32]⟩, s3].flatMap bt = fnH P L C := by
  rw [dc_int _ h1] at e1
  rw [dc_int _ h2] at e2
  rw [dc_int _ h3] at e3
  have b1 : bt ⟨#[102, 117, 110, 99]⟩ = [102, 117, 110, 99] := rfl
  have b2 : bt ⟨#[32]⟩ = [32] := rfl
  have b3 : byS "func " = [102, 117, 110, 99, 32] := by decide +kernel
  unfold fnH
  simp only [List.flatMap_cons, List.flatMap_nil, e1, e2, e3, b1, b2, b3, List.append_assoc, List.append_nil, List.cons_append, List.nil_append]
theorem fn_lines (P L C : Int) (cd : List InF) : lfF (fnL plO (P, L, C, cd)) = (fnH P L C ++ [10]) ++ lfF (codL plO cd 0 cd) := by
  show lfF (fnH P L C :: codL plO cd 0 cd) = _
  unfold lfF
  rw [List.flatMap_cons]
theorem fn_first (P L C : Int) (cd : List InF) : (fnH P L C).length + 1 ≤ (lfF (fnL plO (P, L, C, cd))).length := by
  rw [fn_lines, List.length_append, List.length_append]
  show _ + 1 ≤ _ + 1 + _
  omega
theorem pf_off {w : World} {lo b g : Nat} {cs : Array Value} {T : TypeId} (h1 : g ≠ b) (hg : Bl w g cs T) (hT : T ≠ 5) : ¬ PS w lo b g := by
  rintro (q | ⟨_, cs2, f, q⟩)
  · exact h1 q
  · have := hg.symm.trans q
    cases this
    exact hT rfl
/-- the line of an instruction itself -/
def inB (n : Nat) (o A : Int) : List Int := 9 :: nameF o ++ (if plO o then 32 :: toldF (o, A) n else [])
theorem ins_no {cd : List InF} {i : Nat} {o A : Int} (h : goesB cd i = false) : lfF (insL plO cd i (o, A)) = inB cd.length o A ++ [10] := by
  unfold insL
  rw [h]
  simp [lfF, inB]
theorem ins_yes {cd : List InF} {i : Nat} {o A : Int} (h : goesB cd i = true) : lfF (insL plO cd i (o, A)) = (76 :: dcF i ++ [58] ++ [10]) ++ (inB cd.length o A ++ [10]) := by
  unfold insL
  rw [h]
  simp [lfF, inB]
theorem ins_lab {cd : List InF} {i n : Nat} {o A : Int} (h : goesB cd i = true) : (dcF i).length + 3 ≤ (lfF (insL plO cd i (o, A))).length := by
  rw [ins_yes h]
  simp only [List.length_append, List.length_cons, List.length_nil]
  omega
set_option maxRecDepth 100000 in
set_option maxHeartbeats 8000000 in
theorem pfunc_any {w : World} {B lo b : Nat} {bs : List Int} (P L C : Int) (ca : Option Addr) (n cc : Nat) (cd : List InF) (hf : okF (P, L, C, cd)) (hn : cd.length = n) (hcd : InIn w B ca cd) (hBl : B ≤ lo) (hBb : B ≤ b) (hNl : 9 ≤ lo) (hNb : 9 ≤ b) (hlo : lo ≤ w.heap.size)
    (hb : BuT 70 w lo b bs) (ht : Tpw w) (hN : Nt w) (hlen : bs.length + (lfF (fnL plO (P, L, C, cd))).length ≤ 3000000) :
    Calls Tryz.prog 56 #[.pointer (some ⟨b, 0, none⟩), .agg #[.int .i64 P, .int .i64 L, .int .i64 C, .slice ca n cc]] w fun e w' => e = .returned (.tuple #[]) ∧ BuT 70 w' lo b (bs ++ lfF (fnL plO (P, L, C, cd))) ∧ PF lo b w w' := by
  obtain ⟨h1, h2, h3, h4, h5⟩ := hf
  simp only at h1 h2 h3 h4 h5
  obtain ⟨h, hh⟩ : ∃ h, w.heap.size = h := ⟨_, rfl⟩
  have hbh : b < h := by rw [← hh]; exact hb.lt
  obtain ⟨V, hV⟩ : ∃ V, w.alloc (.cells #[.int .i64 P, .int .i64 L, .int .i64 C, .slice ca n cc] 39) = V := ⟨_, rfl⟩
  have hx := Bl.new w #[.int .i64 P, .int .i64 L, .int .i64 C, .slice ca n cc] 39
  rw [hV, hh] at hx
  have hoV : Out 0 0 w V := by rw [← hV]; exact (Out.refl 0 0 w).alloc _
  have HX := hid_mk hx
  have k0 := hx.cell (i := 0) rfl
  have k1 := hx.cell (i := 1) rfl
  have k2 := hx.cell (i := 2) rfl
  have k3 := hx.cell (i := 3) rfl
  have HOV := hid_mk hoV
  have HB := hid_mk hb
  have HT := hid_mk (ht.out hoV)
  have HN := hid_mk (hN.out hoV)
  have HK := hid_mk (And.intro h1 (And.intro h2 (And.intro h3 (And.intro h4 h5))))
  have HC := hid_mk (And.intro hcd hn)
  have HL := hid_mk hlen
  have hVs : V.heap.size = h + 1 := by rw [← hV, size_alloc, hh]
  have HH := hid_mk (And.intro hh (And.intro hbh hVs))
  clear hx hoV hb ht hN h1 h2 h3 h4 h5 hcd hn hlen
  go_enter Tryz.func56, Tryz.ntmps56
  go_wp2_with fail
  (try rw [hV])
  (try rw [hh])
  clear hV hh hbh hVs
  refine wp_region_held_drew (S := fun w' => w'.cell? ⟨h, 0, none⟩ = some (.int .i64 P) ∧ w'.cell? ⟨h, 1, none⟩ = some (.int .i64 L) ∧ w'.cell? ⟨h, 2, none⟩ = some (.int .i64 C)) (by kernel_rfl) ?hS1 (fun hHeld => ?rest1)
  case hS1 => exact ⟨k0, k1, k2⟩
  refine tk 0 ?_
  refine tk 1 ?_
  refine tk 2 ?_
  refine tk 4 ?_
  refine tk 5 ?_
  refine tk 7 ?_
  refine tk 8 ?_
  refine wpAnyH_ready (rs := [3]) (by kernel_rfl) (by simp) ?_
  refine AllReadyH.cons rfl (fun KK hK => ?_) AllReadyH.nil
  simp only [xa, xb, xc]
  go_simp
  go_at_call 54
  refine (itoa_dc P (by have := HK.out.1; omega) (by have := HK.out.1; omega) (HT.out.out (Out.refl 0 0 V).drew)).mono ?_
  rintro e w3 ⟨s1, hs1, rfl, o3⟩
  have o3 := ((Out.refl 0 0 V).drew).trans o3
  have HS1 := hid_mk hs1
  clear hs1
  refine hK.out _ _ ?hS9 (fun hHeld2 => ?rest9)
  case hS9 => exact ⟨o3.cell k0 (.inr (Nat.zero_le _)), o3.cell k1 (.inr (Nat.zero_le _)), o3.cell k2 (.inr (Nat.zero_le _))⟩
  clear hK KK
  (try clear hHeld)
  have hHeld := hHeld2
  clear hHeld2
  (try simp only [Act.put, xa, xb, xc, xd, xe, xf])
  refine wpAnyH_ready (rs := [6]) (by kernel_rfl) (by simp) ?_
  refine AllReadyH.cons rfl (fun KK hK => ?_) AllReadyH.nil
  simp only [xa, xb, xc]
  go_simp
  go_at_call 54
  refine (itoa_dc L (by have := HK.out.2.1; omega) (by have := HK.out.2.1; omega) (HT.out.out o3)).mono ?_
  rintro e w6 ⟨s2, hs2, rfl, o6⟩
  have o6 := o3.trans o6
  have HS2 := hid_mk hs2
  clear hs2
  refine hK.out _ _ ?hS10 (fun hHeld2 => ?rest10)
  case hS10 => exact ⟨o6.cell k0 (.inr (Nat.zero_le _)), o6.cell k1 (.inr (Nat.zero_le _)), o6.cell k2 (.inr (Nat.zero_le _))⟩
  clear hK KK
  (try clear hHeld)
  have hHeld := hHeld2
  clear hHeld2
  (try simp only [Act.put, xa, xb, xc, xd, xe, xf])
  refine wpAnyH_ready (rs := [9]) (by kernel_rfl) (by simp) ?_
  refine AllReadyH.cons rfl (fun KK hK => ?_) AllReadyH.nil
  simp only [xa, xb, xc]
  go_simp
  go_at_call 54
  refine (itoa_dc C (by have := HK.out.2.2.1; omega) (by have := HK.out.2.2.1; omega) (HT.out.out o6)).mono ?_
  rintro e w9 ⟨s3, hs3, rfl, o9⟩
  have o9 := o6.trans o9
  have HS3 := hid_mk hs3
  clear hs3
  refine hK.out _ _ ?hS11 (fun hHeld2 => ?rest11)
  case hS11 => exact ⟨o9.cell k0 (.inr (Nat.zero_le _)), o9.cell k1 (.inr (Nat.zero_le _)), o9.cell k2 (.inr (Nat.zero_le _))⟩
  clear hK KK
  (try clear hHeld)
  have hHeld := hHeld2
  clear hHeld2
  (try simp only [Act.put, xa, xb, xc, xd, xe, xf])
  refine wpAnyH_ready (rs := [10]) (by kernel_rfl) (by simp) ?_
  refine AllReadyH.cons rfl (fun KK hK => ?_) AllReadyH.nil
  simp only [xa, xb, xc]
  go_simp
  refine hK.out _ _ ?hS12 (fun hHeld2 => ?rest12)
  case hS12 => exact ⟨(o9.alloc _).cell k0 (.inr (Nat.zero_le _)), (o9.alloc _).cell k1 (.inr (Nat.zero_le _)), (o9.alloc _).cell k2 (.inr (Nat.zero_le _))⟩
  clear hK KK
  (try clear hHeld)
  have hHeld := hHeld2
  clear hHeld2
  (try simp only [Act.put, xa, xb, xc, xd, xe, xf])
  refine wpAnyH_ready (rs := [11]) (by kernel_rfl) (by simp) ?_
  refine AllReadyH.cons rfl (fun KK hK => ?_) AllReadyH.nil
  simp only [xa, xb, xc]
  go_simp
  go_at_call 53
  refine (line_any (n := 7) (xs := [⟨#[102, 117, 110, 99]⟩, ⟨#[32]⟩, s1, ⟨#[32]⟩, s2, ⟨#[32]⟩, s3]) ((HB.out.out HOV.out).out (o9.alloc _)) (by have := HOV.out.size; have := o9.size; rw [size_alloc]; omega) (Bl.new w9 _ _) (by have := o9.size; have := HH.out; omega) rfl (by rw [fn_head HS1.out HS2.out HS3.out HK.out.1.1 HK.out.2.1.1 HK.out.2.2.1.1]; have := HL.out; have := fn_first P L C cd; omega) (by decide)).mono ?_
  rintro e w11 ⟨rfl, hb11, hp11⟩
  rw [fn_head HS1.out HS2.out HS3.out HK.out.1.1 HK.out.2.1.1 HK.out.2.2.1.1] at hb11
  have p11 : PF lo b V w11 := (PF.of_out (o9.alloc _)).trans hp11
  have HB11 := hid_mk hb11
  have HP11 := hid_mk p11
  have hx11 := p11.bl HX.out (by have := HH.out; omega) (by decide)
  clear hb11 hp11 p11
  refine hK.out _ _ ?hS13 (fun hHeld2 => ?rest13)
  case hS13 => exact ⟨hx11.cell (i := 0) rfl, hx11.cell (i := 1) rfl, hx11.cell (i := 2) rfl⟩
  clear hK KK
  (try clear hHeld)
  have hHeld := hHeld2
  clear hHeld2
  (try simp only [Act.put, xa, xb, xc, xd, xe, xf])
  refine wpAnyH_done (by kernel_rfl) ?_ _
  have m0 := hx11.cell (i := 0) rfl
  have m1 := hx11.cell (i := 1) rfl
  have m2 := hx11.cell (i := 2) rfl
  have m3 := hx11.cell (i := 3) rfl
  have HX11 := hid_mk hx11
  clear k0 k1 k2 k3 hHeld hx11 o3 o6 o9
  go_wp2_with (go_at_call 87; refine (targets_any (B := B) P L C ca n cc cd HC.out.2 (by have := HK.out.2.2.2.1; have := HC.out.2; omega) ((HC.out.1.kept (Lo.of_out (B := B) HOV.out) (Nat.le_refl _)).kept (HP11.out.lo hBl hBb) (Nat.le_refl _)) (by have := HP11.out.size; have := HOV.out.size; omega) HK.out.2.2.2.2).mono ?_; rintro e w12 ⟨g2, rfl, hg2, hgs, o12⟩; have n3 := o12.cell m3 (.inr (Nat.zero_le _)); have HG := hid_mk hg2; have HGS := hid_mk hgs; have HB12 := hid_mk (HB11.out.out o12); have HP12 := hid_mk (HP11.out.trans (PF.of_out o12)); clear hg2 hgs o12 m0 m1 m2 m3)
  go_loopw [25] (fun v wr => ∃ i : Nat, v = .int .i64 (i : Int) ∧ i ≤ n ∧ BuT 70 wr lo b (bs ++ (fnH P L C ++ [10]) ++ lfF (codL plO cd 0 (cd.take i))) ∧ PF lo b V wr ∧ Bl wr g2 (tgC cd n n).toArray 4) (fun v _ => n - (intOf v).toNat)
  case atStart => exact ⟨0, rfl, Nat.zero_le _, by have := HB12.out; rw [List.append_assoc] at this; simpa [codL, lfF] using this, HP12.out, HG.out⟩
  case round =>
    obtain ⟨i, rfl, hi, hbi, hpi, hgi⟩ := hrel
    have HBi := hid_mk hbi
    have HPi := hid_mk hpi
    have HGi := hid_mk hgi
    by_cases hlt : i < n
    · have hd : decide ((i : Int) < (n : Int)) = true := decide_eq_true (by omega)
      have hkm : (i : Int) < (n : Int) := by omega
      have hk0 : (0 : Int) ≤ (i : Int) := by omega
      have hn4 : n ≤ 4096 := by have := HK.out.2.2.2.1; have := HC.out.2; omega
      obtain ⟨⟨op, A⟩, hx⟩ : ∃ x, cd[i]? = some x := ⟨_, List.getElem?_eq_getElem (by have := HC.out.2; omega)⟩
      obtain ⟨q, off, rfl, c0, c1⟩ : ∃ g off, ca = some ⟨g, off, none⟩ ∧ wr.cell? ⟨g, off + i * 2, none⟩ = some (.int .i64 op) ∧ wr.cell? ⟨g, off + i * 2 + 1, none⟩ = some (.int .i64 A) := by
        rcases (HC.out.1.kept (Lo.of_out (B := B) HOV.out) (Nat.le_refl _)).kept (hpi.lo hBl hBb) (Nat.le_refl _) with h | ⟨g, off, h1, _, h3⟩
        · rw [h] at hx; simp at hx
        · exact ⟨g, off, h1, h3 i _ hx⟩
      have hI := HK.out.2.2.2.2 _ (List.mem_of_getElem? hx)
      have HI := hid_mk hI
      have hop0 := hI.1
      simp only at hop0
      obtain ⟨o, rfl, ho⟩ : ∃ o : Nat, op = (o : Int) ∧ o < 76 := by have := ops_rng hop0; exact ⟨op.toNat, by omega, by omega⟩
      have ho1 : (o : Int) < 76 := by omega
      have ho0 : (0 : Int) ≤ (o : Int) := by omega
      have HO := hid_mk ho
      have HOP := hid_mk hop0
      have HXi := hid_mk hx
      have HLt := hid_mk hlt
      have hle := codL_le cd (i + 1)
      have hct := codL_take cd hx
      have hlin : Hid (bs.length + (fnH P L C ++ [10]).length + (lfF (codL plO cd 0 (cd.take i))).length + (lfF (insL plO cd i ((o : Int), A))).length ≤ 3000000) := hid_mk (by
        rw [hct, lfF_app, List.length_append] at hle
        have := HL.out
        have e := fn_lines P L C cd
        rw [e, List.length_append] at this
        omega)
      have HCT := hid_mk hct
      have hbal : b < wr.heap.size := hbi.lt
      have HBL := hid_mk hbal
      obtain ⟨y, hy⟩ : ∃ y, wr.heap.size = y := ⟨_, rfl⟩
      obtain ⟨W1, hW1⟩ : ∃ W1, wr.alloc (.cells #[.int .i64 (o : Int), .int .i64 A] 55) = W1 := ⟨_, rfl⟩
      have hin := Bl.new wr #[.int .i64 (o : Int), .int .i64 A] 55
      rw [hW1, hy] at hin
      have o1 : Out 0 0 wr W1 := by rw [← hW1]; exact (Out.refl 0 0 wr).alloc _
      have b0 := (hgi.kept o1 (.inr (Nat.zero_le _))).cell (i := i) (v := .bool (goesB cd i)) (by
        rw [List.getElem?_toArray, tgC_at cd n hlt, List.take_of_length_le (by have := HC.out.2; omega)])
      have y0 := hin.cell (i := 0) rfl
      have y1 := hin.cell (i := 1) rfl
      have HIN := hid_mk hin
      have HO1 := hid_mk o1
      have h3 := (HPi.out.trans (PF.of_out o1)).bl HX.out (by have := HH.out; omega) (by decide)
      have x3 := h3.cell (i := 3) rfl
      have HY := hid_mk hy
      clear hi hbi hpi hgi hx hI hop0 ho hlt hle hct hbal hin o1
      cases hgo : goesB cd i with
      | false =>
        have P1 := hid_mk (HPi.out.trans (PF.of_out HO1.out) : PF lo b V W1)
        have HB4 := hid_mk (HBi.out.out HO1.out)
        have P4 := P1
        have HX4 := hid_mk h3
        have HY4 := HIN
        have HG4 := hid_mk (HGi.out.kept HO1.out (.inr (Nat.zero_le _)))
        clear h3
        have hnm := (HN.out.pf P4.out hNl hNb).1 o _ (nmL_at HO.out)
        rw [Nat.zero_add] at hnm
        have HRel : ∀ (ys : List Int) (wz : World), ys = inB n (o : Int) A → BuT 70 wz lo b ((bs ++ (fnH P L C ++ [10]) ++ lfF (codL plO cd 0 (cd.take i))) ++ ys ++ [10]) → BuT 70 wz lo b (bs ++ (fnH P L C ++ [10]) ++ lfF (codL plO cd 0 (cd.take (i + 1)))) := fun ys wz e h => by
          rw [HCT.out, lfF_app, ins_no hgo, HC.out.2, ← e]
          simpa only [List.append_assoc] using h
        have HRel := hid_mk HRel
        have hLen : ∀ (ys : List Int), ys = inB n (o : Int) A → ((bs ++ (fnH P L C ++ [10]) ++ lfF (codL plO cd 0 (cd.take i)))).length + ys.length + 1 ≤ 4000000 := fun ys e => by
          rw [e]
          have h1 := hlin.out; rw [ins_no hgo] at h1; have h2 := HC.out.2; rw [h2] at h1; simp only [List.length_append, List.length_cons, List.length_nil] at *; omega
        have HLen := hid_mk hLen
        clear hLen
        by_cases hpl : 1 < opS (o : Int)
        · have hh0 : (howF (o : Int) == 0) = false := by simp only [beq_eq_false_iff_ne]; exact fun e => (how_0 HOP.out).1 e hpl
          have HPl := hid_mk hpl
          have HF2 : ∀ s, bt s = toldF ((o : Int), A) n → [⟨#[9]⟩, nmS o, ⟨#[32]⟩, s].flatMap bt = inB n (o : Int) A := fun s e => by
            have b1 : bt ⟨#[9]⟩ = [9] := rfl
            have b2 : bt ⟨#[32]⟩ = [32] := rfl
            have b3 := bt_nm ⟨o, HO.out⟩
            simp only at b3
            unfold inB plO
            simp only [List.flatMap_cons, List.flatMap_nil, e, b1, b2, b3, List.append_nil, hpl, decide_true, if_true, List.cons_append, List.nil_append]
          have HF2 := hid_mk HF2
          clear hpl
          go_wp2_with (go_at_call 89; refine (how_any _ _).mono ?_; rintro e w4 ⟨rfl, rfl⟩)
          refine wp_region_held_drew (S := fun w' => w'.cell? ⟨y, 0, none⟩ = some (.int .i64 (o : Int)) ∧ w'.cell? ⟨y, 1, none⟩ = some (.int .i64 A) ∧ w'.cell? ⟨h, 3, none⟩ = some (.slice (some ⟨q, off, none⟩) n cc) ∧ w'.cell? ⟨0, o, none⟩ = some (.string (nmS o))) (by kernel_rfl) ?hS14 (fun hHeld => ?rest14)
          case hS14 => exact ⟨HY4.out.cell (i := 0) rfl, HY4.out.cell (i := 1) rfl, HX4.out.cell (i := 3) rfl, hnm⟩
          refine tk 0 ?_
          refine tk 1 ?_
          refine tk 2 ?_
          refine tk 3 ?_
          refine tk 4 ?_
          refine tk 5 ?_
          refine tk 6 ?_
          refine tk 7 ?_
          refine tk 8 ?_
          refine tk 9 ?_
          refine tk 10 ?_
          refine wpAnyH_ready (rs := [11]) (by kernel_rfl) (by simp) ?_
          refine AllReadyH.cons rfl (fun KK hK => ?_) AllReadyH.nil
          simp only [xa, xb, xc]
          go_simp
          go_at_call 90
          refine (operand_text (o : Int) A n HI.out HPl.out (by omega) ((HT.out.pf P4.out hNl hNb).out ((Out.refl 0 0 w4).drew)) ((HN.out.pf P4.out hNl hNb).out ((Out.refl 0 0 w4).drew))).mono ?_
          rintro e w5 ⟨s, hs, rfl, o5⟩
          have o5 := ((Out.refl 0 0 w4).drew).trans o5
          have HS5 := hid_mk hs
          have HO5 := hid_mk o5
          clear hs
          refine hK.out _ _ ?hS26 (fun hHeld2 => ?rest26)
          case hS26 => exact ⟨(HY4.out.kept o5 (.inr (Nat.zero_le _))).cell (i := 0) rfl, (HY4.out.kept o5 (.inr (Nat.zero_le _))).cell (i := 1) rfl, (HX4.out.kept o5 (.inr (Nat.zero_le _))).cell (i := 3) rfl, o5.cell hnm (.inr (Nat.zero_le _))⟩
          clear hK KK
          (try clear hHeld)
          have hHeld := hHeld2
          clear hHeld2
          (try simp only [Act.put, xa, xb, xc, xd, xe, xf])
          refine wpAnyH_ready (rs := [12]) (by kernel_rfl) (by simp) ?_
          refine AllReadyH.cons rfl (fun KK hK => ?_) AllReadyH.nil
          simp only [xa, xb, xc]
          go_simp
          refine hK.out _ _ ?hS27 (fun hHeld2 => ?rest27)
          case hS27 => exact ⟨(HY4.out.kept (HO5.out.alloc _) (.inr (Nat.zero_le _))).cell (i := 0) rfl, (HY4.out.kept (HO5.out.alloc _) (.inr (Nat.zero_le _))).cell (i := 1) rfl, (HX4.out.kept (HO5.out.alloc _) (.inr (Nat.zero_le _))).cell (i := 3) rfl, (HO5.out.alloc _).cell hnm (.inr (Nat.zero_le _))⟩
          clear hK KK
          (try clear hHeld)
          have hHeld := hHeld2
          clear hHeld2
          (try simp only [Act.put, xa, xb, xc, xd, xe, xf])
          refine wpAnyH_ready (rs := [13]) (by kernel_rfl) (by simp) ?_
          refine AllReadyH.cons rfl (fun KK hK => ?_) AllReadyH.nil
          simp only [xa, xb, xc]
          go_simp
          go_at_call 53
          refine (line_any (n := 4) (xs := [⟨#[9]⟩, nmS o, ⟨#[32]⟩, s]) (HB4.out.out (HO5.out.alloc _)) (by have := P4.out.size; have := HH.out; have := HO5.out.size; rw [size_alloc]; omega) (Bl.new w5 _ _) (by have := HB4.out.lt; have := HO5.out.size; omega) rfl (by rw [HF2.out _ HS5.out]; exact HLen.out _ rfl) (by decide)).mono ?_
          rintro e w6 ⟨rfl, hb6, hp6⟩
          have p6 : PF lo b w4 w6 := (PF.of_out (HO5.out.alloc _)).trans hp6
          have HB6 := hid_mk hb6
          have P6 := hid_mk p6
          clear hb6 hp6 p6
          refine hK.out _ _ ?hS28 (fun hHeld2 => ?rest28)
          case hS28 => exact ⟨(P6.out.bl HY4.out (by have := HBL.out; have := HY.out; omega) (by decide)).cell (i := 0) rfl, (P6.out.bl HY4.out (by have := HBL.out; have := HY.out; omega) (by decide)).cell (i := 1) rfl, (P6.out.bl HX4.out (by have := HH.out; omega) (by decide)).cell (i := 3) rfl, by have h0 := ((HN.out.pf P4.out hNl hNb).pf P6.out hNl hNb).1 o _ (nmL_at HO.out); rwa [Nat.zero_add] at h0⟩
          clear hK KK
          (try clear hHeld)
          have hHeld := hHeld2
          clear hHeld2
          (try simp only [Act.put, xa, xb, xc, xd, xe, xf])
          refine wpAnyH_done (by kernel_rfl) ?_ _
          clear hHeld
          go_wp2
          exact ⟨⟨i + 1, rfl, HLt.out, HRel.out _ _ (HF2.out _ HS5.out) HB6.out, P4.out.trans P6.out, HG4.out.fx P6.out (pf_off (by have := HGS.out; have := HP11.out.size; have := HH.out; omega) HG4.out (by decide))⟩, by have := HLt.out; show n - (((i : Int) + 1).toNat) < n - ((i : Int).toNat); omega⟩
        · have hh0 : howF (o : Int) = 0 := (how_0 HOP.out).2 hpl
          have HF2 : [⟨#[9]⟩, nmS o].flatMap bt = inB n (o : Int) A := by
            have b1 : bt ⟨#[9]⟩ = [9] := rfl
            have b3 := bt_nm ⟨o, HO.out⟩
            simp only at b3
            unfold inB plO
            simp only [List.flatMap_cons, List.flatMap_nil, b1, b3, List.append_nil, hpl, decide_false, List.cons_append, List.nil_append]
            rw [if_neg (by decide), List.append_nil]
          have HF2 := hid_mk HF2
          clear hpl
          go_wp2_with (go_at_call 89; refine (how_any _ _).mono ?_; rintro e w4 ⟨rfl, rfl⟩; rw [hh0])
          go_at_call 53
          refine (line_any (n := 2) (xs := [⟨#[9]⟩, nmS o]) (HB4.out.out ((Out.refl 0 0 w4).alloc _)) (by have := P4.out.size; have := HH.out; rw [size_alloc]; omega) (Bl.new w4 _ _) (by have := HB4.out.lt; omega) rfl (by rw [HF2.out]; exact HLen.out _ rfl) (by decide)).mono ?_
          rintro e w6 ⟨rfl, hb6, hp6⟩
          have p6 : PF lo b w4 w6 := (PF.of_out ((Out.refl 0 0 w4).alloc _)).trans hp6
          have HB6 := hid_mk hb6
          have P6 := hid_mk p6
          clear hb6 hp6 p6
          go_wp2
          exact ⟨⟨i + 1, rfl, HLt.out, HRel.out _ _ HF2.out HB6.out, P4.out.trans P6.out, HG4.out.fx P6.out (pf_off (by have := HGS.out; have := HP11.out.size; have := HH.out; omega) HG4.out (by decide))⟩, by have := HLt.out; show n - (((i : Int) + 1).toNat) < n - ((i : Int).toNat); omega⟩
      | true =>
        have P1 := hid_mk (HPi.out.trans (PF.of_out HO1.out) : PF lo b V W1)
        have hLb : Hid (((bs ++ (fnH P L C ++ [10]) ++ lfF (codL plO cd 0 (cd.take i))).length + (76 :: dcF i ++ [58] : List Int).length + 1 ≤ 3000000)) := hid_mk (by
          have h1 := hlin.out
          have h2 := ins_lab (n := cd.length) (o := (o : Int)) (A := A) hgo
          simp only [List.length_append, List.length_cons, List.length_nil] at *
          omega)
        have HF1 : ∀ sa, bt sa = 76 :: dcF i → [sa, ⟨#[58]⟩].flatMap bt = 76 :: dcF i ++ [58] := fun sa e => by
          have b1 : bt ⟨#[58]⟩ = [58] := rfl
          simp only [List.flatMap_cons, List.flatMap_nil, e, b1, List.append_nil]
        have HF1 := hid_mk HF1
        go_wp2_with (go_at_call 88; refine (label_of i (by omega) (HT.out.pf P1.out hNl hNb)).mono ?_; rintro e wa ⟨sa, hsa, rfl, oa⟩; have HSA := hid_mk hsa; have HOA := hid_mk oa; clear hsa oa)
        have hput := line_any (n := 2) (c := 2) (xs := [sa, ⟨#[58]⟩]) (((HBi.out.out HO1.out).out HOA.out).out ((Out.refl 0 0 wa).alloc (.cells #[.string sa, .string ⟨#[58]⟩] 9))) (by have := HPi.out.size; have := HH.out; have := HO1.out.size; have := HOA.out.size; rw [size_alloc]; omega) (Bl.new wa _ _) (by have := HBL.out; have := HO1.out.size; have := HOA.out.size; omega) rfl (by rw [HF1.out _ HSA.out]; have := hLb.out; omega) (by decide)
        rw [HF1.out _ HSA.out] at hput
        have HPut := hid_mk hput
        clear hput
        go_at_call 53
        refine HPut.out.mono ?_
        rintro e wb ⟨rfl, hbb, hpb⟩
        have pb : PF lo b W1 wb := (PF.of_out (HOA.out.alloc _)).trans hpb
        have HB4 := hid_mk hbb
        have P4 := hid_mk (P1.out.trans pb)
        have hyb := pb.bl HIN.out (by have := HBL.out; have := HY.out; omega) (by decide)
        have hxb := P4.out.bl HX.out (by have := HH.out; omega) (by decide)
        have z0 := hyb.cell (i := 0) rfl
        have z1 := hyb.cell (i := 1) rfl
        have z3 := hxb.cell (i := 3) rfl
        have HX4 := hid_mk hxb
        have HY4 := hid_mk hyb
        have HG4 := hid_mk (((HGi.out.kept HO1.out (.inr (Nat.zero_le _)))).fx pb (pf_off (by have := HGS.out; have := HP11.out.size; have := HH.out; omega) (HGi.out.kept HO1.out (.inr (Nat.zero_le _))) (by decide)))
        clear hbb hpb pb hyb hxb y0 y1 x3 HPut HSA HOA
        have hnm := (HN.out.pf P4.out hNl hNb).1 o _ (nmL_at HO.out)
        rw [Nat.zero_add] at hnm
        have HRel : ∀ (ys : List Int) (wz : World), ys = inB n (o : Int) A → BuT 70 wz lo b ((bs ++ (fnH P L C ++ [10]) ++ lfF (codL plO cd 0 (cd.take i))) ++ (76 :: dcF i ++ [58]) ++ [10] ++ ys ++ [10]) → BuT 70 wz lo b (bs ++ (fnH P L C ++ [10]) ++ lfF (codL plO cd 0 (cd.take (i + 1)))) := fun ys wz e h => by
          rw [HCT.out, lfF_app, ins_yes hgo, HC.out.2, ← e]
          simpa only [List.append_assoc] using h
        have HRel := hid_mk HRel
        have hLen : ∀ (ys : List Int), ys = inB n (o : Int) A → ((bs ++ (fnH P L C ++ [10]) ++ lfF (codL plO cd 0 (cd.take i))) ++ (76 :: dcF i ++ [58]) ++ [10]).length + ys.length + 1 ≤ 4000000 := fun ys e => by
          rw [e]
          have h1 := hlin.out; rw [ins_yes hgo] at h1; have h2 := HC.out.2; rw [h2] at h1; simp only [List.length_append, List.length_cons, List.length_nil] at *; omega
        have HLen := hid_mk hLen
        clear hLen
        by_cases hpl : 1 < opS (o : Int)
        · have hh0 : (howF (o : Int) == 0) = false := by simp only [beq_eq_false_iff_ne]; exact fun e => (how_0 HOP.out).1 e hpl
          have HPl := hid_mk hpl
          have HF2 : ∀ s, bt s = toldF ((o : Int), A) n → [⟨#[9]⟩, nmS o, ⟨#[32]⟩, s].flatMap bt = inB n (o : Int) A := fun s e => by
            have b1 : bt ⟨#[9]⟩ = [9] := rfl
            have b2 : bt ⟨#[32]⟩ = [32] := rfl
            have b3 := bt_nm ⟨o, HO.out⟩
            simp only at b3
            unfold inB plO
            simp only [List.flatMap_cons, List.flatMap_nil, e, b1, b2, b3, List.append_nil, hpl, decide_true, if_true, List.cons_append, List.nil_append]
          have HF2 := hid_mk HF2
          clear hpl
          go_wp2_with (go_at_call 89; refine (how_any _ _).mono ?_; rintro e w4 ⟨rfl, rfl⟩)
          refine wp_region_held_drew (S := fun w' => w'.cell? ⟨y, 0, none⟩ = some (.int .i64 (o : Int)) ∧ w'.cell? ⟨y, 1, none⟩ = some (.int .i64 A) ∧ w'.cell? ⟨h, 3, none⟩ = some (.slice (some ⟨q, off, none⟩) n cc) ∧ w'.cell? ⟨0, o, none⟩ = some (.string (nmS o))) (by kernel_rfl) ?hS29 (fun hHeld => ?rest29)
          case hS29 => exact ⟨HY4.out.cell (i := 0) rfl, HY4.out.cell (i := 1) rfl, HX4.out.cell (i := 3) rfl, hnm⟩
          refine tk 0 ?_
          refine tk 1 ?_
          refine tk 2 ?_
          refine tk 3 ?_
          refine tk 4 ?_
          refine tk 5 ?_
          refine tk 6 ?_
          refine tk 7 ?_
          refine tk 8 ?_
          refine tk 9 ?_
          refine tk 10 ?_
          refine wpAnyH_ready (rs := [11]) (by kernel_rfl) (by simp) ?_
          refine AllReadyH.cons rfl (fun KK hK => ?_) AllReadyH.nil
          simp only [xa, xb, xc]
          go_simp
          go_at_call 90
          refine (operand_text (o : Int) A n HI.out HPl.out (by omega) ((HT.out.pf P4.out hNl hNb).out ((Out.refl 0 0 w4).drew)) ((HN.out.pf P4.out hNl hNb).out ((Out.refl 0 0 w4).drew))).mono ?_
          rintro e w5 ⟨s, hs, rfl, o5⟩
          have o5 := ((Out.refl 0 0 w4).drew).trans o5
          have HS5 := hid_mk hs
          have HO5 := hid_mk o5
          clear hs
          refine hK.out _ _ ?hS41 (fun hHeld2 => ?rest41)
          case hS41 => exact ⟨(HY4.out.kept o5 (.inr (Nat.zero_le _))).cell (i := 0) rfl, (HY4.out.kept o5 (.inr (Nat.zero_le _))).cell (i := 1) rfl, (HX4.out.kept o5 (.inr (Nat.zero_le _))).cell (i := 3) rfl, o5.cell hnm (.inr (Nat.zero_le _))⟩
          clear hK KK
          (try clear hHeld)
          have hHeld := hHeld2
          clear hHeld2
          (try simp only [Act.put, xa, xb, xc, xd, xe, xf])
          refine wpAnyH_ready (rs := [12]) (by kernel_rfl) (by simp) ?_
          refine AllReadyH.cons rfl (fun KK hK => ?_) AllReadyH.nil
          simp only [xa, xb, xc]
          go_simp
          refine hK.out _ _ ?hS42 (fun hHeld2 => ?rest42)
          case hS42 => exact ⟨(HY4.out.kept (HO5.out.alloc _) (.inr (Nat.zero_le _))).cell (i := 0) rfl, (HY4.out.kept (HO5.out.alloc _) (.inr (Nat.zero_le _))).cell (i := 1) rfl, (HX4.out.kept (HO5.out.alloc _) (.inr (Nat.zero_le _))).cell (i := 3) rfl, (HO5.out.alloc _).cell hnm (.inr (Nat.zero_le _))⟩
          clear hK KK
          (try clear hHeld)
          have hHeld := hHeld2
          clear hHeld2
          (try simp only [Act.put, xa, xb, xc, xd, xe, xf])
          refine wpAnyH_ready (rs := [13]) (by kernel_rfl) (by simp) ?_
          refine AllReadyH.cons rfl (fun KK hK => ?_) AllReadyH.nil
          simp only [xa, xb, xc]
          go_simp
          go_at_call 53
          refine (line_any (n := 4) (xs := [⟨#[9]⟩, nmS o, ⟨#[32]⟩, s]) (HB4.out.out (HO5.out.alloc _)) (by have := P4.out.size; have := HH.out; have := HO5.out.size; rw [size_alloc]; omega) (Bl.new w5 _ _) (by have := HB4.out.lt; have := HO5.out.size; omega) rfl (by rw [HF2.out _ HS5.out]; exact HLen.out _ rfl) (by decide)).mono ?_
          rintro e w6 ⟨rfl, hb6, hp6⟩
          have p6 : PF lo b w4 w6 := (PF.of_out (HO5.out.alloc _)).trans hp6
          have HB6 := hid_mk hb6
          have P6 := hid_mk p6
          clear hb6 hp6 p6
          refine hK.out _ _ ?hS43 (fun hHeld2 => ?rest43)
          case hS43 => exact ⟨(P6.out.bl HY4.out (by have := HBL.out; have := HY.out; omega) (by decide)).cell (i := 0) rfl, (P6.out.bl HY4.out (by have := HBL.out; have := HY.out; omega) (by decide)).cell (i := 1) rfl, (P6.out.bl HX4.out (by have := HH.out; omega) (by decide)).cell (i := 3) rfl, by have h0 := ((HN.out.pf P4.out hNl hNb).pf P6.out hNl hNb).1 o _ (nmL_at HO.out); rwa [Nat.zero_add] at h0⟩
          clear hK KK
          (try clear hHeld)
          have hHeld := hHeld2
          clear hHeld2
          (try simp only [Act.put, xa, xb, xc, xd, xe, xf])
          refine wpAnyH_done (by kernel_rfl) ?_ _
          clear hHeld
          go_wp2
          exact ⟨⟨i + 1, rfl, HLt.out, HRel.out _ _ (HF2.out _ HS5.out) HB6.out, P4.out.trans P6.out, HG4.out.fx P6.out (pf_off (by have := HGS.out; have := HP11.out.size; have := HH.out; omega) HG4.out (by decide))⟩, by have := HLt.out; show n - (((i : Int) + 1).toNat) < n - ((i : Int).toNat); omega⟩
        · have hh0 : howF (o : Int) = 0 := (how_0 HOP.out).2 hpl
          have HF2 : [⟨#[9]⟩, nmS o].flatMap bt = inB n (o : Int) A := by
            have b1 : bt ⟨#[9]⟩ = [9] := rfl
            have b3 := bt_nm ⟨o, HO.out⟩
            simp only at b3
            unfold inB plO
            simp only [List.flatMap_cons, List.flatMap_nil, b1, b3, List.append_nil, hpl, decide_false, List.cons_append, List.nil_append]
            rw [if_neg (by decide), List.append_nil]
          have HF2 := hid_mk HF2
          clear hpl
          go_wp2_with (go_at_call 89; refine (how_any _ _).mono ?_; rintro e w4 ⟨rfl, rfl⟩; rw [hh0])
          go_at_call 53
          refine (line_any (n := 2) (xs := [⟨#[9]⟩, nmS o]) (HB4.out.out ((Out.refl 0 0 w4).alloc _)) (by have := P4.out.size; have := HH.out; rw [size_alloc]; omega) (Bl.new w4 _ _) (by have := HB4.out.lt; omega) rfl (by rw [HF2.out]; exact HLen.out _ rfl) (by decide)).mono ?_
          rintro e w6 ⟨rfl, hb6, hp6⟩
          have p6 : PF lo b w4 w6 := (PF.of_out ((Out.refl 0 0 w4).alloc _)).trans hp6
          have HB6 := hid_mk hb6
          have P6 := hid_mk p6
          clear hb6 hp6 p6
          go_wp2
          exact ⟨⟨i + 1, rfl, HLt.out, HRel.out _ _ HF2.out HB6.out, P4.out.trans P6.out, HG4.out.fx P6.out (pf_off (by have := HGS.out; have := HP11.out.size; have := HH.out; omega) HG4.out (by decide))⟩, by have := HLt.out; show n - (((i : Int) + 1).toNat) < n - ((i : Int).toNat); omega⟩
    · have hd : decide ((i : Int) < (n : Int)) = false := decide_eq_false (by omega)
      have hkm : ¬ ((i : Int) < (n : Int)) := by omega
      obtain rfl : i = n := by omega
      clear hlt hi hbi hpi hgi
      go_wp2
      go_end0
      refine ⟨rfl, ?_, (PF.of_out HOV.out).trans HPi.out⟩
      rw [fn_lines, ← List.append_assoc]
      have e : cd.take i = cd := List.take_of_length_le (by have := HC.out.2; omega)
      have h0 := HBi.out
      rw [e] at h0
      exact h0
end Go.Proofs.YtcnjlbjpeklgkaaGreatDoor
