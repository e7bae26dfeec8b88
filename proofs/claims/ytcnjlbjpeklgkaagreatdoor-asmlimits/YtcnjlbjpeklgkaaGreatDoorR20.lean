import Derived.Test.YtcnjlbjpeklgkaaGreatDoorR19
namespace Go.Proofs.YtcnjlbjpeklgkaaGreatDoor
open Go.RowKit Go.MapKept
set_option linter.unusedVariables false
set_option linter.unusedSimpArgs false

/-- what a label does -/
def markG (s : Low) (nm : List Int) (l : List (List Int)) : Option Low :=
  if s.fs = [] ∨ l ≠ [] ∨ nmB nm = false ∨ s.L nm ≠ none then none
  else some { s with L := updL s.L nm (lenI s.fs), fs := (s.U nm).foldl (fun fs u => setA fs u.2 (lenI s.fs)) s.fs, U := noU s.U nm }
/-- jumps that lead to v -/
def ptc (v : Int) (us : List (Nat × Nat)) (fs : List FnF) : List FnF := us.foldl (fun fs u => setA fs u.2 v) fs
theorem ptc_snoc (v : Int) (us : List (Nat × Nat)) (u : Nat × Nat) (fs : List FnF) : ptc v (us ++ [u]) fs = setA (ptc v us fs) u.2 v := by unfold ptc; simp
theorem ptc_at {fs : List FnF} {m : Nat} {f : FnF} (hf : fs[m]? = some f) (hm : fs.length = m + 1) (v : Int) (us : List (Nat × Nat)) : (ptc v us fs).length = m + 1 ∧ ∃ f', (ptc v us fs)[m]? = some f' ∧ f'.1 = f.1 ∧ f'.2.1 = f.2.1 ∧ f'.2.2.1 = f.2.2.1 ∧ f'.2.2.2.length = f.2.2.2.length := by
  induction us using snoc_ind with
  | h0 => exact ⟨hm, f, hf, rfl, rfl, rfl, rfl⟩
  | h1 us u ih =>
    obtain ⟨h1, f', h2, h3, h4, h5, h6⟩ := ih
    rw [ptc_snoc, setA_set h2 h1]
    exact ⟨by rw [List.length_set]; exact h1, _, List.getElem?_set_self (by omega), h3, h4, h5, by simp [h6]⟩
theorem ucl_at {l : List (Nat × Nat)} {j : Nat} {u : Nat × Nat} (h : l[j]? = some u) : (ucl l)[j * 2]? = some (.int .i64 u.1) ∧ (ucl l)[j * 2 + 1]? = some (.int .i64 u.2) := by
  induction l generalizing j with
  | nil => simp at h
  | cons x l ih =>
    cases j with
    | zero => cases h; exact ⟨rfl, rfl⟩
    | succ j =>
      have := ih (j := j) (by simpa using h)
      rw [show (j + 1) * 2 = j * 2 + 1 + 1 by omega]
      exact this
section
variable {p bl bu : Nat} {w w' w2 : World} {s : Low} {ta fa : Option Addr} {tc fc nt nf : Nat} {vs cs : List Value}
set_option maxRecDepth 100000 in
set_option maxHeartbeats 4000000 in
theorem label_any (h : AL w p bl bu s) (x0 : ByteArray) (xs : List ByteArray) (a : Option Addr) (m0 c : Nat) (hm : xs.length = m0) (hU : ∀ t, (s.U t).length ≤ 1000000) (hfl : s.fs.length ≤ 1000000) (hcl : ∀ f ∈ s.fs, f.2.2.2.length ≤ 1000000) (hin : ∀ u ∈ s.U (bt x0), u.2 < lenI s.fs) :
    Calls Tryz.prog 97 #[.pointer (some ⟨p, 0, none⟩), .string x0, .slice a m0 c] w fun e w' => Fr p bl bu w w' ∧ ((∃ s', markG s (bt x0) (xs.map bt) = some s' ∧ e = .returned (.tuple #[]) ∧ AL w' p bl bu s') ∨ (markG s (bt x0) (xs.map bt) = none ∧ e = .panicked [giveUp] ∧ AL w' p bl bu s)) := by
  have no := hid_mk h
  obtain ⟨ta, tc, fa, fc, nt, nf, vs, cs, ho⟩ := h.ao
  by_cases hne : s.fs = []
  · have c2 : w.cell? ⟨p, 2, none⟩ = some (.slice fa 0 fc) := by
      have := ho.2.1.cell (i := 2) rfl
      rw [ho.1.2.2.2.2, hne] at this
      exact this
    have HF := hid_mk (fun_no c2)
    have Hn : Hid (markG s (bt x0) (xs.map bt) = none) := hid_mk (by unfold markG; rw [if_pos (.inl hne)])
    clear h ho hU hfl hcl hne hm
    go_enter Tryz.func97, Tryz.ntmps97
    go_wp2_with (go_at_call 123; refine HF.out.mono ?_; rintro e w2 ⟨rfl, rfl⟩)
    exact ⟨rfl, Fr.refl _ _ _ _, .inr ⟨Hn.out, rfl, no.out⟩⟩
  · obtain ⟨q, m, ca, cc, f, rfl, hnf, hf, hcm, hcell⟩ := ho.last hne
    have c2 : w.cell? ⟨p, 2, none⟩ = some (.slice (some ⟨q, 0, none⟩) nf fc) := ho.2.1.cell rfl
    have c4 : w.cell? ⟨p, 4, none⟩ = some (.map (some bl)) := ho.2.1.cell rfl
    have HF := hid_mk (fun_at (p := p) (w := w) (q := q) (nf := nf) (m := m) (fc := fc) c2 hnf (by have := ho.1.2.2.2.2; omega))
    have HLk := hid_mk (fun W (o : Out 0 0 w W) => mq_look (P := Tryz.prog) (w := W) true Tryz.underlying74 Tryz.underlying9 (z := .int .i64 0) (e := 3) (by kernel_rfl) (ho.2.2.2.2.2.2.2.1.kept o (.inr (Nat.zero_le _))) x0)
    have HN := hid_mk (name_any x0)
    have HO := hid_mk ho
    by_cases hm0 : m0 = 0
    · by_cases hnm : nmB (bt x0) = true
      · rw [hnm] at HN
        have m1 : ((m0 : Int) == 0) = true := by rw [hm0]; rfl
        cases hL : s.L (bt x0) with
        | none =>
          rw [hL] at HLk
          have hxs : xs = [] := List.eq_nil_of_length_eq_zero (hm.trans hm0)
          have hlen : lenI s.fs = f.2.2.2.length := by
            unfold lenI
            rw [List.getLast?_eq_getElem?, show s.fs.length - 1 = m by have := ho.1.2.2.2.2; omega, hf]
          obtain ⟨n, hn⟩ : ∃ n, f.2.2.2.length = n := ⟨_, rfl⟩
          have Hs : Hid (markG s (bt x0) (xs.map bt) = some { s with L := updL s.L (bt x0) n, fs := ptc n (s.U (bt x0)) s.fs, U := noU s.U (bt x0) }) := hid_mk (by
            subst hxs
            unfold markG ptc
            rw [if_neg (by simp [hne, hnm, hL]), hlen, hn])
          have HI := hid_mk (And.intro hnf (And.intro hf hcm))
          have HIn : Hid (∀ u ∈ s.U (bt x0), u.2 < n) := hid_mk (fun u hu => by have := hin u hu; omega)
          have HUn := hid_mk (hU (bt x0))
          have HN2 := hid_mk hn
          rw [hn] at hcell
          have HCe := hid_mk hcell
          have hn6 : n ≤ 1000000 := by rw [← hn]; exact hcl f (List.mem_of_getElem? hf)
          have HN6 := hid_mk hn6
          clear h ho hU hfl hcl hm hnm hL hf hcm c2 hne hxs hlen hn hnf hin
          go_enter Tryz.func97, Tryz.ntmps97
          go_wp2_with (first | (go_at_call 123; refine HF.out.mono ?_; rintro e w2 ⟨rfl, o2⟩; have c4' := o2.cell c4 (.inr (Nat.zero_le _)); have hlk := HLk.out _ o2) | (go_at_call 124; refine (HN.out _).mono ?_; rintro e w3 ⟨rfl, o3⟩) | (go_at_call 104; refine calls_same (awant_yes _) ?_))
          have o4 := (o2.trans o3).drew
          have c4'' := o4.cell c4 (.inr (Nat.zero_le _))
          have cq := o4.cell hcell (.inr (Nat.zero_le _))
          have HO4 := hid_mk o4
          clear c4 c4' hlk hcell o2 o3 o4 hn6
          refine wp_region_T (S := fun w' => w'.cell? ⟨p, 4, none⟩ = some (.map (some bl)) ∧ w'.cell? ⟨q, m * 4 + 3, none⟩ = some (.slice ca n cc)) (z := 10) (by kernel_rfl) ?hS1 (fun hHeld => ?rest1)
          case hS1 => exact ⟨c4'', cq⟩
          refine tkT 0 ?_
          refine tkT 1 ?_
          refine tkT 2 ?_
          refine tkT 3 ?_
          refine tkT 4 ?_
          refine tkT 5 ?_
          refine tkT 6 ?_
          refine tkT 7 ?_
          refine tkT 8 ?_
          refine tkT 9 ?_
          refine wpAnyT_last (by kernel_rfl) rfl (fun KK hK => ?_)
          simp only [xa, xb, xc]
          obtain ⟨Y, hY, hAY, hfY⟩ := lab_put (HO.out.out HO4.out) x0 (n : Int)
          go_simp
          (try rw [hY])
          go_simp
          refine hK.out _ _ ?_
          clear hK KK
          (try simp only [Act.put, xa, xb, xc, xd, xe, xf])
          refine wpAnyT_done (by kernel_rfl) ?_ _
          obtain ⟨ua, uc, hlu, hru⟩ := use_row hAY.2.2.2.2.2.2.2.2 x0
          replace hlu : (Instr.lookup 75 (.map (some bu)) (.string x0) false).run Tryz.prog Y = .ok (.slice ua (s.U (bt x0)).length uc) Y := hlu
          have c5 : Y.cell? ⟨p, 5, none⟩ = some (.map (some bu)) := hAY.2.1.cell rfl
          have HAY := hid_mk (And.intro hAY ((Fr.quiet HO4.out).trans hfY))
          have HRu : Hid (Y.ownsRow (p + 1) 118 2 (.slice ua (s.U (bt x0)).length uc) (s.U (bt x0)).length (ucl (s.U (bt x0)))) := hid_mk hru
          obtain ⟨us, hus⟩ : ∃ us, s.U (bt x0) = us := ⟨_, rfl⟩
          rw [hus] at HRu hlu HIn HUn Hs
          have HUs := hid_mk hus
          clear hAY hfY hru cq hus hY
          go_wp2_with fail
          clear hlu c5
          go_loopw [51] (fun v wr => ∃ i : Nat, v = .int .i64 (i : Int) ∧ i ≤ us.length ∧ AO wr p bl bu ta tc (some ⟨q, 0, none⟩) fc nt nf vs cs { s with L := updL s.L (bt x0) n, fs := ptc n (us.take i) s.fs } ∧ Fr p bl bu w wr ∧ wr.ownsRow (p + 1) 118 2 (.slice ua us.length uc) us.length (ucl us)) (fun v _ => us.length - (intOf v).toNat)
          case atStart => exact ⟨0, rfl, Nat.zero_le _, HAY.out.1, HAY.out.2, HRu.out⟩
          case round =>
            obtain ⟨i, rfl, hi, hA, hfr, hru⟩ := hrel
            have HA := hid_mk hA
            have HFr := hid_mk hfr
            have HR := hid_mk hru
            by_cases hlt : i < us.length
            · have hd : decide ((i : Int) < (us.length : Int)) = true := decide_eq_true (by omega)
              have hi1 : (i : Int) < (us.length : Int) := by omega
              have hi0 : (0 : Int) ≤ (i : Int) := by omega
              obtain ⟨ub, cur, rfl, _, hcs, hbu, _⟩ := own_cellsX hru (by omega)
              obtain ⟨u, hu⟩ : ∃ u, us[i]? = some u := ⟨_, List.getElem?_eq_getElem hlt⟩
              have d0 := hcs _ _ (ucl_at hu).1
              have d1 := hcs _ _ (ucl_at hu).2
              have Hu := hid_mk hu
              have HL := hid_mk hlt
              clear hA hfr hru hcs hbu hu hlt hi
              go_wp2_with fail
              have o7 : Out 0 0 wr (wr.alloc (.cells #[.int .i64 (u.1 : Int), .int .i64 (u.2 : Int)] 118)).drew := ((Out.refl 0 0 wr).alloc _).drew
              obtain ⟨hpl, f', hf', _, _, _, hfl'⟩ := ptc_at HI.out.2.1 (by have := HO.out.1.2.2.2.2; have := HI.out.1; omega) (n : Int) (us.take i)
              have hlen' : f'.2.2.2.length = n := by rw [hfl', HN2.out]
              have hcm' : cs[m]? = some (.slice ca f'.2.2.2.length cc) := by rw [hfl']; exact HI.out.2.2
              have hu2 : u.2 < n := HIn.out u (List.mem_of_getElem? Hu.out)
              obtain ⟨g, rfl, ⟨curg, hbg⟩, ⟨o, hco⟩, hAP, hFP, hKU⟩ := patch_put (HA.out.out o7) HI.out.1 hf' hcm' u.2 (by rw [hlen']; exact hu2) n
              have cq : wr.cell? ⟨q, m * 4 + 3, none⟩ = some (.slice (some ⟨g, 0, none⟩) n cc) := by
                have := row_at (fcl_at hf' hcm').2.2.2 HA.out.2.2.2.2.2.1
                rw [hlen'] at this
                exact this
              have cq' := o7.cell cq (.inr (Nat.zero_le _))
              have e1 : (wr.alloc (.cells #[.int .i64 (u.1 : Int), .int .i64 (u.2 : Int)] 118)).drew.cell? ⟨wr.heap.size, 1, none⟩ = some (.int .i64 (u.2 : Int)) := (Bl.new wr #[.int .i64 (u.1 : Int), .int .i64 (u.2 : Int)] 118).cell (i := 1) rfl
              have hu3 : (u.2 : Int) < (n : Int) := by omega
              have hu4 : (0 : Int) ≤ (u.2 : Int) := by omega
              have HP := hid_mk (And.intro hAP hFP)
              have HO7 := hid_mk o7
              have HBg := hid_mk hbg
              clear hpl hf' hfl' hlen' hcm' hu2 hAP hFP hKU cq d0 d1 o7 hd
              refine wp_region_T (S := fun w' => w'.cell? ⟨q, m * 4 + 3, none⟩ = some (.slice (some ⟨g, 0, none⟩) n cc) ∧ w'.cell? ⟨wr.heap.size, 1, none⟩ = some (.int .i64 (u.2 : Int))) (z := 13) (by kernel_rfl) ?hS12 (fun hHeld => ?rest12)
              case hS12 => exact ⟨cq', e1⟩
              refine tkT 0 ?_
              refine tkT 1 ?_
              refine tkT 2 ?_
              refine tkT 3 ?_
              refine tkT 4 ?_
              refine tkT 5 ?_
              refine tkT 6 ?_
              refine tkT 7 ?_
              refine tkT 8 ?_
              refine tkT 9 ?_
              refine tkT 10 ?_
              refine wpAnyT_one (i := 11) (by kernel_rfl) rfl (fun KK hK => ?_)
              simp only [xa, xb, xc]
              go_simp
              refine hK.out _ _ ?hS24 (fun hHeld2 => ?rest24)
              case hS24 => exact hHeld
              clear hK KK
              (try clear hHeld)
              have hHeld := hHeld2
              clear hHeld2
              (try simp only [Act.put, xa, xb, xc, xd, xe, xf])
              refine tkT 12 ?_
              refine wpAnyT_last (by kernel_rfl) rfl (fun KK hK => ?_)
              simp only [xa, xb, xc]
              have z9 := HBg.out.frozen (u.2 * 2 + 1)
              go_simp
              refine hK.out _ _ ?_
              clear hK KK
              (try simp only [Act.put, xa, xb, xc, xd, xe, xf])
              refine wpAnyT_done (by kernel_rfl) ?_ _
              clear cq' e1 hco
              have hun : us.length ≤ 1000000 := HUn.out
              go_wp2_with fail
              go_roundw
              case rel =>
                refine ⟨i + 1, ?_, HL.out, ?_, (HFr.out.then HO7.out).trans HP.out.2, ?_⟩
                · exact congrArg (Value.int .i64) (by omega)
                · have := HP.out.1
                  rw [List.take_add_one, Hu.out]
                  simp only [Option.toList_some, ptc_snoc]
                  exact this
                · have HR' := own_fx HR.out (Fx.of_out (S := fun _ => False) HO7.out) (fun _ _ q => q)
                  refine own_fx HR' (Fx.set (S := fun k => k = g) (Fx.refl _ _) (p := ⟨g, u.2 * 2 + 1, none⟩) (.inl rfl) _) (fun k hk e => ?_)
                  obtain ⟨c3, h3⟩ := own_bl HR' hk
                  have e' : k = g := e
                  subst e'
                  have := h3.symm.trans HBg.out
                  cases this
              case measure => have := HL.out; simp [intOf]; omega
            · have hd : decide (i < us.length) = false := decide_eq_false hlt
              have hii : i = us.length := by omega
              have HE := hid_mk hii
              obtain ⟨Y2, hY2, hA2, hf2⟩ := use_del hA x0 0
              have c5 : wr.cell? ⟨p, 5, none⟩ = some (.map (some bu)) := hA.2.1.cell rfl
              clear hA hfr hru hlt hi hii
              go_wp2_with fail
              refine bodyPost_end (results_none Tryz.results97 _ _ _) rfl ⟨HFr.out.trans hf2, .inl ⟨_, Hs.out, rfl, ?_⟩⟩
              have := hA2.al
              rw [HE.out, List.take_of_length_le (Nat.le_refl _)] at this
              exact this
        | some k =>
          rw [hL] at HLk
          have Hs : Hid (markG s (bt x0) (xs.map bt) = none) := hid_mk (by unfold markG; rw [if_pos (.inr (.inr (.inr (by rw [hL]; simp))))])
          clear h ho hU hfl hcl hm hnm hL hf hcm hcell c2 hne hnf hin hm0
          go_enter Tryz.func97, Tryz.ntmps97
          go_wp2_with (first | (go_at_call 123; refine HF.out.mono ?_; rintro e w2 ⟨rfl, o2⟩; have c4' := o2.cell c4 (.inr (Nat.zero_le _)); have hlk := HLk.out _ o2) | (go_at_call 124; refine (HN.out _).mono ?_; rintro e w3 ⟨rfl, o3⟩) | (go_at_call 104; refine calls_stop (awant_no _) ?_))
          exact ⟨rfl, Fr.quiet (o2.trans o3), .inr ⟨Hs.out, rfl, no.out.out (o2.trans o3)⟩⟩
      · rw [Bool.eq_false_iff.2 hnm] at HN
        have m1 : ((m0 : Int) == 0) = true := by rw [hm0]; rfl
        have Hs : Hid (markG s (bt x0) (xs.map bt) = none) := hid_mk (by unfold markG; rw [if_pos (.inr (.inr (.inl (Bool.eq_false_iff.2 hnm))))])
        clear h ho hU hfl hcl hm hnm hf hcm hcell c2 hne hnf hin hm0
        go_enter Tryz.func97, Tryz.ntmps97
        go_wp2_with (first | (go_at_call 123; refine HF.out.mono ?_; rintro e w2 ⟨rfl, o2⟩; have c4' := o2.cell c4 (.inr (Nat.zero_le _)); have hlk := HLk.out _ o2) | (go_at_call 124; refine (HN.out _).mono ?_; rintro e w3 ⟨rfl, o3⟩) | (go_at_call 104; refine calls_stop (awant_no _) ?_))
        exact ⟨rfl, Fr.quiet (o2.trans o3), .inr ⟨Hs.out, rfl, no.out.out (o2.trans o3)⟩⟩
    · have m1 : ((m0 : Int) == 0) = false := by simp only [beq_eq_false_iff_ne, ne_eq]; omega
      have Hs : Hid (markG s (bt x0) (xs.map bt) = none) := hid_mk (by
        unfold markG; rw [if_pos (.inr (.inl (by intro e; have := List.map_eq_nil_iff.1 e; rw [this] at hm; exact hm0 hm.symm)))])
      clear h ho hU hfl hcl hm hf hcm hcell c2 hne hnf hin hm0
      go_enter Tryz.func97, Tryz.ntmps97
      go_wp2_with (first | (go_at_call 123; refine HF.out.mono ?_; rintro e w2 ⟨rfl, o2⟩; have c4' := o2.cell c4 (.inr (Nat.zero_le _)); have hlk := HLk.out _ o2) | (go_at_call 124; refine (HN.out _).mono ?_; rintro e w3 ⟨rfl, o3⟩) | (go_at_call 104; refine calls_stop (awant_no _) ?_))
      exact ⟨rfl, Fr.quiet o2, .inr ⟨Hs.out, rfl, no.out.out o2⟩⟩
end
end Go.Proofs.YtcnjlbjpeklgkaaGreatDoor
namespace Go.Proofs.YtcnjlbjpeklgkaaGreatDoor
open Go.RowKit Go.MapKept
set_option linter.unusedVariables false
set_option linter.unusedSimpArgs false

theorem bt_list (s : ByteArray) (l : List UInt8) : (s.toList == l) = decide (bt s = l.map (fun c => (c.toNat : Int))) := by
  have := bt_eqb s ⟨l.toArray⟩
  rw [show (⟨l.toArray⟩ : ByteArray).toList = l by rw [ByteArray.toList_eq]] at this
  rw [this]
  rfl
/-- the words of a line: what they do (none: the line is none) -/
def Say (s : Low) (l : List (List Int)) (o : Option Low) : Prop := match l with
  | [] => o = some s
  | w :: r => if w.getLast? = some 58 then o = markG s w.dropLast r
    else if w = byS "globals" then (match numsF r 1 with
      | some [n] => if s.hg = false ∧ s.tx = [] ∧ s.fs = [] then o = some { s with gl := n, hg := true } else o = none
      | _ => o = none)
    else if w = byS "func" then (match numsF r 3 with
      | some [n1, n2, n3] => ∃ b, LeastU b s.bad s.U ∧ o = some { s with L := fun _ => none, U := fun _ => [], bad := b, fs := s.fs ++ [(n1, n2, n3, [])] }
      | _ => o = none)
    else if w = byS "text" ∧ s.fs = [] then (match r with
      | [t] => o = (quoF t 34).map (fun b => { s with tx := s.tx ++ [b] })
      | _ => o = none)
    else o = insG s w r
/-- what an assembler may hold -/
def Lim (s : Low) : Prop := s.tx.length ≤ 1000000 ∧ s.fs.length ≤ 1000000 ∧ (∀ f ∈ s.fs, f.2.2.2.length ≤ 1000000) ∧ (∀ t, (s.U t).length ≤ 1000000) ∧ (∀ t u, u ∈ s.U t → u.1 ≠ 0 ∧ u.2 < lenI s.fs)
section
variable {p bl bu : Nat} {w w' w2 : World} {s : Low} {ta fa : Option Addr} {tc fc nt nf : Nat} {vs cs : List Value}
/-- the words behind the first -/
theorem st_tail {g off : Nat} {x0 : ByteArray} {xs : List ByteArray} (hcs : ∀ (j : Nat) x, (x0 :: xs)[j]? = some x → w.cell? ⟨g, off + j, none⟩ = some (.string x)) (hb : ∃ cur, Bl w g cur 9) : StAt w (some ⟨g, off + 1, none⟩) xs :=
  .inr ⟨g, off + 1, rfl, fun j x hj => by
    have := hcs (j + 1) x (by simpa using hj)
    rw [show off + (j + 1) = off + 1 + j by omega] at this
    exact this, hb⟩
set_option maxRecDepth 100000 in
set_option maxHeartbeats 4000000 in
theorem say_any (h : AL w p bl bu s) (xs : List ByteArray) (a : Option Addr) (m c : Nat) (hm : xs.length = m) (hm2 : m ≤ 1800000) (hc : m ≤ c) (hx : StAt w a xs) (hwd : ∀ x ∈ xs, WdOk (bt x) ∧ x.size ≤ 1800000) (hch : ∀ x ∈ xs, ChOk x) (hG : Gm w) (hT : Nt w) (hl : Lim s) :
    Calls Tryz.prog 64 #[.pointer (some ⟨p, 0, none⟩), .slice a m c] w fun e w' => Fr p bl bu w w' ∧ ((∃ s', Say s (xs.map bt) (some s') ∧ e = .returned (.tuple #[]) ∧ AL w' p bl bu s') ∨ (Say s (xs.map bt) none ∧ e = .panicked [giveUp] ∧ AL w' p bl bu s)) := by
  have no := hid_mk h
  match xs, hm with
  | [], hm =>
    subst hm
    clear h hx hwd hch
    go_enter Tryz.func64, Tryz.ntmps64
    go_wp2
    exact bodyPost_ret (results_none Tryz.results64 _ _ _) rfl ⟨Fr.refl _ _ _ _, .inl ⟨s, rfl, rfl, no.out⟩⟩
  | x0 :: xs, hm =>
    obtain ⟨k, rfl⟩ : ∃ k, m = k + 1 := ⟨xs.length, by rw [← hm]; rfl⟩
    obtain ⟨g, off, rfl, hcs, hbl⟩ : ∃ g off, a = some ⟨g, off, none⟩ ∧ (∀ (j : Nat) x, (x0 :: xs)[j]? = some x → w.cell? ⟨g, off + j, none⟩ = some (.string x)) ∧ ∃ cur, Bl w g cur 9 := by
      rcases hx with h | h
      · cases h
      · exact h
    have q0 : w.cell? ⟨g, off, none⟩ = some (.string x0) := hcs 0 x0 rfl
    have hm1 : (((k + 1 : Nat) : Int) == 0) = false := by simp only [beq_eq_false_iff_ne, ne_eq]; omega
    have o1 : Out 0 0 w w.drew := (Out.refl 0 0 w).drew
    have h1k : (1 : Int) ≤ (k : Int) + 1 := by omega
    obtain ⟨a2, ha2⟩ : ∃ a2, (if c = 1 then some (⟨g, off, none⟩ : Addr) else some ⟨g, off + 1, none⟩) = a2 := ⟨_, rfl⟩
    have hst : StAt w.drew a2 xs := by
      by_cases hc1 : c = 1
      · exact .inl (List.eq_nil_of_length_eq_zero (by simp at hm; omega))
      · rw [← ha2, if_neg hc1]; exact (st_tail hcs hbl).out o1
    have HK : Hid (xs.length = k) := hid_mk (by simpa using hm)
    have HL := hid_mk hl
    obtain ⟨hw0, hs0⟩ := hwd x0 (by simp)
    obtain ⟨r, b, hcut, hcb⟩ := cuts_dec x0 ⟨#[58]⟩ (by omega)
    rcases hcb with ⟨rfl, hb⟩ | ⟨rfl, hrr, hb⟩
    · have HC := hid_mk hcut
      have hlast : (bt x0).getLast? = some 58 := by rw [hb]; simp [bt]
      have hdrop : (bt x0).dropLast = bt r := by rw [hb]; simp [bt]
      have HS : Hid (∀ o, Say s ((x0 :: xs).map bt) o ↔ o = markG s (bt r) (xs.map bt)) := hid_mk (fun o => by
        simp only [List.map_cons, Say]
        rw [if_pos hlast, hdrop])
      have HM := hid_mk (label_any (h.out o1) r xs a2 k (c - 1) (by simpa using hm) hl.2.2.2.1 hl.2.1 hl.2.2.1 (fun u hu => (hl.2.2.2.2 _ u hu).2))
      clear h hx hwd hch hcs hbl hst hl hw0 hs0 hcut hb hlast hdrop hm
      go_enter Tryz.func64, Tryz.ntmps64
      go_wp2_with fail
      refine wp_region_held_drew (S := fun w' => w'.cell? ⟨g, off, none⟩ = some (.string x0)) (by kernel_rfl) ?hS1 (fun hHeld => ?rest1)
      case hS1 => exact q0
      refine tk 0 ?_
      refine tk 1 ?_
      refine tk 2 ?_
      refine tk 3 ?_
      refine tk 4 ?_
      refine tk 5 ?_
      refine tk 6 ?_
      refine wpAnyH_done (by kernel_rfl) ?_ _
      go_wp2_with (go_at_call 96; refine (HC.out _).mono ?_; rintro e w2 ⟨rfl, rfl⟩)
      refine HM.out.mono ?_
      rintro e w3 ⟨hfr, ⟨s', hs', rfl, ha⟩ | ⟨hs', rfl, ha⟩⟩
      · go_wp2_with fail
        exact bodyPost_end (results_none Tryz.results64 _ _ _) rfl ⟨(Fr.quiet o1).trans hfr, .inl ⟨s', (HS.out _).2 hs'.symm, rfl, ha⟩⟩
      · exact ⟨rfl, (Fr.quiet o1).trans hfr, .inr ⟨(HS.out _).2 hs'.symm, rfl, ha⟩⟩
    · rw [hrr] at hcut
      have HC := hid_mk hcut
      clear hrr
      have hlast : (bt x0).getLast? ≠ some 58 := by
        intro q
        have h1 : bt x0 ≠ [] := hw0.1
        obtain ⟨t, ht⟩ : ∃ t, bt x0 = t ++ [58] := by
          refine ⟨(bt x0).dropLast, ?_⟩
          have := List.dropLast_concat_getLast h1
          rw [List.getLast?_eq_some_getLast h1] at q
          have q2 : (bt x0).getLast h1 = 58 := Option.some.inj q
          rw [q2] at this
          exact this.symm
        exact hb t (by rw [ht]; rfl)
      have g1 : (x0.toList == [103, 108, 111, 98, 97, 108, 115]) = decide (bt x0 = byS "globals") := by
        rw [bt_list]; congr 1
      have g2 : (x0.toList == [102, 117, 110, 99]) = decide (bt x0 = byS "func") := by
        rw [bt_list]; congr 1
      have g3 : (x0.toList == [116, 101, 120, 116]) = decide (bt x0 = byS "text") := by
        rw [bt_list]; congr 1
      by_cases h1 : bt x0 = byS "globals"
      · rw [decide_eq_true h1] at g1
        have HS : Hid (∀ o, Say s ((x0 :: xs).map bt) o ↔ (match numsF (xs.map bt) 1 with
          | some [n] => if s.hg = false ∧ s.tx = [] ∧ s.fs = [] then o = some { s with gl := n, hg := true } else o = none
          | _ => o = none)) := hid_mk (fun o => by
          simp only [List.map_cons, Say]
          rw [if_neg hlast, if_pos h1])
        have HM := hid_mk (glob_any (h.out o1) xs a2 k (c - 1) (by simpa using hm) (by omega) hst)
        clear h hx hwd hch hcs hbl hst hl hw0 hs0 hcut hb hlast hm g2 g3 h1
        go_enter Tryz.func64, Tryz.ntmps64
        go_wp2_with fail
        refine wp_region_held_drew (S := fun w' => w'.cell? ⟨g, off, none⟩ = some (.string x0)) (by kernel_rfl) ?hS9 (fun hHeld => ?rest9)
        case hS9 => exact q0
        refine tk 0 ?_
        refine tk 1 ?_
        refine tk 2 ?_
        refine tk 3 ?_
        refine tk 4 ?_
        refine tk 5 ?_
        refine tk 6 ?_
        refine wpAnyH_done (by kernel_rfl) ?_ _
        go_wp2_with (first | (go_at_call 96; refine (HC.out _).mono ?_; rintro e w2 ⟨rfl, rfl⟩))
        refine HM.out.mono ?_
        rintro e w3 ⟨hfr, ⟨n, hs1, hs2, rfl, ha⟩ | ⟨hs', rfl, ha⟩⟩
        · go_wp2_with fail
          exact bodyPost_end (results_none Tryz.results64 _ _ _) rfl ⟨(Fr.quiet o1).trans hfr, .inl ⟨_, (HS.out _).2 (by rw [hs2]; simp only; rw [if_pos hs1]; trivial), rfl, ha⟩⟩
        · exact ⟨rfl, (Fr.quiet o1).trans hfr, .inr ⟨(HS.out _).2 (by
            rcases hs' with hs' | hs'
            · split
              · rw [if_neg hs']
              · rfl
            · rw [hs']), rfl, ha⟩⟩
      · rw [decide_eq_false h1] at g1
        by_cases h2 : bt x0 = byS "func"
        · rw [decide_eq_true h2] at g2
          have HS : Hid (∀ o, Say s ((x0 :: xs).map bt) o ↔ (match numsF (xs.map bt) 3 with
            | some [n1, n2, n3] => ∃ b, LeastU b s.bad s.U ∧ o = some { s with L := fun _ => none, U := fun _ => [], bad := b, fs := s.fs ++ [(n1, n2, n3, [])] }
            | _ => o = none)) := hid_mk (fun o => by
            simp only [List.map_cons, Say]
            rw [if_neg hlast, if_neg h1, if_pos h2])
          have HM := hid_mk (newf_any (h.out o1) xs a2 k (c - 1) (by simpa using hm) (by omega) hst (fun t x hx => (hl.2.2.2.2 _ _ hx).1) (fun t => hl.2.2.2.1 _) hl.2.1)
          clear h hx hwd hch hcs hbl hst hl hw0 hs0 hcut hb hlast hm g3 h1 h2
          go_enter Tryz.func64, Tryz.ntmps64
          go_wp2_with fail
          refine wp_region_held_drew (S := fun w' => w'.cell? ⟨g, off, none⟩ = some (.string x0)) (by kernel_rfl) ?hS17 (fun hHeld => ?rest17)
          case hS17 => exact q0
          refine tk 0 ?_
          refine tk 1 ?_
          refine tk 2 ?_
          refine tk 3 ?_
          refine tk 4 ?_
          refine tk 5 ?_
          refine tk 6 ?_
          refine wpAnyH_done (by kernel_rfl) ?_ _
          go_wp2_with (first | (go_at_call 96; refine (HC.out _).mono ?_; rintro e w2 ⟨rfl, rfl⟩))
          refine HM.out.mono ?_
          rintro e w3 ⟨hfr, ⟨n1, n2, n3, b, hs1, hs2, rfl, ha⟩ | ⟨hs', rfl, ha⟩⟩
          · go_wp2_with fail
            exact bodyPost_end (results_none Tryz.results64 _ _ _) rfl ⟨(Fr.quiet o1).trans hfr, .inl ⟨_, (HS.out _).2 (by rw [hs1]; exact ⟨b, hs2, rfl⟩), rfl, ha⟩⟩
          · exact ⟨rfl, (Fr.quiet o1).trans hfr, .inr ⟨(HS.out _).2 (by rw [hs']), rfl, ha⟩⟩
        · rw [decide_eq_false h2] at g2
          have HInf := hid_mk (inf_any (h.out o1))
          by_cases h3 : bt x0 = byS "text"
          · rw [decide_eq_true h3] at g3
            by_cases h4 : s.fs = []
            · rw [show decide (s.fs ≠ []) = false by simp [h4]] at HInf
              have HS : Hid (∀ o, Say s ((x0 :: xs).map bt) o ↔ (match xs.map bt with
                | [t] => o = (quoF t 34).map (fun b => { s with tx := s.tx ++ [b] })
                | _ => o = none)) := hid_mk (fun o => by
                simp only [List.map_cons, Say]
                rw [if_neg hlast, if_neg h1, if_neg h2, if_pos ⟨h3, h4⟩])
              have HM := hid_mk (text_any (h.out o1) xs a2 k (c - 1) (by simpa using hm) hst (fun x hx => hwd x (by simp [hx])) hl.1 (hG.out o1))
              clear h hx hwd hch hcs hbl hst hl hw0 hs0 hcut hb hlast hm h1 h2 h3 h4
              go_enter Tryz.func64, Tryz.ntmps64
              go_wp2_with fail
              refine wp_region_held_drew (S := fun w' => w'.cell? ⟨g, off, none⟩ = some (.string x0)) (by kernel_rfl) ?hS25 (fun hHeld => ?rest25)
              case hS25 => exact q0
              refine tk 0 ?_
              refine tk 1 ?_
              refine tk 2 ?_
              refine tk 3 ?_
              refine tk 4 ?_
              refine tk 5 ?_
              refine tk 6 ?_
              refine wpAnyH_done (by kernel_rfl) ?_ _
              go_wp2_with (first | (go_at_call 96; refine (HC.out _).mono ?_; rintro e w2 ⟨rfl, rfl⟩) | (go_at_call 100; refine HInf.out.mono ?_; rintro e w2 ⟨rfl, rfl⟩))
              refine HM.out.mono ?_
              rintro e w3 ⟨hfr, ⟨x1, b, rfl, hs2, rfl, ha⟩ | ⟨hs', rfl, ha⟩⟩
              · go_wp2_with fail
                exact bodyPost_end (results_none Tryz.results64 _ _ _) rfl ⟨(Fr.quiet o1).trans hfr, .inl ⟨_, (HS.out _).2 (by simp only [List.map_cons, List.map_nil, hs2]; rfl), rfl, ha⟩⟩
              · exact ⟨rfl, (Fr.quiet o1).trans hfr, .inr ⟨(HS.out _).2 (by
                  match xs, hs' with
                  | [], _ => rfl
                  | [x1], hs' => simp only [List.map_cons, List.map_nil, hs' x1 rfl]; rfl
                  | _ :: _ :: _, _ => rfl), rfl, ha⟩⟩
            · rw [show decide (s.fs ≠ []) = true by simp [h4]] at HInf
              have HS : Hid (∀ o, Say s ((x0 :: xs).map bt) o ↔ o = insG s (bt x0) (xs.map bt)) := hid_mk (fun o => by
                simp only [List.map_cons, Say]
                rw [if_neg hlast, if_neg h1, if_neg h2, if_neg (fun q => h4 q.2)])
              have HM := hid_mk (insn_any (h.out o1) x0 hw0.1 xs a2 k (c - 1) (by simpa using hm) hst (fun x hx => hch x (by simp [hx])) (hG.out o1) (hT.out o1) hl.2.2.2.1 hl.2.1 hl.2.2.1)
              clear h hx hwd hch hcs hbl hst hl hw0 hs0 hcut hb hlast hm h1 h2 h3 h4
              go_enter Tryz.func64, Tryz.ntmps64
              go_wp2_with fail
              refine wp_region_held_drew (S := fun w' => w'.cell? ⟨g, off, none⟩ = some (.string x0)) (by kernel_rfl) ?hS33 (fun hHeld => ?rest33)
              case hS33 => exact q0
              refine tk 0 ?_
              refine tk 1 ?_
              refine tk 2 ?_
              refine tk 3 ?_
              refine tk 4 ?_
              refine tk 5 ?_
              refine tk 6 ?_
              refine wpAnyH_done (by kernel_rfl) ?_ _
              go_wp2_with (first | (go_at_call 96; refine (HC.out _).mono ?_; rintro e w2 ⟨rfl, rfl⟩) | (go_at_call 100; refine HInf.out.mono ?_; rintro e w2 ⟨rfl, rfl⟩))
              refine HM.out.mono ?_
              rintro e w3 ⟨hfr, ⟨s', hs', rfl, ha⟩ | ⟨hs', rfl, ha⟩⟩
              · go_wp2_with fail
                exact bodyPost_end (results_none Tryz.results64 _ _ _) rfl ⟨(Fr.quiet o1).trans hfr, .inl ⟨s', (HS.out _).2 hs'.symm, rfl, ha⟩⟩
              · exact ⟨rfl, (Fr.quiet o1).trans hfr, .inr ⟨(HS.out _).2 hs'.symm, rfl, ha⟩⟩
          · rw [decide_eq_false h3] at g3
            have HS : Hid (∀ o, Say s ((x0 :: xs).map bt) o ↔ o = insG s (bt x0) (xs.map bt)) := hid_mk (fun o => by
              simp only [List.map_cons, Say]
              rw [if_neg hlast, if_neg h1, if_neg h2, if_neg (fun q => h3 q.1)])
            have HM := hid_mk (insn_any (h.out o1) x0 hw0.1 xs a2 k (c - 1) (by simpa using hm) hst (fun x hx => hch x (by simp [hx])) (hG.out o1) (hT.out o1) hl.2.2.2.1 hl.2.1 hl.2.2.1)
            clear h hx hwd hch hcs hbl hst hl hw0 hs0 hcut hb hlast hm h1 h2 h3
            go_enter Tryz.func64, Tryz.ntmps64
            go_wp2_with fail
            refine wp_region_held_drew (S := fun w' => w'.cell? ⟨g, off, none⟩ = some (.string x0)) (by kernel_rfl) ?hS41 (fun hHeld => ?rest41)
            case hS41 => exact q0
            refine tk 0 ?_
            refine tk 1 ?_
            refine tk 2 ?_
            refine tk 3 ?_
            refine tk 4 ?_
            refine tk 5 ?_
            refine tk 6 ?_
            refine wpAnyH_done (by kernel_rfl) ?_ _
            go_wp2_with (first | (go_at_call 96; refine (HC.out _).mono ?_; rintro e w2 ⟨rfl, rfl⟩))
            refine HM.out.mono ?_
            rintro e w3 ⟨hfr, ⟨s', hs', rfl, ha⟩ | ⟨hs', rfl, ha⟩⟩
            · go_wp2_with fail
              exact bodyPost_end (results_none Tryz.results64 _ _ _) rfl ⟨(Fr.quiet o1).trans hfr, .inl ⟨s', (HS.out _).2 hs'.symm, rfl, ha⟩⟩
            · exact ⟨rfl, (Fr.quiet o1).trans hfr, .inr ⟨(HS.out _).2 hs'.symm, rfl, ha⟩⟩
end
end Go.Proofs.YtcnjlbjpeklgkaaGreatDoor
