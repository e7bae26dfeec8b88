import Derived.Test.YtcnjlbjpeklgkaaGreatDoorR18
namespace Go.Proofs.YtcnjlbjpeklgkaaGreatDoor
open Go.RowKit Go.MapKept
set_option linter.unusedVariables false
set_option linter.unusedSimpArgs false

/-- what an instruction's words do -/
def insG (s : Low) (w : List Int) (l : List (List Int)) : Option Low :=
  if opF w = 0 ∨ s.fs = [] then none
  else if howF (opF w) = 0 then (if l = [] then some { s with fs := addI s.fs (opF w, 0) } else none)
  else match l with
    | [t] => match opnF (opF w) t with
      | some (.inl a) => some { s with fs := addI s.fs (opF w, a) }
      | some (.inr nm) => match s.L nm with
        | some k => some { s with fs := addI s.fs (opF w, k) }
        | none => some { s with fs := addI s.fs (opF w, 0), U := addU s.U nm (s.line, lenI s.fs) }
      | none => none
    | _ => none
section
variable {p bl bu : Nat} {w w' w2 : World} {s : Low} {ta fa : Option Addr} {tc fc nt nf : Nat} {vs cs : List Value}
/-- a block of one's own elsewhere is written -/
theorem AO.there (h : AO w' p bl bu ta tc fa fc nt nf vs cs s) {lo : Nat} {fs : List FnF} (h0 : CL w lo [] cs fs) {d : Nat} (hd : w.heap.size ≤ d) {cur : Array Value} (hb : Bl w' d cur 55) (i : Nat) (v : Value) : AO (w'.setCell ⟨d, i, none⟩ v) p bl bu ta tc fa fc nt nf vs cs s := by
  obtain ⟨hA, b1, b2, b3, b4, b5, b6, b7, b8⟩ := h
  have x : Fx (fun k => k = d) w' (w'.setCell ⟨d, i, none⟩ v) := Fx.set (S := fun k => k = d) (Fx.refl _ w') (p := ⟨d, i, none⟩) (.inl rfl) v
  have ty : ∀ {k : Nat} {c2 : Array Value} {E : TypeId}, Bl w' k c2 E → E ≠ 55 → k ≠ d := fun hk hE e => by
    subst e
    have := hk.symm.trans hb
    cases this; exact hE rfl
  have ow : ∀ {B sz n k : Nat} {E : TypeId} {v : Value} {xs : List Value}, w'.ownsRow B E sz v n xs → E ≠ 55 → v.ownBlock = some k → k ≠ d := fun hr hE hk => by
    obtain ⟨c2, h2⟩ := own_bl hr hk
    exact ty h2 hE
  refine ⟨hA, b1.fx x (ty b1 (by decide)), own_fx b2 x fun k hk => ow b2 (by decide) hk, b3.fx x fun j v t k q1 q2 q3 => ?_, b4, own_fx b5 x fun k hk => ow b5 (by decide) hk, b6.fx x fun j v t k q1 q2 q3 => ?_, ?_, b8.fx x ?_ fun k c2 _ h2 => ty h2 (by decide)⟩
  · obtain ⟨_, a, c, rfl, hr⟩ := b3.2 j v t q1 q2
    exact ow hr (by decide) (by rw [← q3]; exact ob_len)
  · have hj : j < fs.length := by rw [← h0.1]; exact (List.getElem?_eq_some_iff.1 q1).1
    have := ((h0.2.1 j v fs[j] q1 (List.getElem?_eq_getElem hj)).ob q3).2
    show k ≠ d
    omega
  · obtain ⟨es, clock, hm, r⟩ := b7
    refine ⟨es, clock, x.heap hm ?_, r⟩
    intro e; subst e
    have := hm.symm.trans hb
    cases this
  · obtain ⟨g, ⟨es, clock, hm, r⟩, r2⟩ := b8
    intro e; subst e
    have := hm.symm.trans hb
    cases this
theorem ops_ret {n : Nat} {op : Int} {t w0 : List Int} {e : Ending} (h : OpS w p bl bu ta tc fa fc nt nf vs cs s n op t e) (h1 : op = opF w0) (h2 : opF w0 ≠ 0) (h3 : s.fs ≠ []) (h4 : howF (opF w0) ≠ 0) (hn : n = lenI s.fs) :
    (e = .panicked [giveUp] ∧ insG s w0 [t] = none ∧ AO w p bl bu ta tc fa fc nt nf vs cs s) ∨ ∃ k s1, e = .returned (.int .i64 k) ∧ AO w p bl bu ta tc fa fc nt nf vs cs s1 ∧ s1.fs = s.fs ∧ insG s w0 [t] = some { s1 with fs := addI s1.fs (opF w0, k) } := by
  subst h1 hn
  have h5 : ¬ (opF w0 = 0 ∨ s.fs = []) := fun q => q.elim h2 h3
  rcases h with ⟨k, hk, rfl, ho⟩ | ⟨hk, rfl, ho⟩ | ⟨hk, ⟨k, hl, rfl, ho⟩ | ⟨hl, rfl, ho⟩⟩
  · exact .inr ⟨k, s, rfl, ho, rfl, by unfold insG; rw [if_neg h5, if_neg h4]; simp only [hk]⟩
  · exact .inl ⟨rfl, by unfold insG; rw [if_neg h5, if_neg h4]; simp only [hk], ho⟩
  · exact .inr ⟨k, s, rfl, ho, rfl, by unfold insG; rw [if_neg h5, if_neg h4]; simp only [hk, hl]⟩
  · exact .inr ⟨0, _, rfl, ho, rfl, by unfold insG; rw [if_neg h5, if_neg h4]; simp only [hk, hl]⟩
set_option maxRecDepth 100000 in
set_option maxHeartbeats 4000000 in
theorem insn_any (h : AL w p bl bu s) (x0 : ByteArray) (hx0 : bt x0 ≠ []) (xs : List ByteArray) (a : Option Addr) (m0 c : Nat) (hm : xs.length = m0) (hx : StAt w a xs) (hch : ∀ x ∈ xs, ChOk x) (hG : Gm w) (hT : Nt w) (hU : ∀ t, (s.U t).length ≤ 1000000) (hfl : s.fs.length ≤ 1000000) (hcl : ∀ f ∈ s.fs, f.2.2.2.length ≤ 1000000) :
    Calls Tryz.prog 102 #[.pointer (some ⟨p, 0, none⟩), .string x0, .slice a m0 c] w fun e w' => Fr p bl bu w w' ∧ ((∃ s', insG s (bt x0) (xs.map bt) = some s' ∧ e = .returned (.tuple #[]) ∧ AL w' p bl bu s') ∨ (insG s (bt x0) (xs.map bt) = none ∧ e = .panicked [giveUp] ∧ AL w' p bl bu s)) := by
  have no := hid_mk h
  obtain ⟨ta, tc, fa, fc, nt, nf, vs, cs, ho⟩ := h.ao
  by_cases hne : s.fs = []
  · have c2 : w.cell? ⟨p, 2, none⟩ = some (.slice fa 0 fc) := by
      have := ho.2.1.cell (i := 2) rfl
      rw [ho.1.2.2.2.2, hne] at this
      exact this
    have HF := hid_mk (fun_no c2)
    have Hn : Hid (insG s (bt x0) (xs.map bt) = none) := hid_mk (by unfold insG; rw [if_pos (.inr hne)])
    clear h ho hx hch hU hfl hcl hne hm
    go_enter Tryz.func102, Tryz.ntmps102
    go_wp2_with (go_at_call 123; refine HF.out.mono ?_; rintro e w2 ⟨rfl, rfl⟩)
    exact ⟨rfl, Fr.refl _ _ _ _, .inr ⟨Hn.out, rfl, no.out⟩⟩
  · obtain ⟨q, m, ca, cc, f, rfl, hnf, hf, hcm, hcell⟩ := ho.last hne
    have c2 : w.cell? ⟨p, 2, none⟩ = some (.slice (some ⟨q, 0, none⟩) nf fc) := ho.2.1.cell rfl
    have HF := hid_mk (fun_at (p := p) (w := w) (q := q) (nf := nf) (m := m) (fc := fc) c2 hnf (by have := ho.1.2.2.2.2; omega))
    have HO := hid_mk ho
    have HOp := hid_mk (fun w => op_any x0 hx0 w)
    have HT := hid_mk hT
    by_cases hop : opF (bt x0) = 0
    · have Hn : Hid (insG s (bt x0) (xs.map bt) = none) := hid_mk (by unfold insG; rw [if_pos (.inl hop)])
      have Ho := hid_mk hop
      clear h ho hx hch hU hfl hcl hne hm hf hcm hcell c2 hop hT
      go_enter Tryz.func102, Tryz.ntmps102
      go_wp2_with (go_at_call 123; refine HF.out.mono ?_; rintro e w2 ⟨rfl, o2⟩)
      go_wp2_with (go_at_call 127; refine (HOp.out _ (HT.out.out o2)).mono ?_; rintro e w3 ⟨rfl, ⟨h1, rfl⟩ | ⟨h1, rfl⟩⟩)
      · exact absurd Ho.out h1
      · exact ⟨rfl, Fr.quiet o2, .inr ⟨Hn.out, rfl, no.out.out o2⟩⟩
    · have Hop := hid_mk hop
      have HN0 := hid_mk hne
      have HCl : Hid (f.2.2.2.length ≤ 1000000 ∧ s.fs.length ≤ 1000000) := hid_mk ⟨hcl f (List.mem_of_getElem? hf), hfl⟩
      have HI := hid_mk (And.intro hnf (And.intro hf hcm))
      have HC0 : Hid (CL w (p + 1) [] cs s.fs) := hid_mk ho.2.2.2.2.2.2.1
      by_cases hw : howF (opF (bt x0)) = 0
      · have w0 : (howF (opF (bt x0)) == 0) = true := by rw [hw]; rfl
        by_cases hm0 : m0 = 0
        · subst hm0
          have m1 : (((0 : Nat) : Int) == 0) = true := rfl
          have Hs : Hid (insG s (bt x0) (xs.map bt) = some { s with fs := addI s.fs (opF (bt x0), 0) }) := hid_mk (by
            have : xs = [] := List.eq_nil_of_length_eq_zero hm
            subst this
            unfold insG; rw [if_neg (by simp [hop, hne]), if_pos hw, if_pos (by rfl)])
          clear h ho hx hch hU hfl hcl hne hm hf hcm c2 hop hT hw hnf
          go_enter Tryz.func102, Tryz.ntmps102
          go_wp2_with (go_at_call 123; refine HF.out.mono ?_; rintro e w2 ⟨rfl, o2⟩)
          go_wp2_with (go_at_call 127; refine (HOp.out _ (HT.out.out o2)).mono ?_; rintro e w3 ⟨rfl, ⟨h1, rfl⟩ | ⟨h1, rfl⟩⟩)
          · go_wp2_with (first | (go_at_call 89; refine (how_any _ _).mono ?_; rintro e w4 ⟨rfl, rfl⟩) | (go_at_call 104; refine calls_same (awant_yes _) ?_))
            have o3 : Out 0 0 w (w3.alloc (.cells #[.int .i64 (opF (bt x0)), .int .i64 0] 55)) := o2.alloc _
            have hbd := Bl.new w3 #[.int .i64 (opF (bt x0)), .int .i64 0] 55
            have hd0 : w.heap.size ≤ w3.heap.size := o2.size
            generalize w3.alloc (.cells #[.int .i64 (opF (bt x0)), .int .i64 0] 55) = WW at *
            generalize w3.heap.size = d at *
            generalize hkk : (0 : Int) = kk at *
            have cq := o3.cell hcell (.inr (Nat.zero_le _))
            have d0 : WW.cell? ⟨d, 0, none⟩ = some (.int .i64 (opF (bt x0))) := hbd.cell rfl
            have d1 : WW.cell? ⟨d, 1, none⟩ = some (.int .i64 kk) := hbd.cell rfl
            have HPut := hid_mk (fun (w1 Z : World) => ins_put (w1 := w1) (Z := Z) (HO.out.out o3) rfl HI.out.1 HI.out.2.1 HI.out.2.2 HCl.out.1 (opF (bt x0)) kk)
            have HBd := hid_mk hbd
            have HDn : Hid ((Value.slice ca f.2.2.2.length cc).ownBlock ≠ some d) := hid_mk (fun q => by have := ((HC0.out.2.1 m _ _ HI.out.2.2 HI.out.2.1).ob q).2; omega)
            have HO3 := hid_mk o3
            clear o2 o3 hbd hcell h1 m1 w0
            refine wp_region_T (S := fun w' => w'.cell? ⟨q, m * 4 + 3, none⟩ = some (.slice ca f.2.2.2.length cc) ∧ w'.cell? ⟨d, 0, none⟩ = some (.int .i64 (opF (bt x0))) ∧ w'.cell? ⟨d, 1, none⟩ = some (.int .i64 kk)) (z := 10) (by kernel_rfl) ?hS1 (fun hHeld => ?rest1)
            case hS1 => exact ⟨cq, d0, d1⟩
            refine tkT 0 ?_
            refine tkT 1 ?_
            refine tkT 2 ?_
            refine tkT 3 ?_
            refine tkT 4 ?_
            refine tkT 5 ?_
            refine wpAnyT_one (i := 6) (by kernel_rfl) rfl (fun KK hK => ?_)
            simp only [xa, xb, xc]
            go_simp
            have o6 := (Out.refl 0 0 WW).drew
            refine hK.out _ _ ?hS8 (fun hHeld2 => ?rest8)
            case hS8 => exact ⟨(o6.alloc _).cell cq (.inr (Nat.zero_le _)), (o6.alloc _).cell d0 (.inr (Nat.zero_le _)), (o6.alloc _).cell d1 (.inr (Nat.zero_le _))⟩
            clear hK KK
            (try clear hHeld)
            have hHeld := hHeld2
            clear hHeld2
            (try simp only [Act.put, xa, xb, xc, xd, xe, xf])
            refine wpAnyT_one (i := 7) (by kernel_rfl) rfl (fun KK hK => ?_)
            simp only [xa, xb, xc]
            obtain ⟨a', c', w7, hrun, ⟨curq, hbq⟩, hc7, hki7, hao7, hfr7⟩ := HPut.out _ _ o6 rfl
            have hd7 := hki7 _ _ HDn.out (HBd.out.kept o6 (.inr (Nat.zero_le _)))
            refine app_stepS _ _ _ _ _ rfl _ _ rfl rfl hrun ?_
            refine hK.out _ _ ?hS9 (fun hHeld2 => ?rest9)
            case hS9 => exact ⟨hc7, hd7.cell rfl, hd7.cell rfl⟩
            clear hK KK
            (try clear hHeld)
            have hHeld := hHeld2
            clear hHeld2
            (try simp only [Act.put, xa, xb, xc, xd, xe, xf])
            refine wpAnyT_one (i := 8) (by kernel_rfl) rfl (fun KK hK => ?_)
            simp only [xa, xb, xc]
            go_simp
            refine hK.out _ _ ?hS10 (fun hHeld2 => ?rest10)
            case hS10 => exact hHeld
            clear hK KK
            (try clear hHeld)
            have hHeld := hHeld2
            clear hHeld2
            (try simp only [Act.put, xa, xb, xc, xd, xe, xf])
            refine tkT 9 ?_
            refine wpAnyT_last (by kernel_rfl) rfl (fun KK hK => ?_)
            simp only [xa, xb, xc]
            have z9 := hbq.frozen (m * 4 + 3)
            go_simp
            refine hK.out _ _ ?_
            clear hK KK
            (try simp only [Act.put, xa, xb, xc, xd, xe, xf])
            refine wpAnyT_done (by kernel_rfl) ?_ _
            exact bodyPost_end (results_none Tryz.results102 _ _ _) rfl ⟨(Fr.quiet HO3.out).trans hfr7, .inl ⟨_, Hs.out, rfl, hao7.al⟩⟩
          · exact absurd h1 Hop.out
        · have m1 : ((m0 : Int) == 0) = false := by simp only [beq_eq_false_iff_ne, ne_eq]; omega
          have Hs : Hid (insG s (bt x0) (xs.map bt) = none) := hid_mk (by
            unfold insG; rw [if_neg (by simp [hop, hne]), if_pos hw, if_neg (by intro e; have := List.map_eq_nil_iff.1 e; rw [this] at hm; exact hm0 hm.symm)])
          clear h ho hx hch hU hfl hcl hne hm hf hcm c2 hop hT hw hnf hm0
          go_enter Tryz.func102, Tryz.ntmps102
          go_wp2_with (go_at_call 123; refine HF.out.mono ?_; rintro e w2 ⟨rfl, o2⟩)
          go_wp2_with (go_at_call 127; refine (HOp.out _ (HT.out.out o2)).mono ?_; rintro e w3 ⟨rfl, ⟨h1, rfl⟩ | ⟨h1, rfl⟩⟩)
          · go_wp2_with (first | (go_at_call 89; refine (how_any _ _).mono ?_; rintro e w4 ⟨rfl, rfl⟩) | (go_at_call 104; refine calls_stop (awant_no _) ?_))
            exact ⟨rfl, Fr.quiet (o2.alloc _), .inr ⟨Hs.out, rfl, no.out.out (o2.alloc _)⟩⟩
          · exact absurd h1 Hop.out
      · have w0 : (howF (opF (bt x0)) == 0) = false := by simp only [beq_eq_false_iff_ne, ne_eq]; exact hw
        by_cases hm0 : m0 = 1
        · subst hm0
          have m1 : (((1 : Nat) : Int) == 1) = true := rfl
          have m2 : decide ((0 : Nat) < 1) = true := rfl
          obtain ⟨x1, rfl⟩ : ∃ x1, xs = [x1] := by
            match xs, hm with
            | [x], _ => exact ⟨x, rfl⟩
            | [], q => simp at q
            | _ :: _ :: _, q => simp at q
          obtain ⟨qa, off, rfl, q0⟩ : ∃ g off, a = some ⟨g, off, none⟩ ∧ w.cell? ⟨g, off, none⟩ = some (.string x1) := by
            rcases hx with h | ⟨g, off, h1, h2, _⟩
            · cases h
            · exact ⟨g, off, h1, h2 0 x1 rfl⟩
          have hlen : lenI s.fs = f.2.2.2.length := by
            unfold lenI
            rw [List.getLast?_eq_getElem?, show s.fs.length - 1 = m by have := ho.1.2.2.2.2; omega, hf]
          have HL := hid_mk hlen
          have HOpd := hid_mk (fun W (o : Out 0 0 w W) => operand_any (HO.out.out o) hne x1 (hch x1 (by simp)) (hG.out o) (hT.out o) (hU _) hfl (lenI s.fs) (fun f' hf' => by rw [hlen]; rw [List.getLast?_eq_getElem?, show s.fs.length - 1 = m by have := ho.1.2.2.2.2; omega, hf] at hf'; cases hf'; rfl) (opF (bt x0)) hw)
          have HW := hid_mk hw
          clear h ho hx hch hU hfl hcl hne hm hf hcm c2 hop hT hw hnf hlen hG
          go_enter Tryz.func102, Tryz.ntmps102
          go_wp2_with (go_at_call 123; refine HF.out.mono ?_; rintro e w2 ⟨rfl, o2⟩)
          go_wp2_with (go_at_call 127; refine (HOp.out _ (HT.out.out o2)).mono ?_; rintro e w3 ⟨rfl, ⟨h1, rfl⟩ | ⟨h1, rfl⟩⟩)
          · have o3 : Out 0 0 w (w3.alloc (.cells #[.int .i64 (opF (bt x0)), .int .i64 0] 55)) := o2.alloc _
            have q0' := o3.cell q0 (.inr (Nat.zero_le _))
            go_wp2_with (first | (go_at_call 89; refine (how_any _ _).mono ?_; rintro e w4 ⟨rfl, rfl⟩) | (go_at_call 104; refine calls_same (awant_yes _) ?_))
            have hbd := Bl.new w3 #[.int .i64 (opF (bt x0)), .int .i64 0] 55
            have hd0 : w.heap.size ≤ w3.heap.size := o2.size
            have HOp5 := HOpd.out _ o3
            generalize w3.alloc (.cells #[.int .i64 (opF (bt x0)), .int .i64 0] 55) = WV at *
            generalize w3.heap.size = d at *
            refine HOp5.mono ?_
            rintro e w5 ⟨⟨hfr, hki⟩, hos⟩
            have hb5 := hki _ _ hbd
            rcases ops_ret hos rfl Hop.out HN0.out HW.out rfl with ⟨rfl, hi, ho⟩ | ⟨kk, s1, rfl, ho, hfs, hi⟩
            · exact ⟨rfl, (Fr.quiet o3).trans hfr, .inr ⟨hi, rfl, ho.al⟩⟩
            · have c1 : w5.cell? ⟨d, 1, none⟩ = some (.int .i64 0) := hb5.cell rfl
              have z1 := hb5.frozen 1
              have HFr : Hid (Fr p bl bu w (w5.setCell ⟨d, 1, none⟩ (.int .i64 kk))) := hid_mk (Fx.set (S := Sx p bl bu w) ((Fr.quiet o3).trans hfr) (p := ⟨d, 1, none⟩) (.inr hd0) _)
              have HAO : Hid (AO (w5.setCell ⟨d, 1, none⟩ (.int .i64 kk)) p bl bu ta tc (some ⟨q, 0, none⟩) fc nt nf vs cs s1) := hid_mk (ho.there HC0.out hd0 hb5 1 (.int .i64 kk))
              have hbd2 := hb5.set 1 (.int .i64 kk)
              have Hi := hid_mk hi
              have HDn : Hid ((Value.slice ca f.2.2.2.length cc).ownBlock ≠ some d) := hid_mk (fun q => by have := ((HC0.out.2.1 m _ _ HI.out.2.2 HI.out.2.1).ob q).2; omega)
              have Hf1 : Hid (s1.fs[m]? = some f) := hid_mk (hfs ▸ HI.out.2.1)
              clear o2 o3 hbd hcell h1 m1 m2 w0 q0 q0' hos hfr hki ho hfs hi HOp5 hb5
              go_wp2_with fail
              clear c1 z1
              generalize w5.setCell ⟨d, 1, none⟩ (.int .i64 kk) = WW at *
              have d0 : WW.cell? ⟨d, 0, none⟩ = some (.int .i64 (opF (bt x0))) := hbd2.cell rfl
              have d1 : WW.cell? ⟨d, 1, none⟩ = some (.int .i64 kk) := hbd2.cell rfl
              have cq : WW.cell? ⟨q, m * 4 + 3, none⟩ = some (.slice ca f.2.2.2.length cc) := row_at (fcl_at Hf1.out HI.out.2.2).2.2.2 HAO.out.2.2.2.2.2.1
              have HPut := hid_mk (fun (w1 Z : World) => ins_put (w1 := w1) (Z := Z) HAO.out rfl HI.out.1 Hf1.out HI.out.2.2 HCl.out.1 (opF (bt x0)) kk)
              have HBd : Hid (Bl WW d #[.int .i64 (opF (bt x0)), .int .i64 kk] 55) := hid_mk hbd2
              clear hbd2
              refine wp_region_T (S := fun w' => w'.cell? ⟨q, m * 4 + 3, none⟩ = some (.slice ca f.2.2.2.length cc) ∧ w'.cell? ⟨d, 0, none⟩ = some (.int .i64 (opF (bt x0))) ∧ w'.cell? ⟨d, 1, none⟩ = some (.int .i64 kk)) (z := 10) (by kernel_rfl) ?hS12 (fun hHeld => ?rest12)
              case hS12 => exact ⟨cq, d0, d1⟩
              refine tkT 0 ?_
              refine tkT 1 ?_
              refine tkT 2 ?_
              refine tkT 3 ?_
              refine tkT 4 ?_
              refine tkT 5 ?_
              refine wpAnyT_one (i := 6) (by kernel_rfl) rfl (fun KK hK => ?_)
              simp only [xa, xb, xc]
              go_simp
              have o6 := (Out.refl 0 0 WW).drew
              refine hK.out _ _ ?hS19 (fun hHeld2 => ?rest19)
              case hS19 => exact ⟨(o6.alloc _).cell cq (.inr (Nat.zero_le _)), (o6.alloc _).cell d0 (.inr (Nat.zero_le _)), (o6.alloc _).cell d1 (.inr (Nat.zero_le _))⟩
              clear hK KK
              (try clear hHeld)
              have hHeld := hHeld2
              clear hHeld2
              (try simp only [Act.put, xa, xb, xc, xd, xe, xf])
              refine wpAnyT_one (i := 7) (by kernel_rfl) rfl (fun KK hK => ?_)
              simp only [xa, xb, xc]
              obtain ⟨a', c', w7, hrun, ⟨curq, hbq⟩, hc7, hki7, hao7, hfr7⟩ := HPut.out _ _ o6 rfl
              have hd7 := hki7 _ _ HDn.out (HBd.out.kept o6 (.inr (Nat.zero_le _)))
              refine app_stepS _ _ _ _ _ rfl _ _ rfl rfl hrun ?_
              refine hK.out _ _ ?hS20 (fun hHeld2 => ?rest20)
              case hS20 => exact ⟨hc7, hd7.cell rfl, hd7.cell rfl⟩
              clear hK KK
              (try clear hHeld)
              have hHeld := hHeld2
              clear hHeld2
              (try simp only [Act.put, xa, xb, xc, xd, xe, xf])
              refine wpAnyT_one (i := 8) (by kernel_rfl) rfl (fun KK hK => ?_)
              simp only [xa, xb, xc]
              go_simp
              refine hK.out _ _ ?hS21 (fun hHeld2 => ?rest21)
              case hS21 => exact hHeld
              clear hK KK
              (try clear hHeld)
              have hHeld := hHeld2
              clear hHeld2
              (try simp only [Act.put, xa, xb, xc, xd, xe, xf])
              refine tkT 9 ?_
              refine wpAnyT_last (by kernel_rfl) rfl (fun KK hK => ?_)
              simp only [xa, xb, xc]
              have z9 := hbq.frozen (m * 4 + 3)
              go_simp
              refine hK.out _ _ ?_
              clear hK KK
              (try simp only [Act.put, xa, xb, xc, xd, xe, xf])
              refine wpAnyT_done (by kernel_rfl) ?_ _
              exact bodyPost_end (results_none Tryz.results102 _ _ _) rfl ⟨HFr.out.trans hfr7, .inl ⟨_, Hi.out, rfl, hao7.al⟩⟩
          · exact absurd h1 Hop.out
        · have m1 : ((m0 : Int) == 1) = false := by simp only [beq_eq_false_iff_ne, ne_eq]; omega
          have Hs : Hid (insG s (bt x0) (xs.map bt) = none) := hid_mk (by
            unfold insG; rw [if_neg (by simp [hop, hne]), if_neg hw]
            match xs, hm with
            | [], _ => rfl
            | [x], q => exact absurd q.symm hm0
            | _ :: _ :: _, _ => rfl)
          clear h ho hx hch hU hfl hcl hne hm hf hcm c2 hop hT hw hnf hm0
          go_enter Tryz.func102, Tryz.ntmps102
          go_wp2_with (go_at_call 123; refine HF.out.mono ?_; rintro e w2 ⟨rfl, o2⟩)
          go_wp2_with (go_at_call 127; refine (HOp.out _ (HT.out.out o2)).mono ?_; rintro e w3 ⟨rfl, ⟨h1, rfl⟩ | ⟨h1, rfl⟩⟩)
          · go_wp2_with (first | (go_at_call 89; refine (how_any _ _).mono ?_; rintro e w4 ⟨rfl, rfl⟩) | (go_at_call 104; refine calls_stop (awant_no _) ?_))
            exact ⟨rfl, Fr.quiet (o2.alloc _), .inr ⟨Hs.out, rfl, no.out.out (o2.alloc _)⟩⟩
          · exact absurd h1 Hop.out
end
end Go.Proofs.YtcnjlbjpeklgkaaGreatDoor
namespace Go.Proofs.YtcnjlbjpeklgkaaGreatDoor
open Go.RowKit Go.MapKept
set_option linter.unusedVariables false
set_option linter.unusedSimpArgs false

theorem setA_set {fs : List FnF} {m : Nat} {f : FnF} (hf : fs[m]? = some f) (hm : fs.length = m + 1) (i : Nat) (v : Int) : setA fs i v = fs.set m (f.1, f.2.1, f.2.2.1, f.2.2.2.modify i (fun x => (x.1, v))) := by
  obtain ⟨fs0, g, rfl⟩ : ∃ fs0 g, fs = fs0 ++ [g] := ⟨fs.dropLast, fs.getLast (by intro e; rw [e] at hm; simp at hm), (List.dropLast_concat_getLast _).symm⟩
  simp at hm
  subst hm
  simp at hf
  subst hf
  rw [set_cons]; simp
theorem icl_mod : ∀ (l : List InF) (i : Nat) (v : Int), icl (l.modify i (fun x => (x.1, v))) = (icl l).set (i * 2 + 1) (.int .i64 v)
  | [], i, v => by cases i <;> rfl
  | x :: l, 0, v => by simp [icl, List.modify_zero_cons]
  | x :: l, i + 1, v => by
    have ih := icl_mod l i v
    simp only [List.modify_succ_cons, icl, List.set_cons_succ, ih, show (i + 1) * 2 + 1 = i * 2 + 1 + 1 + 1 by omega]
theorem set_self {α : Type} {l : List α} {m : Nat} {c : α} (h : l[m]? = some c) : l.set m c = l := by
  obtain ⟨h1, h2⟩ := List.getElem?_eq_some_iff.1 h
  rw [← h2, List.set_getElem_self]
theorem fcl_same {fs : List FnF} {cs : List Value} {m : Nat} {f f' : FnF} {c : Value} (hf : fs[m]? = some f) (hc : cs[m]? = some c) (hl : cs.length = fs.length) (h1 : f'.1 = f.1) (h2 : f'.2.1 = f.2.1) (h3 : f'.2.2.1 = f.2.2.1) : fcl (fs.set m f') cs = fcl fs cs := by
  have h := fcl_set (f' := f') c hf hl h1 h2 h3
  rw [set_self hc] at h
  rw [h]
  exact set_self (fcl_at hf hc).2.2.2
section
variable {p bl bu : Nat} {w w' w2 : World} {s : Low} {ta fa : Option Addr} {tc fc nt nf : Nat} {vs cs : List Value}
/-- jumps to a label stay as they are -/
def KU (w w' : World) : Prop := ∀ (k : Nat) cur, Bl w k cur 118 → Bl w' k cur 118
set_option maxHeartbeats 1000000 in
theorem patch_put (h : AO w p bl bu ta tc fa fc nt nf vs cs s) {m cc : Nat} {ca : Option Addr} {f : FnF} (hnf : nf = m + 1) (hf : s.fs[m]? = some f) (hcm : cs[m]? = some (.slice ca f.2.2.2.length cc)) (i : Nat) (hi : i < f.2.2.2.length) (v : Int) :
    ∃ g, ca = some ⟨g, 0, none⟩ ∧ (∃ cur, Bl w g cur 55) ∧ (∃ o, w.cell? ⟨g, i * 2 + 1, none⟩ = some (.int .i64 o)) ∧ AO (w.setCell ⟨g, i * 2 + 1, none⟩ (.int .i64 v)) p bl bu ta tc fa fc nt nf vs cs { s with fs := setA s.fs i v } ∧ Fr p bl bu w (w.setCell ⟨g, i * 2 + 1, none⟩ (.int .i64 v)) ∧ KU w (w.setCell ⟨g, i * 2 + 1, none⟩ (.int .i64 v)) := by
  obtain ⟨⟨a1, a2, a3, e1, e2⟩, hB, b2, b3, b4, b5, b6, b7, b8⟩ := h
  have hown := b6.2.1 m _ _ hcm hf
  obtain ⟨ca', cc', ee, hown⟩ := hown
  simp only [List.length_nil, Nat.add_zero, List.append_nil] at hown
  cases ee
  obtain ⟨g, cur, rfl, _, hg, hbg, _⟩ := own_cellsX hown (by omega)
  have x : Fx (fun k => (Value.slice (some ⟨g, 0, none⟩) f.2.2.2.length cc).ownBlock = some k) w (w.setCell ⟨g, i * 2 + 1, none⟩ (.int .i64 v)) := Fx.set (S := fun k => (Value.slice (some ⟨g, 0, none⟩) f.2.2.2.length cc).ownBlock = some k) (Fx.refl _ w) (p := ⟨g, i * 2 + 1, none⟩) (.inl rfl) _
  have hmod : ((setA s.fs i v)) = s.fs.set m (f.1, f.2.1, f.2.2.1, f.2.2.2.modify i (fun x => (x.1, v))) := setA_set hf (by omega) i v
  have c6 : CL (w.setCell ⟨g, i * 2 + 1, none⟩ (.int .i64 v)) (p + 1) [] cs (setA s.fs i v) := by
    rw [hmod]
    have := b6.put (f' := (f.1, f.2.1, f.2.2.1, f.2.2.2.modify i (fun x => (x.1, v)))) hcm x (c' := .slice (some ⟨g, 0, none⟩) f.2.2.2.length cc) ⟨some ⟨g, 0, none⟩, cc, by simp, ?_⟩ (.inl rfl)
    · rwa [set_self hcm] at this
    · simp only [List.length_nil, Nat.add_zero, List.append_nil, List.length_modify, icl_mod]
      exact own_put hown _ _
  have hp : ∀ k, (Value.slice (some ⟨g, 0, none⟩) f.2.2.2.length cc).ownBlock = some k → p + 1 ≤ k := fun k hk => (own_ge hown hk).1
  refine ⟨g, rfl, ⟨cur, hbg⟩, ⟨_, hg _ _ (icl_at (List.getElem?_eq_getElem hi)).2⟩, ⟨⟨a1, a2, a3, e1, by show nf = (setA s.fs i v).length; rw [hmod, List.length_set]; exact e2⟩, hB.fx x fun hk => by have := hp _ hk; omega, keepR hown b2 (by decide) x, keepTL hown b3 (by decide) x, b4, ?_, c6, keepMq hown b7 x, keepUs hown b8 (by decide) x⟩, Fr.own hown (by unfold OwnT; simp) x, fun k c2 hk => hk.fx x fun q => ?_⟩
  · show World.ownsRow _ _ _ _ _ _ (fcl (setA s.fs i v) cs)
    rw [hmod, fcl_same (f' := (f.1, f.2.1, f.2.2.1, f.2.2.2.modify i (fun x => (x.1, v)))) hf hcm b6.1 rfl rfl rfl]
    exact keepR hown b5 (by decide) x
  · obtain ⟨c3, h3⟩ := own_bl hown q
    have := h3.symm.trans hk
    cases this
/-- the uses of a label, ahead of its definition -/
theorem use_row (h : UsAt w (p + 1) bu s.U) (name : ByteArray) : ∃ ua uc, (Instr.lookup 75 (.map (some bu)) (.string name) false).run Tryz.prog w = .ok (.slice ua (s.U (bt name)).length uc) w ∧ w.ownsRow (p + 1) 118 2 (.slice ua (s.U (bt name)).length uc) (s.U (bt name)).length (ucl (s.U (bt name))) := by
  obtain ⟨g, k1, k2, k3, k4⟩ := h
  have hl := mq_look (P := Tryz.prog) (w := w) false Tryz.underlying75 Tryz.underlying9 (zero_us w) k1 name
  cases hg : g name with
  | none =>
    rw [hg] at hl
    rw [k3 _ hg]
    exact ⟨none, 0, hl, World.ownsRow_nil _ _ _ 2⟩
  | some v =>
    rw [hg] at hl
    have hr := (k2 _ v hg).2
    rcases hr.2 with ⟨rfl, h0⟩ | ⟨g2, c2, cur2, rfl, _⟩
    · rw [h0] at hr ⊢
      exact ⟨none, 0, hl, hr⟩
    · exact ⟨_, _, hl, hr⟩
/-- a label more -/
def updL (L : List Int → Option Int) (t : List Int) (v : Int) : List Int → Option Int := fun u => if u = t then some v else L u
theorem lab_put (h : AO w p bl bu ta tc fa fc nt nf vs cs s) (name : ByteArray) (v : Int) : ∃ Y, (Instr.mapUpdate 74 (.map (some bl)) (.string name) (.int .i64 v)).run Tryz.prog w = .ok () Y ∧ AO Y p bl bu ta tc fa fc nt nf vs cs { s with L := updL s.L (bt name) v } ∧ Fr p bl bu w Y := by
  obtain ⟨⟨a1, a2, a3, e1, e2⟩, hB, hR⟩ := h
  have hl := hR.2.2.2.2.2.1
  obtain ⟨Y, hrun, hm, o⟩ := mq_put (P := Tryz.prog) Tryz.underlying74 Tryz.underlying9 hl name (.int .i64 v)
  have x : Fx (fun k => k = p ∨ k = bu ∨ k = bl) w Y := ⟨o.1, o.2.1, o.2.2.1, o.size, fun k h1 h2 => o.block h1 (by have : ¬ (k = p ∨ k = bu ∨ k = bl) := h2; omega)⟩
  have x1 : Fx (fun k => k = bl) w Y := ⟨o.1, o.2.1, o.2.2.1, o.size, fun k h1 h2 => o.block h1 (by have : k ≠ bl := h2; omega)⟩
  refine ⟨Y, hrun, ⟨⟨a1, a2, a3, e1, e2⟩, hB.kept o (by omega), hR.maps x rfl rfl (hm.congr fun t => ?_) (hR.2.2.2.2.2.2.fx x1 (by omega) fun k c _ hk e => ?_)⟩, Fr.mapl a1 o⟩
  · show (if t = name then _ else _) = (updL s.L (bt name) v (bt t)).map _
    unfold updL
    by_cases e : t = name
    · rw [if_pos e, if_pos (by rw [e])]; rfl
    · rw [if_neg e, if_neg (fun q => e (bt_inj q))]
  · subst e
    obtain ⟨es, clock, hb, _⟩ := hl
    have := hb.symm.trans hk
    cases this
/-- the uses of a label are forgotten -/
def noU (U : List Int → List (Nat × Nat)) (t : List Int) : List Int → List (Nat × Nat) := fun u => if u = t then [] else U u
theorem use_del (h : AO w p bl bu ta tc fa fc nt nf vs cs s) (name : ByteArray) (ty : TypeId) : ∃ Y, (Builtin.delete_ #[75, 9] ty #[.map (some bu), .string name]).run Tryz.prog w = .ok (.tuple #[]) Y ∧ AO Y p bl bu ta tc fa fc nt nf vs cs { s with U := noU s.U (bt name) } ∧ Fr p bl bu w Y := by
  obtain ⟨⟨a1, a2, a3, e1, e2⟩, hB, hR⟩ := h
  obtain ⟨g, k1, k2, k3, k4⟩ := hR.2.2.2.2.2.2
  obtain ⟨Y, hrun, hm, o⟩ := mq_del (P := Tryz.prog) (ty := ty) Tryz.underlying75 Tryz.underlying9 k1 name
  have x : Fx (fun k => k = p ∨ k = bu ∨ k = bl) w Y := ⟨o.1, o.2.1, o.2.2.1, o.size, fun k h1 h2 => o.block h1 (by have : ¬ (k = p ∨ k = bu ∨ k = bl) := h2; omega)⟩
  have x1 : Fx (fun k => k = bu) w Y := ⟨o.1, o.2.1, o.2.2.1, o.size, fun k h1 h2 => o.block h1 (by have : k ≠ bu := h2; omega)⟩
  refine ⟨Y, hrun, ⟨⟨a1, a2, a3, e1, e2⟩, hB.kept o (by omega), hR.maps x rfl rfl (hR.2.2.2.2.2.1.kept o (by omega)) ⟨_, hm, fun t v ht => ?_, fun t ht => ?_, fun t1 t2 v1 v2 k hne h1 h2 hk => ?_⟩⟩, Fr.mapu a2 o⟩
  · have e : t ≠ name := fun q => by rw [if_pos q] at ht; cases ht
    rw [if_neg e] at ht
    show noU s.U (bt name) (bt t) ≠ [] ∧ Y.ownsRow _ _ _ _ (noU s.U (bt name) (bt t)).length (ucl (noU s.U (bt name) (bt t)))
    have hU : noU s.U (bt name) (bt t) = s.U (bt t) := by unfold noU; rw [if_neg (fun q => e (bt_inj q))]
    rw [hU]
    exact ⟨(k2 t v ht).1, own_fx (k2 t v ht).2 x1 fun k hk => own_mq (k2 t v ht).2 k1 hk⟩
  · show noU s.U (bt name) (bt t) = []
    unfold noU
    by_cases e : t = name
    · rw [if_pos (by rw [e])]
    · rw [if_neg e] at ht
      rw [if_neg (fun q => e (bt_inj q))]
      exact k3 t ht
  · have n1 : t1 ≠ name := fun q => by rw [if_pos q] at h1; cases h1
    have n2 : t2 ≠ name := fun q => by rw [if_pos q] at h2; cases h2
    rw [if_neg n1] at h1; rw [if_neg n2] at h2
    exact k4 t1 t2 v1 v2 k hne h1 h2 hk
end
end Go.Proofs.YtcnjlbjpeklgkaaGreatDoor
