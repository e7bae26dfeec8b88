import Derived.Test.YtcnjlbjpeklgkaaGreatDoorR17
namespace Go.Proofs.YtcnjlbjpeklgkaaGreatDoor
open Go.RowKit Go.MapKept
set_option linter.unusedVariables false
set_option linter.unusedSimpArgs false

/-- an assembler in memory, its parts told -/
def AO (w : World) (p bl bu : Nat) (ta : Option Addr) (tc : Nat) (fa : Option Addr) (fc nt nf : Nat) (vs cs : List Value) (s : Low) : Prop :=
  (bl < p ∧ bu < p ∧ bl ≠ bu ∧ nt = s.tx.length ∧ nf = s.fs.length) ∧ Bl w p (AC bl bu ta tc fa fc nt nf s) 77 ∧ AR w p bl bu ta tc fa fc nt nf vs cs s
section
variable {p bl bu : Nat} {w w' w2 : World} {s : Low} {ta fa : Option Addr} {tc fc nt nf : Nat} {vs cs : List Value}
theorem AO.al (h : AO w p bl bu ta tc fa fc nt nf vs cs s) : AL w p bl bu s :=
  ⟨h.1.1, h.1.2.1, h.1.2.2.1, ta, tc, fa, fc, nt, nf, vs, cs, h.1.2.2.2.1, h.1.2.2.2.2, h.2⟩
theorem AL.ao (h : AL w p bl bu s) : ∃ ta tc fa fc nt nf vs cs, AO w p bl bu ta tc fa fc nt nf vs cs s := by
  obtain ⟨a1, a2, a3, ta, tc, fa, fc, nt, nf, vs, cs, e1, e2, b⟩ := h
  exact ⟨ta, tc, fa, fc, nt, nf, vs, cs, ⟨a1, a2, a3, e1, e2⟩, b⟩
theorem AO.out (h : AO w p bl bu ta tc fa fc nt nf vs cs s) (o : Out 0 0 w w') : AO w' p bl bu ta tc fa fc nt nf vs cs s :=
  ⟨h.1, h.2.1.kept o (.inr (Nat.zero_le _)), h.2.2.out h.1.1 h.1.2.1 o⟩
/-- the last function -/
theorem AO.last (h : AO w p bl bu ta tc fa fc nt nf vs cs s) (hne : s.fs ≠ []) : ∃ q m ca cc f, fa = some ⟨q, 0, none⟩ ∧ nf = m + 1 ∧ s.fs[m]? = some f ∧ cs[m]? = some (.slice ca f.2.2.2.length cc) ∧ w.cell? ⟨q, m * 4 + 3, none⟩ = some (.slice ca f.2.2.2.length cc) := by
  obtain ⟨⟨a1, a2, a3, e1, e2⟩, b1, b2, b3, b4, b5, b6, b7, b8⟩ := h
  have hl : 0 < nf := by rw [e2]; exact List.length_pos_iff.2 hne
  obtain ⟨q, cur, rfl, _, hc, _⟩ := own_cellsX b5 hl
  obtain ⟨m, rfl⟩ : ∃ m, nf = m + 1 := ⟨nf - 1, by omega⟩
  have hm : m < s.fs.length := by omega
  have hf : s.fs[m]? = some s.fs[m] := List.getElem?_eq_getElem hm
  have hcl : cs[m]? = some (cs[m]'(by have := b6.1; omega)) := List.getElem?_eq_getElem _
  obtain ⟨ca, cc, e, _⟩ := b6.2.1 m _ _ hcl hf
  rw [e] at hcl
  exact ⟨q, m, ca, cc, s.fs[m], rfl, rfl, hf, hcl, hc _ _ (fcl_at hf hcl).2.2.2⟩
theorem row_at {g sz n0 c0 k B : Nat} {E : TypeId} {xs : List Value} {u : Value} (hu : xs[k]? = some u) (h : w.ownsRow B E sz (.slice (some ⟨g, 0, none⟩) n0 c0) n0 xs) : w.cell? ⟨g, k, none⟩ = some u := by
  have := h.cells (g := g) rfl k u hu
  rw [Addr.add_lit, Nat.zero_add] at this
  exact this
set_option maxRecDepth 100000 in
set_option maxHeartbeats 2000000 in
/-- where a jump goes -/
theorem target_any (h : AO w p bl bu ta tc fa fc nt nf vs cs s) (hne : s.fs ≠ []) (x : ByteArray) (hU : (s.U (bt x)).length ≤ 1000000) (hfl : s.fs.length ≤ 1000000) (n : Nat) (hn : ∀ f, s.fs.getLast? = some f → f.2.2.2.length = n) :
    Calls Tryz.prog 154 #[.pointer (some ⟨p, 0, none⟩), .string x] w fun e w' => (Fr p bl bu w w' ∧ KI w w') ∧ (
      (nmB (bt x) = false ∧ ((∃ k, decF (bt x) = some k ∧ e = .returned (.int .i64 k)) ∨ (decF (bt x) = none ∧ e = .panicked [giveUp])) ∧ AO w' p bl bu ta tc fa fc nt nf vs cs s) ∨
      (nmB (bt x) = true ∧ ((∃ k, s.L (bt x) = some k ∧ e = .returned (.int .i64 k) ∧ AO w' p bl bu ta tc fa fc nt nf vs cs s) ∨ (s.L (bt x) = none ∧ e = .returned (.int .i64 0) ∧ AO w' p bl bu ta tc fa fc nt nf vs cs { s with U := addU s.U (bt x) (s.line, n) })))) := by
  have no := hid_mk h
  have HN := hid_mk (name_any x)
  cases hnm : nmB (bt x) with
  | false =>
    have HD := hid_mk (decimal_any x)
    have Hn := hid_mk hnm
    clear h hU hfl hn
    rw [hnm] at HN
    go_enter Tryz.func154, Tryz.ntmps154
    go_wp2_with fail
    refine (HN.out _).mono ?_
    rintro e w1 ⟨rfl, o1⟩
    go_wp2_with fail
    refine (HD.out _).mono ?_
    rintro e w2 ⟨o2, ⟨k, hk, rfl⟩ | ⟨hk, rfl⟩⟩
    · go_wp2
      go_ret
      exact ⟨⟨Fr.quiet (o1.trans o2), .quiet (o1.trans o2)⟩, .inl ⟨by first | rfl | trivial, .inl ⟨k, hk, rfl⟩, no.out.out (o1.trans o2)⟩⟩
    · exact ⟨rfl, ⟨Fr.quiet (o1.trans o2), .quiet (o1.trans o2)⟩, .inl ⟨by first | rfl | trivial, .inr ⟨hk, rfl⟩, no.out.out (o1.trans o2)⟩⟩
  | true =>
    obtain ⟨q, m, ca, cc, f, rfl, hnf, hf, hcm, hcell⟩ := h.last hne
    obtain ⟨⟨a1, a2, a3, e1, e2⟩, b1, b2⟩ := h
    have c4 : w.cell? ⟨p, 4, none⟩ = some (.map (some bl)) := b1.cell rfl
    have c5 : w.cell? ⟨p, 5, none⟩ = some (.map (some bu)) := b1.cell rfl
    have c6 : w.cell? ⟨p, 6, none⟩ = some (.int .i64 (s.line : Int)) := b1.cell rfl
    have c2 : w.cell? ⟨p, 2, none⟩ = some (.slice (some ⟨q, 0, none⟩) nf fc) := b1.cell rfl
    have hfn : f.2.2.2.length = n := hn f (by rw [List.getLast?_eq_getElem?, ← hf]; congr 1; omega)
    rw [hfn] at hcell
    have HLk := hid_mk (fun W (o : Out 0 0 w W) => mq_look (P := Tryz.prog) (w := W) true Tryz.underlying74 Tryz.underlying9 (z := .int .i64 0) (e := 3) (by kernel_rfl) (b2.2.2.2.2.2.1.kept o (.inr (Nat.zero_le _))) x)
    obtain ⟨ua, uc, hlk, hput⟩ := use_any x s.line n a1 a2 a3 b1 b2 hU
    have HU := hid_mk hlk
    have HPut := hid_mk hput
    have HFn := hid_mk (fun W (o : Out 0 0 w W) => fun_at (p := p) (w := W) (q := q) (nf := nf) (m := m) (fc := fc) (o.cell c2 (.inr (Nat.zero_le _))) hnf (by omega))
    have HA := hid_mk (And.intro a1 (And.intro a2 (And.intro a3 (And.intro e1 e2))))
    rw [hnm] at HN
    have HCm : Hid ((fcl s.fs cs)[m * 4 + 3]? = some (.slice ca n cc)) := hid_mk (hfn ▸ (fcl_at hf hcm).2.2.2)
    clear b1 b2 hlk hput a1 a2 a3 e1 e2 hcm hf hn hfn hU hfl hnf
    cases hL : s.L (bt x) with
    | some k =>
      rw [hL] at HLk
      go_enter Tryz.func154, Tryz.ntmps154
      go_wp2_with fail
      refine (HN.out _).mono ?_
      rintro e w1 ⟨rfl, o1⟩
      have c4' := o1.cell c4 (.inr (Nat.zero_le _))
      have hlk := HLk.out _ o1
      have Ho := hid_mk o1
      clear c2 c4 c5 c6 hcell o1
      go_wp2_with fail
      go_ret
      exact ⟨⟨Fr.quiet Ho.out, .quiet Ho.out⟩, .inr ⟨by first | rfl | trivial, .inl ⟨k, rfl, rfl, no.out.out Ho.out⟩⟩⟩
    | none =>
      rw [hL] at HLk
      go_enter Tryz.func154, Tryz.ntmps154
      go_wp2_with fail
      refine (HN.out _).mono ?_
      rintro e w1 ⟨rfl, o1⟩
      have c4' := o1.cell c4 (.inr (Nat.zero_le _))
      have c5' := o1.cell c5 (.inr (Nat.zero_le _))
      have c6' := o1.cell c6 (.inr (Nat.zero_le _))
      have cc' := o1.cell hcell (.inr (Nat.zero_le _))
      have hlk := HLk.out _ o1
      have hlu := HU.out _ (o1.drew)
      have Ho := hid_mk o1
      clear c2 c4 c5 c6 hcell o1
      go_wp2_with fail
      refine wp_region_T (S := fun w' => w'.cell? ⟨p, 5, none⟩ = some (.map (some bu)) ∧ w'.cell? ⟨p, 6, none⟩ = some (.int .i64 (s.line : Int)) ∧ w'.cell? ⟨q, m * 4 + 3, none⟩ = some (.slice ca n cc) ∧ (Instr.lookup 75 (.map (some bu)) (.string x) false).run Tryz.prog w' = .ok (.slice ua (s.U (bt x)).length uc) w') (z := 24) (by kernel_rfl) ?hS1 (fun hHeld => ?rest1)
      case hS1 => exact ⟨c5', c6', cc', hlu⟩
      refine tkT 0 ?_
      refine tkT 1 ?_
      refine tkT 2 ?_
      refine tkT 3 ?_
      refine tkT 4 ?_
      refine tkT 5 ?_
      refine tkT 6 ?_
      refine tkT 7 ?_
      refine tkT 8 ?_
      refine tkT 9 ?_
      refine tkT 10 ?_
      refine tkT 11 ?_
      refine tkT 12 ?_
      refine tkT 13 ?_
      refine tkT 14 ?_
      refine tkT 15 ?_
      refine wpAnyT_one (i := 16) (by kernel_rfl) rfl (fun KK hK => ?_)
      simp only [xa, xb, xc]
      go_simp
      go_at_call 123
      refine (HFn.out _ (Ho.out.trans ((Out.refl _ _ _).drew))).mono ?_
      rintro e w5 ⟨rfl, o5⟩
      have o6 := ((Out.refl 0 0 w1).drew).trans o5
      refine hK.out _ _ ?hS18 (fun hHeld2 => ?rest18)
      case hS18 => exact ⟨o6.cell c5' (.inr (Nat.zero_le _)), o6.cell c6' (.inr (Nat.zero_le _)), o6.cell cc' (.inr (Nat.zero_le _)), HU.out _ (Ho.out.trans o6)⟩
      clear hK KK
      (try clear hHeld)
      have hHeld := hHeld2
      clear hHeld2
      (try simp only [Act.put, xa, xb, xc, xd, xe, xf])
      refine tkT 17 ?_
      refine tkT 18 ?_
      refine tkT 19 ?_
      refine tkT 20 ?_
      refine tkT 21 ?_
      refine wpAnyT_one (i := 22) (by kernel_rfl) rfl (fun KK hK => ?_)
      simp only [xa, xb, xc]
      go_simp
      refine hK.out _ _ ?hS24 (fun hHeld2 => ?rest24)
      case hS24 => exact ⟨(o6.alloc _).cell c5' (.inr (Nat.zero_le _)), (o6.alloc _).cell c6' (.inr (Nat.zero_le _)), (o6.alloc _).cell cc' (.inr (Nat.zero_le _)), HU.out _ (Ho.out.trans (o6.alloc _))⟩
      clear hK KK
      (try clear hHeld)
      have hHeld := hHeld2
      clear hHeld2
      (try simp only [Act.put, xa, xb, xc, xd, xe, xf])
      refine wpAnyT_one (i := 23) (by kernel_rfl) rfl (fun KK hK => ?_)
      simp only [xa, xb, xc]
      obtain ⟨a', c', w7, hrun, hb7, hl7, hr7, Y, hY, hbY, hrY, hfY⟩ := HPut.out _ _ (Ho.out.trans o6) rfl
      refine app_stepS _ _ _ _ _ rfl _ _ rfl rfl hrun ?_
      refine hK.out _ _ ?hS25 (fun hHeld2 => ?rest25)
      case hS25 => exact ⟨hb7.cell rfl, hb7.cell rfl, row_at HCm.out hr7, hl7⟩
      clear hK KK
      (try clear hHeld)
      have hHeld := hHeld2
      clear hHeld2
      (try simp only [Act.put, xa, xb, xc, xd, xe, xf])
      refine wpAnyT_last (by kernel_rfl) rfl (fun KK hK => ?_)
      simp only [xa, xb, xc]
      go_simp
      (try rw [hY])
      go_simp
      refine hK.out _ _ ?_
      clear hK KK
      (try simp only [Act.put, xa, xb, xc, xd, xe, xf])
      refine wpAnyT_done (by kernel_rfl) ?_ _
      go_wp2
      go_ret
      exact ⟨hfY, .inr ⟨by first | rfl | trivial, .inr ⟨by first | rfl | trivial, rfl, ⟨HA.out.1, HA.out.2.1, HA.out.2.2.1, HA.out.2.2.2.1, HA.out.2.2.2.2⟩, hbY, hrY⟩⟩⟩
end
end Go.Proofs.YtcnjlbjpeklgkaaGreatDoor
namespace Go.Proofs.YtcnjlbjpeklgkaaGreatDoor
open Go.RowKit Go.MapKept
set_option linter.unusedVariables false
set_option linter.unusedSimpArgs false

theorem fcl_set : ∀ {fs : List FnF} {cs : List Value} {m : Nat} {f f' : FnF} (c' : Value), fs[m]? = some f → cs.length = fs.length → f'.1 = f.1 → f'.2.1 = f.2.1 → f'.2.2.1 = f.2.2.1 → fcl (fs.set m f') (cs.set m c') = (fcl fs cs).set (m * 4 + 3) c'
  | f0 :: fs, c0 :: cs, 0, f, f', c', hf, hl, h1, h2, h3 => by
    cases hf
    simp [fcl, h1, h2, h3]
  | f0 :: fs, c0 :: cs, m + 1, f, f', c', hf, hl, h1, h2, h3 => by
    have ih := fcl_set (fs := fs) (cs := cs) (m := m) (f := f) (f' := f') c' (by simpa using hf) (by simpa using hl) h1 h2 h3
    simp only [List.set_cons_succ, fcl, ih, show (m + 1) * 4 + 3 = m * 4 + 3 + 1 + 1 + 1 + 1 by omega]
  | [], _, m, f, f', c', hf, _, _, _, _ => by simp at hf
  | _ :: _, [], m, f, f', c', _, hl, _, _, _ => by simp at hl
theorem addI_set {fs : List FnF} {m : Nat} {f : FnF} (hf : fs[m]? = some f) (hm : fs.length = m + 1) (x : InF) : addI fs x = fs.set m (f.1, f.2.1, f.2.2.1, f.2.2.2 ++ [x]) := by
  obtain ⟨fs0, g, rfl⟩ : ∃ fs0 g, fs = fs0 ++ [g] := ⟨fs.dropLast, fs.getLast (by intro e; rw [e] at hm; simp at hm), (List.dropLast_concat_getLast _).symm⟩
  simp at hm
  subst hm
  simp at hf
  subst hf
  rw [add_cons]; simp
section
variable {p bl bu : Nat} {w w' w2 : World} {s : Low} {ta fa : Option Addr} {tc fc nt nf : Nat} {vs cs : List Value}
/-- a code changes -/
theorem CL.put {lo m : Nat} {fs : List FnF} {c c' : Value} {f' : FnF} (h : CL w lo [] cs fs) (hc : cs[m]? = some c) (x : Fx (fun k => c.ownBlock = some k) w w') (h2 : CdL w' lo [] c' f'.2.2.2) (hob : c'.ownBlock = c.ownBlock ∨ ∀ k, c'.ownBlock = some k → w.heap.size ≤ k) : CL w' lo [] (cs.set m c') (fs.set m f') := by
  have hmc : m < cs.length := (List.getElem?_eq_some_iff.1 hc).1
  have far : ∀ (j : Nat) a k, j ≠ m → cs[j]? = some a → a.ownBlock = some k → c'.ownBlock ≠ some k := by
    intro j a k hj ha hk q
    rcases hob with e | e
    · rw [e] at q; exact h.2.2 j m a c k hj ha hc hk q
    · have hjl : j < fs.length := by have := (List.getElem?_eq_some_iff.1 ha).1; rw [← h.1]; exact this
      have := ((h.2.1 j a fs[j] ha (List.getElem?_eq_getElem hjl)).ob hk).2
      have := e k q
      omega
  refine ⟨by simp [h.1], fun j a f q1 q2 => ?_, fun i j a b k hij q1 q2 q3 => ?_⟩
  · by_cases e : m = j
    · subst e
      rw [List.getElem?_set_self hmc] at q1
      rw [List.getElem?_set_self (by rw [← h.1]; exact hmc)] at q2
      cases q1; cases q2; exact h2
    · rw [List.getElem?_set_ne e] at q1 q2
      exact (h.2.1 j a f q1 q2).fx x fun k hk q => h.2.2 j m a c k (Ne.symm e) q1 hc hk q
  · by_cases e : m = i
    · subst e
      rw [List.getElem?_set_self hmc] at q1
      rw [List.getElem?_set_ne hij] at q2
      cases q1
      exact fun q => far j b k (Ne.symm hij) q2 q q3
    · rw [List.getElem?_set_ne e] at q1
      by_cases e2 : m = j
      · subst e2
        rw [List.getElem?_set_self hmc] at q2
        cases q2
        exact far i a k (Ne.symm e) q1 q3
      · rw [List.getElem?_set_ne e2] at q2
        exact h.2.2 i j a b k hij q1 q2 q3
set_option maxHeartbeats 1000000 in
theorem ins_put (h : AO w p bl bu ta tc fa fc nt nf vs cs s) {q m cc : Nat} {ca : Option Addr} {f : FnF} (hfa : fa = some ⟨q, 0, none⟩) (hnf : nf = m + 1) (hf : s.fs[m]? = some f) (hcm : cs[m]? = some (.slice ca f.2.2.2.length cc)) (hlim : f.2.2.2.length ≤ 1000000) (op a : Int) {w1 Z : World} (o : Out 0 0 w w1) (hZ : Z = w1.alloc (.cells #[.int .i64 op, .int .i64 a] 55)) :
    ∃ a' c' w', (Builtin.append_ #[37, 37] 37 #[.slice ca f.2.2.2.length cc, .slice (some ⟨w1.heap.size, 0, none⟩) 1 1]).run Tryz.prog Z = .ok (.slice a' (f.2.2.2.length + 1) c') w' ∧
      (∃ cur, Bl w' q cur 39) ∧ w'.cell? ⟨q, m * 4 + 3, none⟩ = some (.slice ca f.2.2.2.length cc) ∧ (∀ (k : Nat) cur, (Value.slice ca f.2.2.2.length cc).ownBlock ≠ some k → Bl w1 k cur 55 → Bl w' k cur 55) ∧
      AO (w'.setCell ⟨q, m * 4 + 3, none⟩ (.slice a' (f.2.2.2.length + 1) c')) p bl bu ta tc fa fc nt nf vs (cs.set m (.slice a' (f.2.2.2.length + 1) c')) { s with fs := addI s.fs (op, a) } ∧ Fr p bl bu w (w'.setCell ⟨q, m * 4 + 3, none⟩ (.slice a' (f.2.2.2.length + 1) c')) := by
  have oZ : Out 0 0 w Z := hZ ▸ o.alloc _
  have hZs : Z.heap.size = w1.heap.size + 1 := by rw [hZ]; exact Array.size_push _
  have hsz := o.size
  have hbz : Bl Z w1.heap.size #[.int .i64 op, .int .i64 a] 55 := by rw [hZ]; exact Bl.new _ _ _
  obtain ⟨⟨a1, a2, a3, e1, e2⟩, hBZ, b2, b3, b4, b5, b6, b7, b8⟩ := h.out oZ
  have hp := h.2.1.lt
  have hown := b6.2.1 m _ _ hcm hf
  obtain ⟨ca', cc', ee, hown⟩ := hown
  simp only [List.length_nil, Nat.add_zero, List.append_nil] at hown
  cases ee
  obtain ⟨a', c', w', hrun, hrow, hfx, hob⟩ := app_at (T := 37) (E := 55) Tryz.underlying37 info_in rfl (by decide) (by decide) (w := Z) (base := p + 1) (K := f.2.2.2.length) (cap := cc) (m := 1) (c := 1) (ys := [.int .i64 op, .int .i64 a]) hown (by rw [hZs]; omega) (.inr ⟨w1.heap.size, 0, rfl, fun j u hj => by
    have hj4 : j < 2 := (List.getElem?_eq_some_iff.1 hj).1
    rcases (show j = 0 ∨ j = 1 by omega) with rfl | rfl <;> (cases hj; exact hbz.cell rfl)⟩) rfl (fun u hu => by
      simp only [List.mem_cons, List.not_mem_nil, or_false] at hu
      rcases hu with rfl | rfl <;> rfl) (by omega) (by omega) 37
  have n0 : ∀ k, (Value.slice ca f.2.2.2.length cc).ownBlock = some k → p + 1 ≤ k := fun k hk => (own_ge hown hk).1
  have hB' := hBZ.fx hfx fun hk => by have := n0 _ hk; omega
  have c2 := keepR hown b2 (by decide) hfx
  have c3 := keepTL hown b3 (by decide) hfx
  have c5 := keepR hown b5 (by decide) hfx
  have c7 := keepMq hown b7 hfx
  have c8 := keepUs hown b8 (by decide) hfx
  have c6 : CL w' (p + 1) [] (cs.set m (.slice a' (f.2.2.2.length + 1) c')) (addI s.fs (op, a)) := by
    rw [addI_set hf (by omega)]
    refine b6.put hcm hfx ⟨a', c', by simp, ?_⟩ ?_
    · simp only [List.length_nil, Nat.add_zero, List.append_nil, List.length_append, List.length_cons, Nat.zero_add, icl_app]
      exact hrow
    · rcases hob with e | e
      · exact .inl e
      · exact .inr fun k hk => by rw [e] at hk; cases hk; exact Nat.le_refl _
  subst hfa
  have hcell : w'.cell? ⟨q, m * 4 + 3, none⟩ = some (.slice ca f.2.2.2.length cc) := row_at (fcl_at hf hcm).2.2.2 c5
  obtain ⟨q', cur, eq', _, _, hq, _⟩ := own_cellsX c5 (by omega)
  cases eq'
  have x : Fx (fun k => (Value.slice (some ⟨q, 0, none⟩) nf fc).ownBlock = some k) w' (w'.setCell ⟨q, m * 4 + 3, none⟩ (.slice a' (f.2.2.2.length + 1) c')) := Fx.set (S := fun k => (Value.slice (some ⟨q, 0, none⟩) nf fc).ownBlock = some k) (Fx.refl _ w') (p := ⟨q, m * 4 + 3, none⟩) (.inl rfl) _
  have hlen : nf = (addI s.fs (op, a)).length := by rw [addI_set hf (by omega), List.length_set]; exact e2
  refine ⟨a', c', w', hrun, ⟨cur, hq⟩, hcell, fun k cur2 hk hb2 => ((by rw [hZ]; exact hb2.kept ((Out.refl 0 0 w1).alloc _) (.inr (Nat.zero_le _)) : Bl Z k cur2 _)).fx hfx hk, ⟨⟨a1, a2, a3, e1, hlen⟩, hB'.fx x fun hk => by have := (own_ge c5 hk).1; omega, keepR c5 c2 (by decide) x, keepTL c5 c3 (by decide) x, b4, ?_, keepCL c5 c6 (by decide) x, keepMq c5 c7 x, keepUs c5 c8 (by decide) x⟩, ((Fr.quiet oZ).trans (Fr.own hown (by unfold OwnT; simp) hfx)).trans (Fr.own c5 (by unfold OwnT; simp) x)⟩
  show World.ownsRow _ _ _ _ _ _ (fcl (addI s.fs (op, a)) (cs.set m (.slice a' (f.2.2.2.length + 1) c')))
  rw [addI_set hf (by omega), fcl_set (f' := (f.1, f.2.1, f.2.2.1, f.2.2.2 ++ [(op, a)])) _ hf b6.1 rfl rfl rfl]
  exact own_put c5 _ _
end
end Go.Proofs.YtcnjlbjpeklgkaaGreatDoor
namespace Go.Proofs.YtcnjlbjpeklgkaaGreatDoor
open Go.RowKit Go.MapKept
set_option linter.unusedVariables false
set_option linter.unusedSimpArgs false

theorem nm_dec {t : List Int} (h : nmB t = true) : decF t = none := by
  match t, h with
  | c :: r, h =>
    simp only [nmB, Bool.and_eq_true] at h
    have hc : dgB c = false := by
      have := h.1
      unfold ltB at this
      unfold dgB
      simp only [decide_eq_true_eq, decide_eq_false_iff_not] at this ⊢
      omega
    unfold decF
    split
    · rfl
    · simp only [decA, hc]; simp
/-- the operand of an instruction that has no label: what the words say -/
def Num (op : Int) : Prop := ¬ (op = 14 ∨ op = 15)
/-- what is said of a char -/
def ChOk (x : ByteArray) : Prop := ∀ W, Gm W → Calls Tryz.prog 152 #[.string x] W fun e w' => Out 0 0 W w' ∧ ((∃ n, opnF 2 (bt x) = some (.inl n) ∧ e = .returned (.int .i64 n)) ∨ (opnF 2 (bt x) = none ∧ e = .panicked [giveUp]))
section
variable {p bl bu : Nat} {w w' w2 : World} {s : Low} {ta fa : Option Addr} {tc fc nt nf : Nat} {vs cs : List Value}
theorem opn_dec {op : Int} (h1 : op ≠ 1) (h2 : op ≠ 2) (h3 : op ≠ 3) (h5 : op ≠ 5) (h6 : ¬ (op = 14 ∨ op = 15)) (t : List Int) : opnF op t = (decF t).map .inl := by
  unfold opnF; rw [if_neg h1, if_neg h2, if_neg h3, if_neg h5, if_neg h6]
theorem opn_jump {op : Int} (h6 : op = 14 ∨ op = 15) (t : List Int) : opnF op t = match decF t with
    | some n => some (.inl n)
    | none => if nmB t then some (.inr t) else none := by
  unfold opnF; rw [if_neg (by omega), if_neg (by omega), if_neg (by omega), if_neg (by omega), if_pos h6]; cases decF t <;> rfl
/-- what an operand says, in memory -/
def OpS (w : World) (p bl bu : Nat) (ta : Option Addr) (tc : Nat) (fa : Option Addr) (fc nt nf : Nat) (vs cs : List Value) (s : Low) (n : Nat) (op : Int) (t : List Int) (e : Ending) : Prop :=
  (∃ k, opnF op t = some (.inl k) ∧ e = .returned (.int .i64 k) ∧ AO w p bl bu ta tc fa fc nt nf vs cs s) ∨ (opnF op t = none ∧ e = .panicked [giveUp] ∧ AO w p bl bu ta tc fa fc nt nf vs cs s) ∨
  (opnF op t = some (.inr t) ∧ ((∃ k, s.L t = some k ∧ e = .returned (.int .i64 k) ∧ AO w p bl bu ta tc fa fc nt nf vs cs s) ∨ (s.L t = none ∧ e = .returned (.int .i64 0) ∧ AO w p bl bu ta tc fa fc nt nf vs cs { s with U := addU s.U t (s.line, n) })))
set_option maxRecDepth 100000 in
set_option maxHeartbeats 4000000 in
theorem operand_any (h : AO w p bl bu ta tc fa fc nt nf vs cs s) (hne : s.fs ≠ []) (x : ByteArray) (hch : ChOk x) (hG : Gm w) (hT : Nt w) (hU : (s.U (bt x)).length ≤ 1000000) (hfl : s.fs.length ≤ 1000000) (n : Nat) (hn : ∀ f, s.fs.getLast? = some f → f.2.2.2.length = n) (op : Int) (hop : howF op ≠ 0) :
    Calls Tryz.prog 128 #[.pointer (some ⟨p, 0, none⟩), .int .i64 (howF op), .string x] w fun e w' => (Fr p bl bu w w' ∧ KI w w') ∧ OpS w' p bl bu ta tc fa fc nt nf vs cs s n op (bt x) e := by
  have no := hid_mk h
  by_cases h1 : op = 1
  · subst h1
    have HF := hid_mk (fixnum_any x)
    clear h hch hU hfl hn
    rw [show howF 1 = 2 from rfl]
    go_enter Tryz.func128, Tryz.ntmps128
    go_wp2_with (go_at_call 150; refine (HF.out _).mono ?_; rintro e w2 ⟨o2, ⟨k, hk, rfl⟩ | ⟨hk, rfl⟩⟩)
    · go_ret
      exact ⟨⟨Fr.quiet o2, .quiet o2⟩, .inl ⟨k, hk, rfl, no.out.out o2⟩⟩
    · exact ⟨rfl, ⟨Fr.quiet o2, .quiet o2⟩, .inr (.inl ⟨hk, rfl, no.out.out o2⟩)⟩
  by_cases h2 : op = 2
  · subst h2
    have HF := hid_mk (hch w hG)
    clear h hch hU hfl hn
    rw [show howF 2 = 4 from rfl]
    go_enter Tryz.func128, Tryz.ntmps128
    go_wp2_with (go_at_call 152; refine HF.out.mono ?_; rintro e w2 ⟨o2, ⟨k, hk, rfl⟩ | ⟨hk, rfl⟩⟩)
    · go_ret
      exact ⟨⟨Fr.quiet o2, .quiet o2⟩, .inl ⟨k, hk, rfl, no.out.out o2⟩⟩
    · exact ⟨rfl, ⟨Fr.quiet o2, .quiet o2⟩, .inr (.inl ⟨hk, rfl, no.out.out o2⟩)⟩
  by_cases h3 : op = 3
  · subst h3
    have HF := hid_mk (imm_any x w hT)
    clear h hch hU hfl hn
    rw [show howF 3 = 5 from rfl]
    go_enter Tryz.func128, Tryz.ntmps128
    go_wp2_with (go_at_call 153; refine HF.out.mono ?_; rintro e w2 ⟨o2, ⟨k, hk, rfl⟩ | ⟨hk, rfl⟩⟩)
    · go_ret
      exact ⟨⟨Fr.quiet o2, .quiet o2⟩, .inl ⟨k, hk, rfl, no.out.out o2⟩⟩
    · exact ⟨rfl, ⟨Fr.quiet o2, .quiet o2⟩, .inr (.inl ⟨hk, rfl, no.out.out o2⟩)⟩
  by_cases h5 : op = 5
  · subst h5
    have HF := hid_mk (flo_any x)
    clear h hch hU hfl hn
    rw [show howF 5 = 3 from rfl]
    go_enter Tryz.func128, Tryz.ntmps128
    go_wp2_with (go_at_call 151; refine (HF.out _).mono ?_; rintro e w2 ⟨o2, ⟨k, hk, rfl⟩ | ⟨hk, rfl⟩⟩)
    · go_ret
      exact ⟨⟨Fr.quiet o2, .quiet o2⟩, .inl ⟨k, hk, rfl, no.out.out o2⟩⟩
    · exact ⟨rfl, ⟨Fr.quiet o2, .quiet o2⟩, .inr (.inl ⟨hk, rfl, no.out.out o2⟩)⟩
  by_cases h6 : op = 14 ∨ op = 15
  · have HT := hid_mk (target_any h hne x hU hfl n hn)
    have HJ := hid_mk (opn_jump h6 (bt x))
    rw [show howF op = 6 from by unfold howF; rw [if_neg h1, if_neg h5, if_neg h2, if_neg h3, if_pos h6]]
    clear h hch hU hfl hn hop h1 h2 h3 h5 h6
    go_enter Tryz.func128, Tryz.ntmps128
    go_wp2_with (go_at_call 154; refine HT.out.mono ?_; rintro e w2 ⟨hfr, ⟨hnm, ⟨k, hk, rfl⟩ | ⟨hk, rfl⟩, ho⟩ | ⟨hnm, ⟨k, hk, rfl, ho⟩ | ⟨hk, rfl, ho⟩⟩⟩)
    · go_ret
      exact ⟨hfr, .inl ⟨k, by rw [HJ.out, hk], rfl, ho⟩⟩
    · exact ⟨rfl, hfr, .inr (.inl ⟨by rw [HJ.out, hk, hnm]; rfl, rfl, ho⟩)⟩
    · go_ret
      exact ⟨hfr, .inr (.inr ⟨by rw [HJ.out, nm_dec hnm, hnm]; rfl, .inl ⟨k, hk, rfl, ho⟩⟩)⟩
    · go_ret
      exact ⟨hfr, .inr (.inr ⟨by rw [HJ.out, nm_dec hnm, hnm]; rfl, .inr ⟨hk, rfl, ho⟩⟩)⟩
  · have HF := hid_mk (decimal_any x)
    have HJ := hid_mk (opn_dec h1 h2 h3 h5 h6 (bt x))
    have h7 : howF op = 1 := by
      unfold howF at hop ⊢
      rw [if_neg h1, if_neg h5, if_neg h2, if_neg h3, if_neg h6] at hop ⊢
      split
      · rfl
      · rename_i hq
        rw [if_neg hq] at hop
        exact absurd rfl hop
    rw [h7]
    clear h hch hU hfl hn hop h1 h2 h3 h5 h6 h7
    go_enter Tryz.func128, Tryz.ntmps128
    go_wp2_with (go_at_call 146; refine (HF.out _).mono ?_; rintro e w2 ⟨o2, ⟨k, hk, rfl⟩ | ⟨hk, rfl⟩⟩)
    · go_ret
      exact ⟨⟨Fr.quiet o2, .quiet o2⟩, .inl ⟨k, by rw [HJ.out, hk]; rfl, rfl, no.out.out o2⟩⟩
    · exact ⟨rfl, ⟨Fr.quiet o2, .quiet o2⟩, .inr (.inl ⟨by rw [HJ.out, hk]; rfl, rfl, no.out.out o2⟩)⟩
end
end Go.Proofs.YtcnjlbjpeklgkaaGreatDoor
