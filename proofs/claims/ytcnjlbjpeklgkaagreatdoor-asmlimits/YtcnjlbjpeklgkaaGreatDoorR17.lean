import Derived.Test.YtcnjlbjpeklgkaaGreatDoorR16
namespace Go.Proofs.YtcnjlbjpeklgkaaGreatDoor
open Go.RowKit Go.MapKept
set_option linter.unusedVariables false
set_option linter.unusedSimpArgs false

section
variable {p bl bu : Nat} {w w' w2 : World} {s : Low}
variable {lo : Nat} {E0 : TypeId} {s0 n0 : Nat} {v0 : Value} {x0 : List Value}
theorem keepR (h0 : w.ownsRow lo E0 s0 v0 n0 x0) {lo1 : Nat} {E1 : TypeId} {s1 n1 : Nat} {v1 : Value} {x1 : List Value} (h1 : w.ownsRow lo1 E1 s1 v1 n1 x1) (hE : E1 ≠ E0) (x : Fx (fun k => v0.ownBlock = some k) w w') : w'.ownsRow lo1 E1 s1 v1 n1 x1 :=
  own_fx h1 x fun k hk => own_apart h1 h0 hE hk
theorem keepTL (h0 : w.ownsRow lo E0 s0 v0 n0 x0) {lo1 : Nat} {vs : List Value} {ts : List (List Int)} (h : TL w lo1 [] vs ts) (hE : 5 ≠ E0) (x : Fx (fun k => v0.ownBlock = some k) w w') : TL w' lo1 [] vs ts :=
  h.fx x fun j v t k h1 h2 h3 => (h.2 j v t h1 h2).other h0 hE h3
theorem keepCL (h0 : w.ownsRow lo E0 s0 v0 n0 x0) {lo1 : Nat} {cs : List Value} {fs : List FnF} (h : CL w lo1 [] cs fs) (hE : 55 ≠ E0) (x : Fx (fun k => v0.ownBlock = some k) w w') : CL w' lo1 [] cs fs :=
  h.fx x fun j v t k h1 h2 h3 => (h.2.1 j v t h1 h2).other h0 hE h3
theorem keepMq (h0 : w.ownsRow lo E0 s0 v0 n0 x0) {b : Nat} {f : ByteArray → Option Value} (h : MqAt w b f) (x : Fx (fun k => v0.ownBlock = some k) w w') : MqAt w' b f := by
  have hh := h
  obtain ⟨es, clock, hb, r⟩ := h
  exact ⟨es, clock, x.heap hb (fun e => own_mq h0 hh e rfl), r⟩
theorem keepUs (h0 : w.ownsRow lo E0 s0 v0 n0 x0) {lo1 b : Nat} {U : List Int → List (Nat × Nat)} (h : UsAt w lo1 b U) (hE : 118 ≠ E0) (x : Fx (fun k => v0.ownBlock = some k) w w') : UsAt w' lo1 b U := by
  obtain ⟨g, k1, k2, k3, k4⟩ := h
  exact ⟨g, keepMq h0 k1 x, fun t v ht => ⟨(k2 t v ht).1, keepR h0 (k2 t v ht).2 hE x⟩, k3, k4⟩
theorem txl_own {base : Nat} {v : Value} {b : List Int} (h : B8 w base v b) (hb : lo ≤ base) : TxL w lo [] v b := by
  obtain ⟨a, c, rfl⟩ := h.open_
  refine ⟨h.1, a, c, rfl, ?_⟩
  have := Go.Joins.ownsRow_le h.2 hb
  simpa using this
/-- one text more -/
theorem AR.txs {ta fa ta' : Option Addr} {tc fc nt nf tc' : Nat} {vs cs : List Value} {v : Value} {b : List Int} (h : AR w p bl bu ta tc fa fc nt nf vs cs s) (x : Fx (fun k => (Value.slice ta nt tc).ownBlock = some k) w w')
    (hr : w'.ownsRow (p + 1) 50 1 (.slice ta' (nt + 1) tc') (nt + 1) (vs ++ [v])) (hb : TxL w' (p + 1) [] v b) {N : Nat} (hN : ∀ (j : Nat) a k, vs[j]? = some a → a.ownBlock = some k → k < N) (hv : ∀ k, v.ownBlock = some k → N ≤ k) :
    AR w' p bl bu ta' tc' fa fc (nt + 1) nf (vs ++ [v]) cs { s with tx := s.tx ++ [b] } := by
  obtain ⟨b2, b3, b4, b5, b6, b7, b8⟩ := h
  exact ⟨hr, (keepTL b2 b3 (by decide) x).up hb, b4.up hN hv, keepR b2 b5 (by decide) x, keepCL b2 b6 (by decide) x, keepMq b2 b7 x, keepUs b2 b8 (by decide) x⟩
theorem unq_yes {x : ByteArray} {q : UInt8} {bs : List Int} (hq : WdOk (bt x)) (hq2 : q = 34 ∨ q = 39) (hs : x.size ≤ 1800000) (hG : Gm w) (h : quoF (bt x) (q.toNat : Int) = some bs) : Calls Tryz.prog 126 #[.string x, .string ⟨#[q]⟩] w fun e w' => ∃ v, e = .returned v ∧ B8 w' w.heap.size v bs ∧ Out 0 0 w w' :=
  (unq_any x q (fun e => hq.2 _ (by rcases hq2 with rfl | rfl; exact .inl rfl; exact .inr rfl) e) hs w hG).mono fun e w' ⟨ho, h1⟩ => by
    rcases h1 with ⟨b, v, h2, h3, h4⟩ | ⟨h2, _⟩
    · rw [h] at h2; cases h2; exact ⟨v, h3, h4, ho⟩
    · rw [h] at h2; cases h2
theorem unq_none {x : ByteArray} {q : UInt8} (hq : WdOk (bt x)) (hq2 : q = 34 ∨ q = 39) (hs : x.size ≤ 1800000) (hG : Gm w) (h : quoF (bt x) (q.toNat : Int) = none) : Calls Tryz.prog 126 #[.string x, .string ⟨#[q]⟩] w fun e w' => e = .panicked [giveUp] ∧ Out 0 0 w w' :=
  (unq_any x q (fun e => hq.2 _ (by rcases hq2 with rfl | rfl; exact .inl rfl; exact .inr rfl) e) hs w hG).mono fun e w' ⟨ho, h1⟩ => by
    rcases h1 with ⟨b, v, h2, h3, h4⟩ | ⟨_, h3⟩
    · rw [h] at h2; cases h2
    · exact ⟨h3, ho⟩
theorem info_by : (Tryz.prog.info? 50).map (fun i => (i.zero, i.size, i.bytes)) = some (some (.slice none 0 0), 1, 24) := by kernel_rfl
/-- a text more is appended -/
theorem text_put {ta fa : Option Addr} {tc fc nt nf : Nat} {vs cs : List Value} {w1 Z : World} {v : Value} {b : List Int} (a1 : bl < p) (a2 : bu < p) (e1 : nt = s.tx.length) (b1 : Bl w p (AC bl bu ta tc fa fc nt nf s) 77) (h : AR w p bl bu ta tc fa fc nt nf vs cs s) (o : Out 0 0 w w1) (hb : B8 w1 w.heap.size v b) (hZ : Z = w1.alloc (.cells #[v] 50)) (hlim : s.tx.length ≤ 1000000) :
    ∃ a' c' w', (Builtin.append_ #[29, 29] 29 #[.slice ta nt tc, .slice (some ⟨w1.heap.size, 0, none⟩) 1 1]).run Tryz.prog Z = .ok (.slice a' (nt + 1) c') w' ∧ Bl w' p (AC bl bu ta tc fa fc nt nf s) 77 ∧ AR w' p bl bu a' c' fa fc (nt + 1) nf (vs ++ [v]) cs { s with tx := s.tx ++ [b] } ∧ Fr p bl bu w w' ∧ ∀ q off x cur, Bl w q cur 9 → w.cell? ⟨q, off, none⟩ = some x → w'.cell? ⟨q, off, none⟩ = some x := by
  have oZ : Out 0 0 w Z := hZ ▸ o.alloc _
  have o1 : Out 0 0 w1 Z := hZ ▸ (Out.refl 0 0 w1).alloc _
  have hp := b1.lt
  have hZs : Z.heap.size = w1.heap.size + 1 := by rw [hZ]; exact Array.size_push _
  have hsz := o.size
  have hc : Z.cell? ⟨w1.heap.size, 0, none⟩ = some v := by rw [hZ]; exact (Bl.new w1 #[v] _).cell rfl
  have hAZ := h.out a1 a2 oZ
  have hBZ := b1.kept oZ (.inr (Nat.zero_le _))
  obtain ⟨av, cv, rfl⟩ := hb.open_
  obtain ⟨a', c', w', hrun, hrow, hfx, _⟩ := app_at (T := 29) (E := 50) Tryz.underlying29 info_by rfl (by decide) (by decide) (w := Z) (base := p + 1) (K := nt) (cap := tc) (m := 1) (c := 1) (ys := [.slice av b.length cv]) hAZ.1 (by rw [hZs]; omega) (.inr ⟨w1.heap.size, 0, rfl, fun j u hj => by
    match j, hj with
    | 0, hj => cases hj; exact hc⟩) rfl (fun u hu => by simp at hu; rw [hu]; rfl) (by omega) (by omega) 29
  have n1 : ∀ k, (Value.slice ta nt tc).ownBlock = some k → p + 1 ≤ k := fun k hk => (own_ge hAZ.1 hk).1
  have hv2 := keepR hAZ.1 ((hb.out o1).2) (by decide) hfx
  refine ⟨a', c', w', hrun, hBZ.fx hfx fun hk => by have := n1 _ hk; omega, hAZ.txs hfx hrow (txl_own (base := w.heap.size) ⟨hb.1, hv2⟩ (by omega)) (N := w.heap.size) (fun j a k q1 q2 => ?_) (fun k hk => (own_ge hv2 hk).1), (Fr.quiet oZ).trans (Fr.own hAZ.1 (.inl rfl) hfx), fun q off x cur hq hx => hfx.cell (oZ.cell hx (.inr (Nat.zero_le _))) fun hk => ?_⟩
  · obtain ⟨t, ht⟩ : ∃ t, s.tx[j]? = some t := by
      have hj : j < vs.length := (List.getElem?_eq_some_iff.1 q1).1
      exact ⟨_, List.getElem?_eq_getElem (by have := h.2.1.1; omega)⟩
    exact ((h.2.1.2 j a t q1 ht).ob q2).2
  · rcases hAZ.1.2 with ⟨e, _⟩ | ⟨g, c9, cur9, e, _, h3, _⟩
    · cases e; cases hk
    · cases e
      obtain rfl : g = q := by cases hk; rfl
      have hq2 := h3.symm.trans (hq.kept oZ (.inr (Nat.zero_le _)))
      cases hq2
set_option maxRecDepth 100000 in
set_option maxHeartbeats 2000000 in
/-- a line text -/
theorem text_any (h : AL w p bl bu s) (xs : List ByteArray) (a : Option Addr) (m c : Nat) (hm : xs.length = m) (hx : StAt w a xs) (hwd : ∀ x ∈ xs, WdOk (bt x) ∧ x.size ≤ 1800000) (hlim : s.tx.length ≤ 1000000) (hG : Gm w) :
    Calls Tryz.prog 101 #[.pointer (some ⟨p, 0, none⟩), .slice a m c] w fun x w' => Fr p bl bu w w' ∧ ((∃ x1 b, xs = [x1] ∧ quoF (bt x1) 34 = some b ∧ x = .returned (.tuple #[]) ∧ AL w' p bl bu { s with tx := s.tx ++ [b] }) ∨ ((∀ x1, xs = [x1] → quoF (bt x1) 34 = none) ∧ x = .panicked [giveUp] ∧ AL w' p bl bu s)) := by
  by_cases h1 : m = 1
  · subst h1
    have m1 : (((1 : Nat) : Int) == 1) = true := rfl
    have m0 : decide ((0 : Nat) < 1) = true := rfl
    obtain ⟨x1, rfl⟩ : ∃ x1, xs = [x1] := by
      match xs, hm with
      | [x], _ => exact ⟨x, rfl⟩
      | [], q => simp at q
      | _ :: _ :: _, q => simp at q
    obtain ⟨q, off, rfl, hcs, cur, hcur⟩ : ∃ g off, a = some ⟨g, off, none⟩ ∧ (∀ (j : Nat) x, [x1][j]? = some x → w.cell? ⟨g, off + j, none⟩ = some (.string x)) ∧ ∃ cur, Bl w g cur 9 := by
      rcases hx with h | h
      · cases h
      · exact h
    have q0 : w.cell? ⟨q, off, none⟩ = some (.string x1) := hcs 0 x1 rfl
    obtain ⟨hw1, hsz⟩ := hwd x1 (by simp)
    have no := hid_mk h
    obtain ⟨a1, a2, a3, ta, tc, fa, fc, nt, nf, vs, cs, e1, e2, b1, b2⟩ := h
    have k1 : w.cell? ⟨p, 1, none⟩ = some (.slice ta nt tc) := b1.cell rfl
    cases hqf : quoF (bt x1) 34 with
    | none =>
      have HQ : Hid (∀ W, Gm W → Calls Tryz.prog 126 #[.string x1, .string ⟨#[34]⟩] W fun e w' => e = .panicked [giveUp] ∧ Out 0 0 W w') := hid_mk (fun W hG => unq_none hw1 (.inl rfl) hsz hG hqf)
      have HG := hid_mk hG
      have HQn := hid_mk hqf
      clear hx hcs a1 a2 a3 b1 b2 e1 e2 hqf hw1 hsz hwd hm hG
      go_enter Tryz.func101, Tryz.ntmps101
      go_wp2_with (go_at_call 104; refine calls_same (awant_yes _) ?_)
      refine wp_region_held_drew (S := fun w' => w'.cell? ⟨p, 1, none⟩ = some (.slice ta nt tc) ∧ w'.cell? ⟨q, off, none⟩ = some (.string x1)) (by kernel_rfl) ?hS1 (fun hHeld => ?rest1)
      case hS1 => exact ⟨k1, q0⟩
      refine tk 0 ?_
      refine tk 1 ?_
      refine tk 2 ?_
      refine tk 3 ?_
      refine tk 4 ?_
      refine tk 5 ?_
      refine tk 6 ?_
      refine tk 7 ?_
      refine tk 8 ?_
      refine wpAnyH_ready (rs := [9]) (by kernel_rfl) (by simp) ?_
      refine AllReadyH.cons rfl (fun KK hK => ?_) AllReadyH.nil
      simp only [xa, xb, xc]
      go_simp
      go_at_call 126
      refine (HQ.out _ (HG.out.out ((Out.refl _ _ _).drew))).mono ?_
      rintro e w5 ⟨rfl, o5⟩
      exact ⟨rfl, Fr.quiet (((Out.refl _ _ _).drew).trans o5), .inr ⟨fun x2 e => by cases e; exact HQn.out, rfl, no.out.out (((Out.refl _ _ _).drew).trans o5)⟩⟩
    | some b =>
      have HQ : Hid (∀ W, Gm W → Calls Tryz.prog 126 #[.string x1, .string ⟨#[34]⟩] W fun e w' => ∃ v, e = .returned v ∧ B8 w' W.heap.size v b ∧ Out 0 0 W w') := hid_mk (fun W hG => unq_yes hw1 (.inl rfl) hsz hG hqf)
      have HG := hid_mk hG
      have HQn := hid_mk hqf
      have HP : Hid (bl < p ∧ bu < p ∧ bl ≠ bu ∧ nf = s.fs.length ∧ nt = s.tx.length) := hid_mk ⟨a1, a2, a3, e2, e1⟩
      have HPut := hid_mk (fun (w1 Z : World) (v : Value) => text_put (w1 := w1) (Z := Z) (v := v) (b := b) a1 a2 e1 b1 b2)
      have HC := hid_mk hcur
      have HL := hid_mk hlim
      clear hx hcs a1 a2 a3 b1 b2 e1 e2 hqf hw1 hsz hwd hm hG hlim
      go_enter Tryz.func101, Tryz.ntmps101
      go_wp2_with (go_at_call 104; refine calls_same (awant_yes _) ?_)
      refine wp_region_T (S := fun w' => w'.cell? ⟨p, 1, none⟩ = some (.slice ta nt tc) ∧ w'.cell? ⟨q, off, none⟩ = some (.string x1)) (z := 15) (by kernel_rfl) ?hS11 (fun hHeld => ?rest11)
      case hS11 => exact ⟨k1, q0⟩
      refine tkT 0 ?_
      refine tkT 1 ?_
      refine tkT 2 ?_
      refine tkT 3 ?_
      refine tkT 4 ?_
      refine tkT 5 ?_
      refine tkT 6 ?_
      refine tkT 7 ?_
      refine tkT 8 ?_
      refine wpAnyT_one (i := 9) (by kernel_rfl) rfl (fun KK hK => ?_)
      simp only [xa, xb, xc]
      go_simp
      go_at_call 126
      refine (HQ.out _ (HG.out.out ((Out.refl _ _ _).drew))).mono ?_
      rintro e w5 ⟨v, rfl, hv5, o5⟩
      obtain ⟨av, cv, rfl⟩ := hv5.open_
      have o6 := ((Out.refl 0 0 w).drew).trans o5
      refine hK.out _ _ ?hS21 (fun hHeld2 => ?rest21)
      case hS21 => exact ⟨o6.cell k1 (.inr (Nat.zero_le _)), o6.cell q0 (.inr (Nat.zero_le _))⟩
      clear hK KK
      (try clear hHeld)
      have hHeld := hHeld2
      clear hHeld2
      (try simp only [Act.put, xa, xb, xc, xd, xe, xf])
      refine wpAnyT_one (i := 10) (by kernel_rfl) rfl (fun KK hK => ?_)
      simp only [xa, xb, xc]
      go_simp
      refine hK.out _ _ ?hS22 (fun hHeld2 => ?rest22)
      case hS22 => exact ⟨(o6.alloc _).cell k1 (.inr (Nat.zero_le _)), (o6.alloc _).cell q0 (.inr (Nat.zero_le _))⟩
      clear hK KK
      (try clear hHeld)
      have hHeld := hHeld2
      clear hHeld2
      (try simp only [Act.put, xa, xb, xc, xd, xe, xf])
      refine wpAnyT_one (i := 11) (by kernel_rfl) rfl (fun KK hK => ?_)
      simp only [xa, xb, xc]
      obtain ⟨a', c', w7, hrun, hb7, hr7, hf7, hc7⟩ := HPut.out _ _ _ o6 hv5 rfl HL.out
      refine app_stepS _ _ _ _ _ rfl _ _ rfl rfl hrun ?_
      refine hK.out _ _ ?hS23 (fun hHeld2 => ?rest23)
      case hS23 => exact ⟨hb7.cell rfl, hc7 _ _ _ _ HC.out q0⟩
      clear hK KK
      (try clear hHeld)
      have hHeld := hHeld2
      clear hHeld2
      (try simp only [Act.put, xa, xb, xc, xd, xe, xf])
      refine wpAnyT_one (i := 12) (by kernel_rfl) rfl (fun KK hK => ?_)
      simp only [xa, xb, xc]
      go_simp
      refine hK.out _ _ ?hS24 (fun hHeld2 => ?rest24)
      case hS24 => exact hHeld
      clear hK KK
      (try clear hHeld)
      have hHeld := hHeld2
      clear hHeld2
      (try simp only [Act.put, xa, xb, xc, xd, xe, xf])
      refine wpAnyT_one (i := 13) (by kernel_rfl) rfl (fun KK hK => ?_)
      simp only [xa, xb, xc]
      go_simp
      refine hK.out _ _ ?hS25 (fun hHeld2 => ?rest25)
      case hS25 => exact hHeld
      clear hK KK
      (try clear hHeld)
      have hHeld := hHeld2
      clear hHeld2
      (try simp only [Act.put, xa, xb, xc, xd, xe, xf])
      refine tkT 14 ?_
      refine wpAnyT_last (by kernel_rfl) rfl (fun KK hK => ?_)
      simp only [xa, xb, xc]
      have z9 := hb7.frozen 1
      go_simp
      refine hK.out _ _ ?_
      clear hK KK
      (try simp only [Act.put, xa, xb, xc, xd, xe, xf])
      refine wpAnyT_done (by kernel_rfl) ?_ _
      exact bodyPost_end (results_none Tryz.results101 _ _ _) rfl ⟨hf7.trans (Fr.set 1 _), .inl ⟨x1, b, rfl, HQn.out, rfl, HP.out.1, HP.out.2.1, HP.out.2.2.1, a', c', fa, fc, nt + 1, nf, vs ++ [.slice av b.length cv], cs, by simp [HP.out.2.2.2.2], HP.out.2.2.2.1, hb7.set 1 _, hr7.set HP.out.1 HP.out.2.1 1 _⟩⟩
  · have m1 : ((m : Int) == 1) = false := by simp only [beq_eq_false_iff_ne, ne_eq]; omega
    have no := hid_mk h
    have hn : Hid (∀ x1, xs = [x1] → quoF (bt x1) 34 = none) := hid_mk fun x1 e => by rw [e] at hm; exact absurd hm.symm h1
    clear hx hwd hm h1 h
    go_enter Tryz.func101, Tryz.ntmps101
    go_wp2_with (go_at_call 104; refine calls_stop (awant_no _) ?_)
    exact ⟨rfl, Fr.refl _ _ _ _, .inr ⟨hn.out, rfl, no.out⟩⟩
end
end Go.Proofs.YtcnjlbjpeklgkaaGreatDoor
namespace Go.Proofs.YtcnjlbjpeklgkaaGreatDoor
open Go.RowKit Go.MapKept
set_option linter.unusedVariables false
set_option linter.unusedSimpArgs false

section
variable {p bl bu : Nat} {w w' w2 : World} {s : Low}
/-- a block of another kind stays -/
theorem AL.keep (h : AL w p bl bu s) {k : Nat} {cur : Array Value} {E : TypeId} (hk : Bl w k cur E) (h1 : E ≠ 77) (h2 : ¬ OwnT E) (x : Fr p bl bu w w') : Bl w' k cur E := by
  obtain ⟨a1, a2, a3, ta, tc, fa, fc, nt, nf, vs, cs, e1, e2, b1, b2, b3, b4, b5, b6, b7, b8⟩ := h
  refine hk.fx x ?_
  rintro (q | q | q | ⟨q1, cs2, E2, q2, q3⟩)
  · subst q
    have := hk.symm.trans b1
    cases this; exact h1 rfl
  · subst q
    obtain ⟨es, clock, hb, r⟩ := b7
    have := hk.symm.trans hb
    cases this
  · subst q
    obtain ⟨g, ⟨es, clock, hb, r⟩, r2⟩ := b8
    have := hk.symm.trans hb
    cases this
  · have := hk.symm.trans q2
    cases this; exact h2 q3
theorem AL.kind (h : AL w p bl bu s) {k : Nat} {cur : Array Value} {E : TypeId} (hk : Bl w k cur E) (h1 : E ≠ 77) : k ≠ p := by
  obtain ⟨a1, a2, a3, ta, tc, fa, fc, nt, nf, vs, cs, e1, e2, b1, b2⟩ := h
  intro q
  subst q
  have := hk.symm.trans b1
  cases this; exact h1 rfl
/-- a function more is appended -/
theorem func_put {ta fa : Option Addr} {tc fc nt nf : Nat} {vs cs : List Value} {w1 Z : World} (n1 n2 n3 : Int) (a1 : bl < p) (a2 : bu < p) (e1 : nf = s.fs.length) (b1 : Bl w p (AC bl bu ta tc fa fc nt nf s) 77) (h : AR w p bl bu ta tc fa fc nt nf vs cs s) (o : Out 0 0 w w1) (hZ : Z = w1.alloc (.cells #[.int .i64 n1, .int .i64 n2, .int .i64 n3, .slice none 0 0] 39)) (hlim : s.fs.length ≤ 1000000) :
    ∃ a' c' w', (Builtin.append_ #[30, 30] 30 #[.slice fa nf fc, .slice (some ⟨w1.heap.size, 0, none⟩) 1 1]).run Tryz.prog Z = .ok (.slice a' (nf + 1) c') w' ∧ Bl w' p (AC bl bu ta tc fa fc nt nf s) 77 ∧ AR w' p bl bu ta tc a' c' nt (nf + 1) vs (cs ++ [.slice none 0 0]) { s with fs := s.fs ++ [(n1, n2, n3, [])] } ∧ Fr p bl bu w w' := by
  have oZ : Out 0 0 w Z := hZ ▸ o.alloc _
  have hp := b1.lt
  have hZs : Z.heap.size = w1.heap.size + 1 := by rw [hZ]; exact Array.size_push _
  have hsz := o.size
  have hbz : Bl Z w1.heap.size #[.int .i64 n1, .int .i64 n2, .int .i64 n3, .slice none 0 0] 39 := by rw [hZ]; exact Bl.new _ _ _
  have hAZ := h.out a1 a2 oZ
  have hBZ := b1.kept oZ (.inr (Nat.zero_le _))
  obtain ⟨b1', b2, b3, b4, b5, b6, b7⟩ := hAZ
  obtain ⟨a', c', w', hrun, hrow, hfx, _⟩ := app_at (T := 30) (E := 39) Tryz.underlying30 info_fnX rfl (by decide) (by decide) (w := Z) (base := p + 1) (K := nf) (cap := fc) (m := 1) (c := 1) (ys := [.int .i64 n1, .int .i64 n2, .int .i64 n3, .slice none 0 0]) b4 (by rw [hZs]; omega) (.inr ⟨w1.heap.size, 0, rfl, fun j u hj => by
    have hj4 : j < 4 := (List.getElem?_eq_some_iff.1 hj).1
    rcases (show j = 0 ∨ j = 1 ∨ j = 2 ∨ j = 3 by omega) with rfl | rfl | rfl | rfl <;> (cases hj; exact hbz.cell rfl)⟩) rfl (fun u hu => by
      simp only [List.mem_cons, List.not_mem_nil, or_false] at hu
      rcases hu with rfl | rfl | rfl | rfl <;> rfl) (by omega) (by omega) 30
  have n0 : ∀ k, (Value.slice fa nf fc).ownBlock = some k → p + 1 ≤ k := fun k hk => (own_ge b4 hk).1
  have hcl := keepCL b4 b5 (by decide) hfx
  refine ⟨a', c', w', hrun, hBZ.fx hfx fun hk => by have := n0 _ hk; omega, ⟨keepR b4 b1' (by decide) hfx, keepTL b4 b2 (by decide) hfx, b3, ?_, ?_, keepMq b4 b6 hfx, keepUs b4 b7 (by decide) hfx⟩, (Fr.quiet oZ).trans (Fr.own b4 (.inr (.inl rfl)) hfx)⟩
  · rw [show fcl ({ s with fs := s.fs ++ [(n1, n2, n3, [])] } : Low).fs (cs ++ [.slice none 0 0]) = _ from fcl_up (n1, n2, n3, []) (.slice none 0 0) b5.1]
    exact hrow
  · exact hcl.up (N := w'.heap.size) (f := (n1, n2, n3, [])) ⟨none, 0, rfl, World.ownsRow_nil _ _ _ 2⟩ (fun j a k q1 q2 => by
      obtain ⟨t, ht⟩ : ∃ t, s.fs[j]? = some t := by
        have hj : j < cs.length := (List.getElem?_eq_some_iff.1 q1).1
        exact ⟨_, List.getElem?_eq_getElem (by have := b5.1; omega)⟩
      exact ((hcl.2.1 j a t q1 ht).ob q2).2) (fun k hk => by cases hk)
theorem nums_three {ns : List Int} (hl : ns.length = 3) : ∃ a b c, ns = [a, b, c] := by
  match ns, hl with
  | [a, b, c], _ => exact ⟨a, b, c, rfl⟩
set_option maxRecDepth 100000 in
set_option maxHeartbeats 2000000 in
/-- a line func -/
theorem newf_any (h : AL w p bl bu s) (xs : List ByteArray) (a : Option Addr) (m c : Nat) (hm : xs.length = m) (hm2 : m ≤ 1900000) (hx : StAt w a xs) (hU : ∀ t x, x ∈ s.U (bt t) → x.1 ≠ 0) (hlen : ∀ t, (s.U (bt t)).length ≤ 1000000) (hlim : s.fs.length ≤ 1000000) :
    Calls Tryz.prog 99 #[.pointer (some ⟨p, 0, none⟩), .slice a m c] w fun x w' => Fr p bl bu w w' ∧ ((∃ n1 n2 n3 b, numsF (xs.map bt) 3 = some [n1, n2, n3] ∧ LeastU b s.bad s.U ∧ x = .returned (.tuple #[]) ∧ AL w' p bl bu { s with L := fun _ => none, U := fun _ => [], bad := b, fs := s.fs ++ [(n1, n2, n3, [])] }) ∨ (numsF (xs.map bt) 3 = none ∧ x = .panicked [giveUp] ∧ AL w' p bl bu s)) := by
  have HN := hid_mk (nums_any xs a m c 3 hm hm2 (by decide) w hx)
  have no := hid_mk h
  have HU := hid_mk (And.intro hU hlen)
  have HL := hid_mk hlim
  clear hU hlen hlim hx hm hm2 h
  go_enter Tryz.func99, Tryz.ntmps99
  go_wp2_with fail
  refine HN.out.mono ?_
  rintro e w2 ⟨o2, ⟨ns, g, hns, hl, rfl, hb⟩ | ⟨hns, rfl⟩⟩
  · obtain ⟨n1, n2, n3, rfl⟩ := nums_three hl
    have HO := hid_mk o2
    have HNs := hid_mk hns
    have HB := hid_mk hb
    have HLv := hid_mk (leave_any (no.out.out o2) HU.out.1 HU.out.2)
    clear o2 hns hb hl
    go_wp2_with fail
    refine HLv.out.mono ?_
    rintro e w3 ⟨rfl, ⟨b, hb, hal⟩, hfr⟩
    have hb3 := (no.out.out HO.out).keep HB.out (by decide) (by unfold OwnT; decide) hfr
    have HAL := hid_mk (And.intro hal hb3)
    obtain ⟨a1, a2, a3, ta, tc, fa, fc, nt, nf, vs, cs, e1, e2, b1, b2⟩ := hal
    have k2 : w3.cell? ⟨p, 2, none⟩ = some (.slice fa nf fc) := b1.cell rfl
    have d0 : w3.cell? ⟨g, 0, none⟩ = some (.int .i64 n1) := hb3.cell rfl
    have d1 : w3.cell? ⟨g, 1, none⟩ = some (.int .i64 n2) := hb3.cell rfl
    have d2 : w3.cell? ⟨g, 2, none⟩ = some (.int .i64 n3) := hb3.cell rfl
    have HP : Hid (bl < p ∧ bu < p ∧ bl ≠ bu ∧ nf = s.fs.length ∧ nt = s.tx.length) := hid_mk ⟨a1, a2, a3, e2, e1⟩
    have HPut := hid_mk (fun (w1 Z : World) => func_put (w1 := w1) (Z := Z) n1 n2 n3 a1 a2 e2 b1 b2)
    have HF := hid_mk (And.intro hb ((Fr.quiet HO.out).trans hfr))
    clear a1 a2 a3 e1 e2 b1 b2 hb hfr hb3 HB HLv
    go_wp2_with fail
    refine wp_region_T (S := fun w' => w'.cell? ⟨p, 2, none⟩ = some (.slice fa nf fc) ∧ w'.cell? ⟨g, 0, none⟩ = some (.int .i64 n1) ∧ w'.cell? ⟨g, 1, none⟩ = some (.int .i64 n2) ∧ w'.cell? ⟨g, 2, none⟩ = some (.int .i64 n3)) (z := 21) (by kernel_rfl) ?hS1 (fun hHeld => ?rest1)
    case hS1 => exact ⟨k2, d0, d1, d2⟩
    refine tkT 0 ?_
    refine tkT 1 ?_
    refine tkT 2 ?_
    refine tkT 3 ?_
    refine tkT 4 ?_
    refine tkT 5 ?_
    refine tkT 6 ?_
    refine tkT 7 ?_
    refine tkT 8 ?_
    refine tkT 9 ?_
    refine tkT 10 ?_
    refine tkT 11 ?_
    refine tkT 12 ?_
    refine tkT 13 ?_
    refine tkT 14 ?_
    refine tkT 15 ?_
    refine wpAnyT_one (i := 16) (by kernel_rfl) rfl (fun KK hK => ?_)
    simp only [xa, xb, xc]
    go_simp
    have o6 := (Out.refl 0 0 w3).drew
    refine hK.out _ _ ?hS18 (fun hHeld2 => ?rest18)
    case hS18 => exact ⟨(o6.alloc _).cell k2 (.inr (Nat.zero_le _)), (o6.alloc _).cell d0 (.inr (Nat.zero_le _)), (o6.alloc _).cell d1 (.inr (Nat.zero_le _)), (o6.alloc _).cell d2 (.inr (Nat.zero_le _))⟩
    clear hK KK
    (try clear hHeld)
    have hHeld := hHeld2
    clear hHeld2
    (try simp only [Act.put, xa, xb, xc, xd, xe, xf])
    refine wpAnyT_one (i := 17) (by kernel_rfl) rfl (fun KK hK => ?_)
    simp only [xa, xb, xc]
    obtain ⟨a', c', w7, hrun, hb7, hr7, hf7⟩ := HPut.out _ _ o6 rfl HL.out
    refine app_stepS _ _ _ _ _ rfl _ _ rfl rfl hrun ?_
    have hb8 := HAL.out.1.keep HAL.out.2 (by decide) (by unfold OwnT; decide) hf7
    refine hK.out _ _ ?hS19 (fun hHeld2 => ?rest19)
    case hS19 => exact ⟨hb7.cell rfl, hb8.cell rfl, hb8.cell rfl, hb8.cell rfl⟩
    clear hK KK
    (try clear hHeld)
    have hHeld := hHeld2
    clear hHeld2
    (try simp only [Act.put, xa, xb, xc, xd, xe, xf])
    refine wpAnyT_one (i := 18) (by kernel_rfl) rfl (fun KK hK => ?_)
    simp only [xa, xb, xc]
    go_simp
    refine hK.out _ _ ?hS20 (fun hHeld2 => ?rest20)
    case hS20 => exact hHeld
    clear hK KK
    (try clear hHeld)
    have hHeld := hHeld2
    clear hHeld2
    (try simp only [Act.put, xa, xb, xc, xd, xe, xf])
    refine wpAnyT_one (i := 19) (by kernel_rfl) rfl (fun KK hK => ?_)
    simp only [xa, xb, xc]
    go_simp
    refine hK.out _ _ ?hS21 (fun hHeld2 => ?rest21)
    case hS21 => exact hHeld
    clear hK KK
    (try clear hHeld)
    have hHeld := hHeld2
    clear hHeld2
    (try simp only [Act.put, xa, xb, xc, xd, xe, xf])
    refine tkT 20 ?_
    refine wpAnyT_last (by kernel_rfl) rfl (fun KK hK => ?_)
    simp only [xa, xb, xc]
    have z9 := hb7.frozen 2
    go_simp
    refine hK.out _ _ ?_
    clear hK KK
    (try simp only [Act.put, xa, xb, xc, xd, xe, xf])
    refine wpAnyT_done (by kernel_rfl) ?_ _
    exact bodyPost_end (results_none Tryz.results99 _ _ _) rfl ⟨(HF.out.2.trans hf7).trans (Fr.set 2 _), .inl ⟨n1, n2, n3, b, HNs.out, HF.out.1, rfl, HP.out.1, HP.out.2.1, HP.out.2.2.1, ta, tc, a', c', nt, nf + 1, vs, cs ++ [.slice none 0 0], HP.out.2.2.2.2, by simp [HP.out.2.2.2.1], hb7.set 2 _, hr7.set HP.out.1 HP.out.2.1 2 _⟩⟩
  · exact ⟨rfl, Fr.quiet o2, .inr ⟨hns, rfl, no.out.out o2⟩⟩
end
end Go.Proofs.YtcnjlbjpeklgkaaGreatDoor
namespace Go.Proofs.YtcnjlbjpeklgkaaGreatDoor
open Go.RowKit Go.MapKept
set_option linter.unusedVariables false
set_option linter.unusedSimpArgs false

section
variable {p bl bu : Nat} {w w' w2 : World} {s : Low}
theorem info_use : (Tryz.prog.info? 118).map (fun i => (i.zero, i.size, i.bytes)) = some (some (.agg #[.int .i64 0, .int .i64 0]), 2, 16) := by kernel_rfl
theorem zero_us (W : World) : (zeroValue 116).run Tryz.prog W = .ok (.slice none 0 0) W := by kernel_rfl
theorem own_bl {B sz n k : Nat} {E : TypeId} {v : Value} {xs : List Value} (h : w.ownsRow B E sz v n xs) (hk : v.ownBlock = some k) : ∃ cur, Bl w k cur E := by
  rcases h.2 with ⟨rfl, _⟩ | ⟨g, c, cur, rfl, _, h3, _⟩
  · cases hk
  · cases hk; exact ⟨cur, h3⟩
/-- single instructions stay as they are -/
def KI (w w' : World) : Prop := ∀ (k : Nat) cur, Bl w k cur 55 → Bl w' k cur 55
theorem KI.quiet (o : Out 0 0 w w') : KI w w' := fun k cur h => h.kept o (.inr (Nat.zero_le _))
theorem KI.trans (h : KI w w') (g : KI w' w2) : KI w w2 := fun k cur q => g k cur (h k cur q)
/-- one use more -/
def addU (U : List Int → List (Nat × Nat)) (t : List Int) (x : Nat × Nat) : List Int → List (Nat × Nat) := fun u => if u = t then U u ++ [x] else U u
set_option maxHeartbeats 1000000 in
theorem use_any {ta fa : Option Addr} {tc fc nt nf : Nat} {vs cs : List Value} (word : ByteArray) (l n : Nat) (a1 : bl < p) (a2 : bu < p) (a3 : bl ≠ bu) (b1 : Bl w p (AC bl bu ta tc fa fc nt nf s) 77) (h : AR w p bl bu ta tc fa fc nt nf vs cs s) (hlim : (s.U (bt word)).length ≤ 1000000) :
    ∃ ua uc, (∀ W, Out 0 0 w W → (Instr.lookup 75 (.map (some bu)) (.string word) false).run Tryz.prog W = .ok (.slice ua (s.U (bt word)).length uc) W) ∧
      ∀ w1 Z, Out 0 0 w w1 → Z = w1.alloc (.cells #[.int .i64 (l : Int), .int .i64 (n : Int)] 118) → ∃ a' c' w', (Builtin.append_ #[116, 116] 116 #[.slice ua (s.U (bt word)).length uc, .slice (some ⟨w1.heap.size, 0, none⟩) 1 1]).run Tryz.prog Z = .ok (.slice a' ((s.U (bt word)).length + 1) c') w' ∧ Bl w' p (AC bl bu ta tc fa fc nt nf s) 77 ∧
        (Instr.lookup 75 (.map (some bu)) (.string word) false).run Tryz.prog w' = .ok (.slice ua (s.U (bt word)).length uc) w' ∧ w'.ownsRow (p + 1) 39 4 (.slice fa nf fc) nf (fcl s.fs cs) ∧
        ∃ Y, (Instr.mapUpdate 75 (.map (some bu)) (.string word) (.slice a' ((s.U (bt word)).length + 1) c')).run Tryz.prog w' = .ok () Y ∧ Bl Y p (AC bl bu ta tc fa fc nt nf s) 77 ∧ AR Y p bl bu ta tc fa fc nt nf vs cs { s with U := addU s.U (bt word) (l, n) } ∧ Fr p bl bu w Y ∧ KI w Y := by
  obtain ⟨g, k1, k2, k3, k4⟩ := h.2.2.2.2.2.2
  obtain ⟨ua, uc, hgv, hown⟩ : ∃ ua uc, (g word).getD (.slice none 0 0) = .slice ua (s.U (bt word)).length uc ∧ w.ownsRow (p + 1) 118 2 (.slice ua (s.U (bt word)).length uc) (s.U (bt word)).length (ucl (s.U (bt word))) := by
    cases hg : g word with
    | none =>
      refine ⟨none, 0, by rw [k3 _ hg]; rfl, ?_⟩
      rw [k3 _ hg]
      exact World.ownsRow_nil _ _ _ 2
    | some v =>
      have hr := (k2 _ v hg).2
      rcases hr.2 with ⟨rfl, h0⟩ | ⟨g2, c2, cur2, rfl, _⟩
      · rw [h0] at hr ⊢
        exact ⟨none, 0, rfl, hr⟩
      · exact ⟨_, _, rfl, hr⟩
  refine ⟨ua, uc, fun W o => ?_, fun w1 Z o hZ => ?_⟩
  · have := mq_look (P := Tryz.prog) (w := W) false Tryz.underlying75 Tryz.underlying9 (zero_us W) (k1.kept o (.inr (Nat.zero_le _))) word
    rw [this, hgv]; rfl
  have oZ : Out 0 0 w Z := hZ ▸ o.alloc _
  have hp := b1.lt
  have hZs : Z.heap.size = w1.heap.size + 1 := by rw [hZ]; exact Array.size_push _
  have hsz := o.size
  have hbz : Bl Z w1.heap.size #[.int .i64 (l : Int), .int .i64 (n : Int)] 118 := by rw [hZ]; exact Bl.new _ _ _
  have hAZ := h.out a1 a2 oZ
  have hBZ := b1.kept oZ (.inr (Nat.zero_le _))
  obtain ⟨b2, b3, b4, b5, b6, b7, _⟩ := hAZ
  have hq {B sz m : Nat} {E : TypeId} {v : Value} {xs : List Value} (q : w.ownsRow B E sz v m xs) : Z.ownsRow B E sz v m xs := own_fx q (Fx.of_out (S := fun _ => False) oZ) fun _ _ q => q
  have hownZ := hq hown
  obtain ⟨a', c', w', hrun, hrow, hfx, hob⟩ := app_at (T := 116) (E := 118) Tryz.underlying116 info_use rfl (by decide) (by decide) (w := Z) (base := p + 1) (K := (s.U (bt word)).length) (cap := uc) (m := 1) (c := 1) (ys := [.int .i64 (l : Int), .int .i64 (n : Int)]) hownZ (by rw [hZs]; omega) (.inr ⟨w1.heap.size, 0, rfl, fun j u hj => by
    have hj4 : j < 2 := (List.getElem?_eq_some_iff.1 hj).1
    rcases (show j = 0 ∨ j = 1 by omega) with rfl | rfl <;> (cases hj; exact hbz.cell rfl)⟩) rfl (fun u hu => by
      simp only [List.mem_cons, List.not_mem_nil, or_false] at hu
      rcases hu with rfl | rfl <;> rfl) (by omega) (by omega) 116
  have n0 : ∀ k, (Value.slice ua (s.U (bt word)).length uc).ownBlock = some k → p + 1 ≤ k := fun k hk => (own_ge hownZ hk).1
  have hB' := hBZ.fx hfx fun hk => by have := n0 _ hk; omega
  have c2 := keepR hownZ b2 (by decide) hfx
  have c3 := keepTL hownZ b3 (by decide) hfx
  have c5 := keepR hownZ b5 (by decide) hfx
  have c6 := keepCL hownZ b6 (by decide) hfx
  have c7 := keepMq hownZ b7 hfx
  have kZ : MqAt Z bu g := k1.kept oZ (.inr (Nat.zero_le _))
  have c8 : MqAt w' bu g := keepMq hownZ kZ hfx
  obtain ⟨Y, hY, hmY, oY⟩ := mq_put (P := Tryz.prog) Tryz.underlying75 Tryz.underlying9 c8 word (.slice a' ((s.U (bt word)).length + 1) c')
  have x : Fx (fun k => k = bu) w' Y := ⟨oY.1, oY.2.1, oY.2.2.1, oY.size, fun k h1 h2 => oY.block h1 (by have : k ≠ bu := h2; omega)⟩
  have hother : ∀ t v, t ≠ word → g t = some v → ∀ k, v.ownBlock = some k → (Value.slice ua (s.U (bt word)).length uc).ownBlock ≠ some k := by
    intro t v ht hv k hk
    cases hg : g word with
    | none =>
      rw [hg] at hgv
      cases ua with
      | none => exact fun q => by cases q
      | some _ => cases hgv
    | some v2 =>
      rw [hg] at hgv
      have e : v2 = _ := hgv
      rw [← e]
      exact k4 t word v v2 k ht hv hg hk
  refine ⟨a', c', w', hrun, hB', ?_, c5, Y, hY, hB'.fx x (by omega), ⟨own_fx c2 x fun k hk => own_mq c2 c8 hk, c3.fx x fun j v t k h1 h2 h3 => (tl_mq c3 c8 h1 h2 h3).1, b4, own_fx c5 x fun k hk => own_mq c5 c8 hk, c6.fx x fun j v t k h1 h2 h3 => (cl_mq c6 c8 h1 h2 h3).1, c7.kept oY (by omega), _, hmY, fun t v ht => ?_, fun t ht => ?_, fun t1 t2 v1 v2 k hne h1 h2 hk => ?_⟩, ((Fr.quiet oZ).trans (Fr.own hownZ (by unfold OwnT; simp) hfx)).trans (Fr.mapu a2 oY), fun k cur hk => ?_⟩
  · have := mq_look (P := Tryz.prog) (w := w') false Tryz.underlying75 Tryz.underlying9 (zero_us w') c8 word
    rw [this, hgv]; rfl
  · by_cases e : t = word
    · subst e
      rw [if_pos rfl] at ht
      cases ht
      have hU : addU s.U (bt t) (l, n) (bt t) = s.U (bt t) ++ [(l, n)] := by unfold addU; rw [if_pos rfl]
      refine ⟨by show addU s.U (bt t) (l, n) (bt t) ≠ []; rw [hU]; simp, ?_⟩
      show Y.ownsRow _ _ _ _ (addU s.U (bt t) (l, n) (bt t)).length (ucl (addU s.U (bt t) (l, n) (bt t)))
      rw [hU, ucl_app, List.length_append]
      exact own_fx hrow x fun k hk => own_mq hrow c8 hk
    · rw [if_neg e] at ht
      have hU : addU s.U (bt word) (l, n) (bt t) = s.U (bt t) := by unfold addU; rw [if_neg (fun q => e (bt_inj q))]
      refine ⟨by show addU s.U (bt word) (l, n) (bt t) ≠ []; rw [hU]; exact (k2 t v ht).1, ?_⟩
      show Y.ownsRow _ _ _ _ (addU s.U (bt word) (l, n) (bt t)).length (ucl (addU s.U (bt word) (l, n) (bt t)))
      rw [hU]
      have hr := own_fx (hq (k2 t v ht).2) hfx fun k hk => hother t v e ht k hk
      exact own_fx hr x fun k hk => own_mq hr c8 hk
  · have e : t ≠ word := fun q => by rw [if_pos q] at ht; cases ht
    rw [if_neg e] at ht
    show addU s.U (bt word) (l, n) (bt t) = []
    unfold addU; rw [if_neg (fun q => e (bt_inj q))]
    exact k3 t ht
  · have newold : ∀ t v, t ≠ word → g t = some v → ∀ k, v.ownBlock = some k → (Value.slice a' ((s.U (bt word)).length + 1) c').ownBlock ≠ some k := by
      intro t v ht hv k hk q
      rcases hob with r | r
      · rw [r] at q; exact hother t v ht hv k hk q
      · rw [r] at q; cases q
        have := (own_ge (hq (k2 t v hv).2) hk).2
        omega
    by_cases e1 : t1 = word
    · have e2 : t2 ≠ word := fun q => hne (e1.trans q.symm)
      rw [if_pos e1] at h1; rw [if_neg e2] at h2
      cases h1
      exact fun q => newold t2 v2 e2 h2 k q hk
    · rw [if_neg e1] at h1
      by_cases e2 : t2 = word
      · rw [if_pos e2] at h2; cases h2
        exact newold t1 v1 e1 h1 k hk
      · rw [if_neg e2] at h2
        exact k4 t1 t2 v1 v2 k hne h1 h2 hk
  · have hkZ := hk.kept oZ (.inr (Nat.zero_le _))
    have hkw := hkZ.fx hfx fun q => by
      obtain ⟨cur9, h9⟩ := own_bl hownZ q
      have h8 := h9.symm.trans hkZ
      cases h8
    refine hkw.fx x fun q => ?_
    have q' : k = bu := q
    subst q'
    obtain ⟨es, clock, hb, _⟩ := c8
    have h8 := hb.symm.trans hkw
    cases h8
end
end Go.Proofs.YtcnjlbjpeklgkaaGreatDoor
