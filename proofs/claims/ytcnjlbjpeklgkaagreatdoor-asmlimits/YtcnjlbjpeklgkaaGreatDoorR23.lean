import Derived.Test.YtcnjlbjpeklgkaaGreatDoorR21
import Derived.Test.YtcnjlbjpeklgkaaGreatDoorR22
namespace Go.Proofs.YtcnjlbjpeklgkaaGreatDoor
open Go.RowKit Go.MapKept
set_option linter.unusedVariables false
set_option linter.unusedSimpArgs false

def hold : Sc → Nat
  | .gap => 0
  | .word w => w.length
  | .quo _ w => w.length
  | .esc _ w => w.length
  | .shut w => w.length
def one : Sc → Nat
  | .gap => 0
  | _ => 1
theorem ws_len (l : List Int) : ∀ (s : Sc) (r : List (List Int)), wsA s l = some r → (∀ w ∈ r, w.length ≤ hold s + l.length) ∧ r.length ≤ one s + l.length := by
  induction l with
  | nil =>
    intro s r h
    cases s <;> simp only [wsA] at h <;> cases h <;> simp [hold, one]
  | cons c l ih =>
    have key : ∀ (s s' : Sc) (r : List (List Int)), hold s' ≤ hold s + 1 → one s' ≤ one s + 1 → wsA s' l = some r → (∀ w ∈ r, w.length ≤ hold s + (l.length + 1)) ∧ r.length ≤ one s + (l.length + 1) := fun s s' r h1 h2 h3 => by
      have := ih s' r h3
      exact ⟨fun w hw => by have := this.1 w hw; omega, by have := this.2; omega⟩
    have key2 : ∀ (w : List Int) (r : List (List Int)), (wsA .gap l).map (w :: ·) = some r → (∀ v ∈ r, v.length ≤ w.length + (l.length + 1)) ∧ r.length ≤ 1 + (l.length + 1) := fun w r h => by
      obtain ⟨r', h', rfl⟩ := Option.map_eq_some_iff.1 h
      have := ih .gap r' h'
      refine ⟨fun v hv => ?_, by have := this.2; simp only [one, List.length_cons] at *; omega⟩
      rcases List.mem_cons.1 hv with rfl | hv
      · omega
      · have := this.1 v hv; simp only [hold] at this; omega
    have key3 : ∀ (w : List Int) (r : List (List Int)), some [w] = some r → (∀ v ∈ r, v.length ≤ w.length + (l.length + 1)) ∧ r.length ≤ 1 + (l.length + 1) := fun w r h => by
      cases h
      exact ⟨fun v hv => by obtain rfl : v = w := by simpa using hv
                            omega, by simp⟩
    intro s r h
    simp only [List.length_cons]
    cases s with
    | gap =>
      simp only [wsA] at h
      split at h
      · exact key _ _ _ (by simp [hold]) (by simp [one]) h
      · split at h
        · cases h; exact ⟨fun w hw => by simp at hw, by simp⟩
        · split at h
          · exact key _ _ _ (by simp [hold]) (by simp [one]) h
          · exact key _ _ _ (by simp [hold]) (by simp [one]) h
    | word w =>
      simp only [wsA] at h
      split at h
      · exact key2 w r h
      · split at h
        · exact key3 w r h
        · exact key _ _ _ (by simp [hold]) (by simp [one]) h
    | quo q w =>
      simp only [wsA] at h
      split at h
      · exact key _ _ _ (by simp [hold]) (by simp [one]) h
      · split at h
        · exact key _ _ _ (by simp [hold]) (by simp [one]) h
        · exact key _ _ _ (by simp [hold]) (by simp [one]) h
    | esc q w =>
      simp only [wsA] at h
      exact key _ _ _ (by simp [hold]) (by simp [one]) h
    | shut w =>
      simp only [wsA] at h
      split at h
      · exact key2 w r h
      · split at h
        · exact key3 w r h
        · cases h
/-- what a line does -/
def ReadR (s : Low) (t : List Int) (s' : Low) : Prop := match wsF t with
  | none => s' = { s with line := s.line + 1, bad := blm s.bad (s.line + 1) }
  | some ws => ∃ o, Say { s with line := s.line + 1 } ws o ∧ s' = o.getD { s with line := s.line + 1, bad := blm s.bad (s.line + 1) }
section
variable {p bl bu B : Nat} {w w' w2 : World} {s : Low}
/-- how an act ends, whatever its cells hold -/
def QD (R : Ending → World → Prop) : Exit → Act → World → Prop
  | .normal, a, w | .ret, a, w => Leaves Tryz.prog Tryz.f33 #[] R a.defers .returning w
  | .panic chain, a, w => Leaves Tryz.prog Tryz.f33 #[] R a.defers (.panicking chain) w
  | .outgrown, _, w => R .outgrown w
  | _, _, _ => False
theorem leaves_any {R : Ending → World → Prop} {t t' : Array Value} : ∀ (ds : List Deferred) (u : FrameMode) (w : World), Leaves Tryz.prog Tryz.f33 t R ds u w → Leaves Tryz.prog Tryz.f33 t' R ds u w
  | [], .returning, w, ⟨v, h, hR⟩ => by
    rw [results_none Tryz.results33] at h
    cases h
    exact ⟨_, results_none Tryz.results33 _ _ _, hR⟩
  | [], .panicking _, w, h => h
  | [], .run, w, h => h
  | d :: ds, u, w, ⟨hu, fv, cap, f, args, ht, hi, hc⟩ => ⟨hu, fv, cap, f, args, ht, hi, hc.mono fun e u' w' h => by
    cases e with
    | returned v => exact leaves_any ds _ _ h
    | panicked c => exact leaves_any ds _ _ h
    | outgrown => exact h⟩
theorem qd {R : Ending → World → Prop} {e : Exit} {a : Act} {w : World} (h : QD R e a w) : bodyPostD Tryz.prog Tryz.f33 R e a w := by
  cases e with
  | normal => exact leaves_any _ _ _ h
  | ret => exact leaves_any _ _ _ h
  | panic c => exact leaves_any _ _ _ h
  | outgrown => exact h
  | exit _ => exact h
  | goto _ => exact h
theorem dq {R : Ending → World → Prop} {e : Exit} {a : Act} {w : World} (h : bodyPostD Tryz.prog Tryz.f33 R e a w) : QD R e a w := by
  cases e with
  | normal => exact leaves_any _ _ _ h
  | ret => exact leaves_any _ _ _ h
  | panic c => exact leaves_any _ _ _ h
  | outgrown => exact h
  | exit _ => exact h
  | goto _ => exact h
theorem read_stop {R : Ending → World → Prop} (h : AL w p bl bu s) (hb : Bl w B #[.pointer (some ⟨p, 0, none⟩)] 113) {t : Array Value} {x : Deferred} (hx : x = { target := .fn (.func 61) #[.pointer (some ⟨B, 0, none⟩)], args := #[] })
    (hR : ∀ w', AL w' p bl bu { s with bad := blm s.bad s.line } → Fr p bl bu w w' → R (.returned (.tuple #[])) w') : bodyPostD Tryz.prog Tryz.f33 R (.panic [giveUp]) { tmps := t, defers := [x] } w := by
  subst hx
  (try simp)
  refine leaves_cons (f := 61) (args := #[.pointer (some ⟨B, 0, none⟩)]) (by simp) (by simp [go_sem]) ?_
  refine (catchA_stop h hb).mono ?_
  rintro e u' w9 ⟨rfl, rfl, ha, hf⟩
  exact leaves_ret (results_none Tryz.results33 _ _ _) (hR w9 ha hf)
theorem read_done {R : Ending → World → Prop} {t : Array Value} {x : Deferred} {b : Value} (hx : x = { target := .fn (.func 61) #[b], args := #[] }) (hR : R (.returned (.tuple #[])) w) : bodyPostD Tryz.prog Tryz.f33 R .normal { tmps := t, defers := [x] } w := by
  subst hx
  (try simp)
  refine leaves_cons (f := 61) (args := #[b]) (by simp) (by simp [go_sem]) ?_
  refine catchA_idle.mono ?_
  rintro e u' w9 ⟨rfl, rfl, rfl⟩
  exact leaves_ret (results_none Tryz.results33 _ _ _) hR
theorem Fr.far (h : Fr p bl bu w w') {k : Nat} (hk : k < p ∧ k < bl ∧ k < bu) : ¬ Sx p bl bu w k := by
  rintro (q | q | q | ⟨q, _⟩) <;> omega
theorem Fr.gm (h : Fr p bl bu w w') (hp : 9 ≤ p ∧ 9 ≤ bl ∧ 9 ≤ bu) (hG : Gm w) : Gm w' := by
  obtain ⟨⟨m, hm⟩, g1, g2⟩ := hG
  have far : ∀ {k o : Nat} {v : Value}, k < 9 → w.cell? ⟨k, o, none⟩ = some v → w'.cell? ⟨k, o, none⟩ = some v := fun hk hc => h.cell hc (h.far (by obtain ⟨h1, h2, h3⟩ := hp; exact ⟨Nat.lt_of_lt_of_le hk h1, Nat.lt_of_lt_of_le hk h2, Nat.lt_of_lt_of_le hk h3⟩))
  exact ⟨⟨m, far (by decide) hm⟩, fun c hc => far (by decide) (g1 c hc), fun i hi => ⟨far (by decide) (g2 i hi).1, far (by decide) (g2 i hi).2⟩⟩
theorem Fr.nt (h : Fr p bl bu w w') (hp : 9 ≤ p ∧ 9 ≤ bl ∧ 9 ≤ bu) (hT : Nt w) : Nt w' :=
  ⟨fun j v hj => h.cell (hT.1 j v hj) (h.far (by obtain ⟨h1, h2, h3⟩ := hp; refine ⟨Nat.lt_of_lt_of_le ?_ h1, Nat.lt_of_lt_of_le ?_ h2, Nat.lt_of_lt_of_le ?_ h3⟩ <;> decide)), fun j v hj => h.cell (hT.2 j v hj) (h.far (by obtain ⟨h1, h2, h3⟩ := hp; refine ⟨Nat.lt_of_lt_of_le ?_ h1, Nat.lt_of_lt_of_le ?_ h2, Nat.lt_of_lt_of_le ?_ h3⟩ <;> decide))⟩
theorem Sts.at {base n cap : Nat} {ta : Option Addr} {xs : List ByteArray} (h : Sts w base (.slice ta n cap) xs) : StAt w ta xs ∧ xs.length = n ∧ n ≤ cap := by
  have h2 := h.2
  rcases h2 with ⟨e, h0⟩ | ⟨g, c, cur, e, h1, h4, h5, h6, h7⟩
  · cases e
    exact ⟨.inl (List.eq_nil_of_length_eq_zero h0), h0, Nat.zero_le _⟩
  · cases e
    refine ⟨.inr ⟨g, 0, rfl, fun j x hj => ?_, cur, h4⟩, rfl, by omega⟩
    have : (xs.map Value.string)[j]? = some (.string x) := by rw [List.getElem?_map, hj]; rfl
    rw [Nat.zero_add]
    exact row_at this h
/-- the next line's number -/
theorem AL.next (h : AL w p bl bu s) : AL (w.setCell ⟨p, 6, none⟩ (.int .i64 ((s.line : Int) + 1))) p bl bu { s with line := s.line + 1 } ∧ w.frozen? ⟨p, 6, none⟩ = false := by
  obtain ⟨a1, a2, a3, ta, tc, fa, fc, nt, nf, vs, cs, e1, e2, b1, b2⟩ := h
  exact ⟨⟨a1, a2, a3, ta, tc, fa, fc, nt, nf, vs, cs, e1, e2, b1.set 6 _, b2.set a1 a2 6 _⟩, b1.frozen 6⟩
theorem words_few {x : ByteArray} {ws : List (List Int)} {xs : List ByteArray} (h : (∀ w ∈ ws, w.length ≤ hold .gap + (bt x).length) ∧ ws.length ≤ one .gap + (bt x).length) (hx : xs.map bt = ws) (hb : (bt x).length = x.size) (hs : x.size ≤ 1800000) : xs.length ≤ 1800000 ∧ ∀ y ∈ xs, y.size ≤ 1800000 := by
  subst hx
  simp only [hold, one, List.length_map] at h
  refine ⟨by have := h.2; omega, fun y hy => ?_⟩
  have := h.1 _ (List.mem_map.2 ⟨y, hy, rfl⟩)
  rw [bt_len] at this
  omega
set_option maxRecDepth 100000 in
set_option maxHeartbeats 4000000 in
theorem read_any (h : AL w p bl bu s) (x : ByteArray) (hs : x.size ≤ 1800000) (hG : Gm w) (hT : Nt w) (hl : Lim s) (hch : ∀ y, WdOk (bt y) → y.size ≤ 1800000 → ChOk y) (hli : s.line ≤ 1000000) (hpg : 9 ≤ p ∧ 9 ≤ bl ∧ 9 ≤ bu) :
    Calls Tryz.prog 33 #[.pointer (some ⟨p, 0, none⟩), .string x] w fun e w' => e = .returned (.tuple #[]) ∧ Fr p bl bu w w' ∧ ∃ s', ReadR s (bt x) s' ∧ AL w' p bl bu s' := by
  have hp : p < w.heap.size := by
    obtain ⟨ta, tc, fa, fc, nt, nf, vs, cs, ho⟩ := h.ao
    exact ho.2.1.lt
  have o1 : Out 0 0 w (w.alloc (.cells #[.pointer (some ⟨p, 0, none⟩)] 113)) := (Out.refl 0 0 w).alloc _
  have hbn := Bl.new w #[.pointer (some ⟨p, 0, none⟩)] 113
  obtain ⟨B, hB⟩ : ∃ B, w.heap.size = B := ⟨_, rfl⟩
  rw [hB] at hbn
  obtain ⟨V, hV⟩ : ∃ V, w.alloc (.cells #[.pointer (some ⟨p, 0, none⟩)] 113) = V := ⟨_, rfl⟩
  rw [hV] at o1 hbn
  have hA := h.out o1
  obtain ⟨hA1, hz⟩ := hA.next
  have c6 := hA.line
  have cB : V.cell? ⟨B, 0, none⟩ = some (.pointer (some ⟨p, 0, none⟩)) := hbn.cell rfl
  have hb1 : Bl (V.setCell ⟨p, 6, none⟩ (.int .i64 ((s.line : Int) + 1))) B #[.pointer (some ⟨p, 0, none⟩)] 113 := hbn.other (q := ⟨p, 6, none⟩) (by show p ≠ B; omega) _
  have HFr : Hid (Fr p bl bu w (V.setCell ⟨p, 6, none⟩ (.int .i64 ((s.line : Int) + 1)))) := hid_mk ((Fr.quiet o1).trans (Fr.set 6 _))
  have HA := hid_mk hA1
  have HB := hid_mk hb1
  have hGm : Hid (Gm (V.setCell ⟨p, 6, none⟩ (.int .i64 ((s.line : Int) + 1))) ∧ Nt (V.setCell ⟨p, 6, none⟩ (.int .i64 ((s.line : Int) + 1)))) := hid_mk ⟨HFr.out.gm hpg hG, HFr.out.nt hpg hT⟩
  have HL := hid_mk hl
  have hl0 : (0 : Int) ≤ (s.line : Int) := by omega
  have hl1 : (s.line : Int) ≤ 1000000 := by omega
  have HW := hid_mk (fun W => words_any x W hs)
  clear h hA hA1 hbn hb1 o1 hG hT hl hp
  go_enter_defers Tryz.func33, Tryz.ntmps33
  (try rw [hV])
  (try rw [hB])
  go_wp2_with fail
  (try rw [hV])
  (try rw [hB])
  generalize hW1 : V.setCell ⟨p, 6, none⟩ (.int .i64 ((s.line : Int) + 1)) = W1 at *
  clear hz c6 cB hV hW1
  refine Code.wp_mono (fun e a w h => qd h) ?_
  have cB : W1.cell? ⟨B, 0, none⟩ = some (.pointer (some ⟨p, 0, none⟩)) := HB.out.cell rfl
  cases hws : wsF (bt x) with
  | none =>
    have HN := hid_mk hws
    have HR : Hid (ReadR s (bt x) { s with line := s.line + 1, bad := blm s.bad (s.line + 1) }) := hid_mk (by unfold ReadR; rw [hws])
    clear hws
    refine wp_region_held_drew (S := fun w' => w'.cell? ⟨B, 0, none⟩ = some (.pointer (some ⟨p, 0, none⟩))) (by kernel_rfl) ?hS1 (fun hHeld => ?rest1)
    case hS1 => exact cB
    refine tk 0 ?_
    refine tk 1 ?_
    refine wpAnyH_ready (rs := [2]) (by kernel_rfl) (by simp) ?_
    refine AllReadyH.cons rfl (fun KK hK => ?_) AllReadyH.nil
    simp only [xa, xb, xc]
    go_simp
    go_at_call 65
    refine (HW.out _).mono ?_
    rintro e w5 ⟨o5, ⟨xs, ta, cap, hw, _⟩ | ⟨hw, rfl⟩⟩
    · exact absurd (hw.symm.trans HN.out) (by simp)
    have o6 := ((Out.refl 0 0 W1).drew).trans o5
    exact dq <| read_stop (HA.out.out o6) (HB.out.kept o6 (.inr (Nat.zero_le _))) rfl fun w' h1 h2 => ⟨rfl, (HFr.out.then o6).trans h2, _, HR.out, h1⟩
  | some ws =>
    have HN := hid_mk hws
    have HR : Hid (∀ o, Say { s with line := s.line + 1 } ws o → ReadR s (bt x) (o.getD { s with line := s.line + 1, bad := blm s.bad (s.line + 1) })) := hid_mk (fun o ho => by unfold ReadR; rw [hws]; exact ⟨o, ho, rfl⟩)
    have HLen := hid_mk (ws_len (bt x) .gap ws hws)
    have HOk := hid_mk (wsF_ok hws)
    have HCh := hid_mk hch
    have HS : Hid (x.size ≤ 1800000) := hid_mk hs
    have hxb : Hid ((bt x).length = x.size) := hid_mk (bt_len x)
    clear hws hch hs
    refine wp_region_held_drew (S := fun w' => w'.cell? ⟨B, 0, none⟩ = some (.pointer (some ⟨p, 0, none⟩))) (by kernel_rfl) ?hS4 (fun hHeld => ?rest4)
    case hS4 => exact cB
    refine tk 0 ?_
    refine tk 1 ?_
    refine wpAnyH_ready (rs := [2]) (by kernel_rfl) (by simp) ?_
    refine AllReadyH.cons rfl (fun KK hK => ?_) AllReadyH.nil
    simp only [xa, xb, xc]
    go_simp
    go_at_call 65
    refine (HW.out _).mono ?_
    rintro e w5 ⟨o5, ⟨xs, ta, cap, hw, rfl, hst⟩ | ⟨hw, rfl⟩⟩
    rotate_left
    · exact absurd (hw.symm.trans HN.out) (by simp)
    have o6 := ((Out.refl 0 0 W1).drew).trans o5
    have hxs : xs.map bt = ws := Option.some.inj (hw.symm.trans HN.out)
    refine hK.out _ _ ?hS7 (fun hHeld2 => ?rest7)
    case hS7 => exact (HB.out.kept o6 (.inr (Nat.zero_le _))).cell rfl
    clear hK KK
    (try clear hHeld)
    have hHeld := hHeld2
    clear hHeld2
    (try simp only [Act.put, xa, xb, xc, xd, xe, xf])
    refine wpAnyH_ready (rs := [3]) (by kernel_rfl) (by simp) ?_
    refine AllReadyH.cons rfl (fun KK hK => ?_) AllReadyH.nil
    simp only [xa, xb, xc]
    go_simp
    go_at_call 64
    refine (say_any (HA.out.out o6) xs ta xs.length cap rfl (words_few HLen.out hxs hxb.out HS.out).1 hst.at.2.2 hst.at.1 (fun y hy => ⟨HOk.out _ (hxs ▸ List.mem_map.2 ⟨y, hy, rfl⟩), (words_few HLen.out hxs hxb.out HS.out).2 y hy⟩) (fun y hy => HCh.out y (HOk.out _ (hxs ▸ List.mem_map.2 ⟨y, hy, rfl⟩)) ((words_few HLen.out hxs hxb.out HS.out).2 y hy)) (hGm.out.1.out o6) (hGm.out.2.out o6) HL.out).mono ?_
    rintro e w7 ⟨hf7, ⟨s2, hs2, rfl, ha7⟩ | ⟨hs2, rfl, ha7⟩⟩
    rotate_left
    · exact dq <| read_stop ha7 ((HA.out.out o6).keep (HB.out.kept o6 (.inr (Nat.zero_le _))) (by decide) (by unfold OwnT; decide) hf7) rfl fun w' h1 h2 => ⟨rfl, ((HFr.out.then o6).trans hf7).trans h2, _, HR.out none (hxs ▸ hs2), h1⟩
    have hb7 := (HA.out.out o6).keep (HB.out.kept o6 (.inr (Nat.zero_le _))) (by decide) (by unfold OwnT; decide) hf7
    refine hK.out _ _ ?hS8 (fun hHeld2 => ?rest8)
    case hS8 => exact hb7.cell rfl
    clear hK KK
    (try clear hHeld)
    have hHeld := hHeld2
    clear hHeld2
    (try simp only [Act.put, xa, xb, xc, xd, xe, xf])
    refine wpAnyH_done (by kernel_rfl) ?_ _
    exact dq <| read_done rfl ⟨rfl, (HFr.out.then o6).trans hf7, _, HR.out (some s2) (hxs ▸ hs2), ha7⟩
end
end Go.Proofs.YtcnjlbjpeklgkaaGreatDoor
namespace Go.Proofs.YtcnjlbjpeklgkaaGreatDoor
open Go.RowKit
set_option linter.unusedVariables false
set_option linter.unusedSimpArgs false

structure Rel (m : MkF) (s : Low) (k : Nat) : Prop where
  gl : s.gl = m.gl
  tx : s.tx = m.tx
  fs : s.fs = rsv m.lab m.fn m.use
  L : ∀ t, s.L t = (m.lab.find? (fun l => l.1 == t)).map (·.2)
  U : ∀ t, s.U t = pnd m.lab m.use t
  beg : m.began = false ↔ (s.hg = false ∧ s.tx = [] ∧ s.fs = [])
  ins : m.inside = false ↔ m.fn = []
  non : m.fn = [] → m.use = []
  idx : m.use.Pairwise (fun u v => u.1 < v.1)
  lin : m.use.Pairwise (fun u v => u.2.1 ≤ v.2.1)
  rng : ∀ u ∈ m.use, u.1 < lenI m.fn ∧ u.2.1 ≠ 0 ∧ u.2.1 ≤ k ∧ ∃ b : ByteArray, u.2.2 = bt b
  line : s.line = k
  bad : s.bad = m.bad
theorem Rel.zero : Rel MkF.zero ⟨0, [], [], false, fun _ => none, fun _ => [], 0, 0⟩ 0 where
  gl := rfl
  tx := rfl
  fs := rfl
  L := fun t => rfl
  U := fun t => by simp [MkF.zero, pnd]
  beg := by simp [MkF.zero]
  ins := by simp [MkF.zero]
  non := fun _ => rfl
  idx := List.Pairwise.nil
  lin := List.Pairwise.nil
  rng := fun u hu => by simp [MkF.zero] at hu
  line := rfl
  bad := rfl
theorem Rel.nil {m : MkF} {s : Low} {k : Nat} (h : Rel m s k) : s.fs = [] ↔ m.inside = false := by
  rw [h.ins, h.fs]
  constructor
  · intro q
    rcases Classical.em (m.fn = []) with e | e
    · exact e
    · exact absurd q (rsv_ne m.lab m.use e).1
  · intro q
    rw [q, h.non q]; rfl
theorem Rel.len {m : MkF} {s : Low} {k : Nat} (h : Rel m s k) (hne : m.fn ≠ []) : lenI s.fs = lenI m.fn := by rw [h.fs]; exact (rsv_ne m.lab m.use hne).2
/-- a line that is wrong -/
theorem Rel.wrong {m : MkF} {s : Low} {k : Nat} (h : Rel m s k) : Rel (m.wrong (k + 1)) { s with line := s.line + 1, bad := blm s.bad (s.line + 1) } (k + 1) := by
  rw [(wrong_bad m (k + 1)).2]
  exact { gl := h.gl, tx := h.tx, fs := h.fs, L := h.L, U := h.U, beg := h.beg, ins := h.ins, non := h.non, idx := h.idx, lin := h.lin, rng := fun u hu => ⟨(h.rng u hu).1, (h.rng u hu).2.1, by have := (h.rng u hu).2.2.1; omega, (h.rng u hu).2.2.2⟩, line := by show s.line + 1 = k + 1; rw [h.line], bad := by show blm s.bad (s.line + 1) = blm m.bad (k + 1); rw [h.bad, h.line] }
theorem Rel.up {m : MkF} {s : Low} {k : Nat} (h : Rel m s k) : Rel m { s with line := s.line + 1 } (k + 1) :=
  { gl := h.gl, tx := h.tx, fs := h.fs, L := h.L, U := h.U, beg := h.beg, ins := h.ins, non := h.non, idx := h.idx, lin := h.lin, rng := fun u hu => ⟨(h.rng u hu).1, (h.rng u hu).2.1, by have := (h.rng u hu).2.2.1; omega, (h.rng u hu).2.2.2⟩, line := by show s.line + 1 = k + 1; rw [h.line], bad := h.bad }
/-- a label -/
theorem Rel.mark {m : MkF} {s : Low} {k : Nat} (h : Rel m s k) (nm : List Int) : (markG s nm [] = none ↔ m.mark nm = none) ∧ ∀ s', markG s nm [] = some s' → ∃ m', m.mark nm = some m' ∧ Rel m' s' k := by
  have hL := h.L nm
  by_cases hc : nmB nm ∧ m.inside = true ∧ m.lab.find? (fun l => l.1 == nm) = none
  · obtain ⟨h1, h2, h3⟩ := hc
    have hn : ¬ s.fs = [] := fun q => by rw [h.nil] at q; rw [h2] at q; cases q
    have hfn : m.fn ≠ [] := fun q => by rw [h.ins.2 q] at h2; cases h2
    have hm : m.mark nm = some { m with lab := m.lab ++ [(nm, (lenI m.fn : Int))] } := by unfold MkF.mark; rw [if_pos ⟨h1, h2, h3⟩]
    rw [h3] at hL
    have hg : markG s nm [] = some { s with L := updL s.L nm (lenI s.fs), fs := (s.U nm).foldl (fun fs u => setA fs u.2 (lenI s.fs)) s.fs, U := noU s.U nm } := by
      unfold markG; rw [if_neg (by simp [hn, h1, hL])]
    rw [hm, hg]
    refine ⟨by simp, fun s' e => ⟨_, rfl, ?_⟩⟩
    cases e
    have hfind : ∀ t, (m.lab ++ [(nm, (lenI m.fn : Int))]).find? (fun l => l.1 == t) = if t = nm then some (nm, (lenI m.fn : Int)) else m.lab.find? (fun l => l.1 == t) := fun t => by
      rw [List.find?_append]
      by_cases e : t = nm
      · subst e
        rw [h3, if_pos rfl]; simp
      · rw [if_neg e]
        have : (nm == t) = false := by simp only [beq_eq_false_iff_ne, ne_eq]; exact fun q => e q.symm
        simp [List.find?, this]
    exact { gl := h.gl, tx := h.tx
            fs := by
              show (s.U nm).foldl _ s.fs = rsv (m.lab ++ [(nm, (lenI m.fn : Int))]) m.fn m.use
              rw [rsv_mark h3 m.use hfn h.idx, h.U, h.len hfn, h.fs]
            L := fun t => by
              show updL s.L nm (lenI s.fs) t = _
              unfold updL
              rw [hfind]
              by_cases e : t = nm
              · rw [if_pos e, if_pos e, h.len hfn]; rfl
              · rw [if_neg e, if_neg e]; exact h.L t
            U := fun t => by
              show noU s.U nm t = _
              unfold noU pnd
              rw [hfind]
              by_cases e : t = nm
              · rw [if_pos e, if_pos e]; simp
              · rw [if_neg e, if_neg e]; exact h.U t
            beg := by
              have := h.beg
              rw [this]
              constructor
              · intro q; exact absurd q.2.2 hn
              · intro q
                have q2 : (s.U nm).foldl (fun fs u => setA fs u.2 (lenI s.fs)) s.fs = [] := q.2.2
                exfalso
                rw [h.U, h.len hfn, h.fs, ← rsv_mark h3 m.use hfn h.idx] at q2
                exact (rsv_ne _ m.use hfn).1 q2
            ins := h.ins, non := h.non, idx := h.idx, lin := h.lin, rng := h.rng, line := h.line, bad := h.bad }
  · have hm : m.mark nm = none := by unfold MkF.mark; rw [if_neg hc]
    have hg : markG s nm [] = none := by
      unfold markG
      rw [if_pos]
      by_cases q1 : s.fs = []
      · exact .inl q1
      · by_cases q2 : nmB nm = false
        · exact .inr (.inr (.inl q2))
        · refine .inr (.inr (.inr fun q3 => hc ⟨by simpa using q2, ?_, ?_⟩))
          · rw [h.nil] at q1; simpa using q1
          · rw [q3] at hL
            cases hf : m.lab.find? (fun l => l.1 == nm) with
            | none => rfl
            | some l => rw [hf] at hL; cases hL
    rw [hm, hg]
    exact ⟨by simp, fun s' e => by cases e⟩
end Go.Proofs.YtcnjlbjpeklgkaaGreatDoor
