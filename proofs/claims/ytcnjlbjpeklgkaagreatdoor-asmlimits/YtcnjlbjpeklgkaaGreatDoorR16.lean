import Derived.Test.YtcnjlbjpeklgkaaGreatDoorR15
import Derived.Test.YtcnjlbjpeklgkaaGreatDoorR02
namespace Go.Proofs.YtcnjlbjpeklgkaaGreatDoor
open Go.RowKit Go.MapKept
set_option linter.unusedVariables false
set_option linter.unusedSimpArgs false

section
variable {p bl bu : Nat} {w w' w2 : World} {s : Low}
theorem inf_at {fa : Option Addr} {nf fc : Nat} (k2 : w.cell? ⟨p, 2, none⟩ = some (.slice fa nf fc)) {b : Bool} (hb : b = decide (0 < nf)) : Calls Tryz.prog 100 #[.pointer (some ⟨p, 0, none⟩)] w fun x w' => x = .returned (.bool b) ∧ w' = w := by
  have HB := hid_mk hb
  clear hb
  go_enter Tryz.func100, Tryz.ntmps100
  go_wp2
  go_ret
  refine ⟨ret_bool ?_, rfl⟩
  rw [HB.out]
set_option maxRecDepth 100000 in
/-- the last function -/
theorem fun_at {q nf m fc : Nat} (k2 : w.cell? ⟨p, 2, none⟩ = some (.slice (some ⟨q, 0, none⟩) nf fc)) (hm : nf = m + 1) (hn : nf ≤ 1000000) : Calls Tryz.prog 123 #[.pointer (some ⟨p, 0, none⟩)] w fun x w' => x = .returned (.pointer (some ⟨q, m * 4, none⟩)) ∧ Out 0 0 w w' := by
  have HI := hid_mk (inf_at k2 (b := true) (decide_eq_true (by omega)).symm)
  have hw : IntKind.i64.wrap ((nf : Int) - 1) = (m : Int) := by simp [IntKind.wrap, IntKind.signed, IntKind.bits]; omega
  have hlt : (m : Int) < (nf : Int) := by omega
  have h0 : (0 : Int) ≤ (m : Int) := by omega
  clear hm hn
  go_enter Tryz.func123, Tryz.ntmps123
  go_wp2_with (first | (go_at_call 100; refine calls_same HI.out ?_) | (go_at_call 104; refine calls_same (awant_yes _) ?_))
  refine wp_region_held_drew (S := fun w' => w'.cell? ⟨p, 2, none⟩ = some (.slice (some ⟨q, 0, none⟩) nf fc)) (by kernel_rfl) ?hS1 (fun hHeld => ?rest1)
  case hS1 => exact k2
  refine tk 0 ?_
  refine tk 1 ?_
  refine tk 2 ?_
  refine tk 3 ?_
  refine tk 4 ?_
  refine tk 5 ?_
  refine tk 6 ?_
  refine tk 7 ?_
  refine tk 8 ?_
  refine tk 9 ?_
  refine tk 10 ?_
  refine tk 11 ?_
  refine tk 12 ?_
  refine tk 13 ?_
  refine wpAnyH_done (by kernel_rfl) ?_ _
  go_wp2
  go_ret
  exact ⟨rfl, (Out.refl _ _ _).drew⟩
theorem fun_no {fa : Option Addr} {fc : Nat} (k2 : w.cell? ⟨p, 2, none⟩ = some (.slice fa 0 fc)) : Calls Tryz.prog 123 #[.pointer (some ⟨p, 0, none⟩)] w fun x w' => x = .panicked [giveUp] ∧ w' = w := by
  have HI := hid_mk (inf_at k2 (b := false) rfl)
  go_enter Tryz.func123, Tryz.ntmps123
  go_wp2_with (first | (go_at_call 100; refine calls_same HI.out ?_) | (go_at_call 104; refine calls_stop (awant_no _) ?_))
  exact ⟨rfl, rfl, rfl⟩
end
end Go.Proofs.YtcnjlbjpeklgkaaGreatDoor
namespace Go.Proofs.YtcnjlbjpeklgkaaGreatDoor
open Go.RowKit Go.MapKept
set_option linter.unusedVariables false
set_option linter.unusedSimpArgs false

/-- clear of a map whose run is known -/
theorem wpList_clr {P : Program} {w w' : World} {ops : Array Oper} {rest : List Oper} {o : Oper} {a : Act} {Q : Exit → Act → World → Prop} {xv v : Value}
    (hg : o.guard = none) (x : Operand) (t : TypeId) (hop : o.op = Op.call { callee := Callee.builtin Builtin.clear, args := #[x], argTypes := #[t] }) (hx : a.eval x = xv) (hrun : (Builtin.clear_ #[t] o.type #[xv]).run P w = .ok v w')
    (hK : wpList P ops Q rest (a.put o.dst v) w') : wpList P ops Q (o :: rest) a w := by
  refine wpList_plain hg fun K hK' => ?_
  unfold Oper.wp
  simp [execOp, hop, resolve, invoke, builtin, hx, hrun, Result.andThen]
  exact hK' _ _ hK
/-- the least of what was wrong and of the first lines of the open uses that were seen -/
def LeastG (b b0 : Nat) (U : List Int → List (Nat × Nat)) (g : ByteArray → Option Value) (L : ByteArray → Bool) : Prop :=
  (b0 ≠ 0 → b ≠ 0 ∧ b ≤ b0) ∧ (∀ s v x r, g s = some v → L s = false → U (bt s) = x :: r → b ≠ 0 ∧ b ≤ x.1) ∧ (b = b0 ∨ ∃ s x r, U (bt s) = x :: r ∧ b = x.1)
def LeastU (b b0 : Nat) (U : List Int → List (Nat × Nat)) : Prop :=
  (b0 ≠ 0 → b ≠ 0 ∧ b ≤ b0) ∧ (∀ s x r, U (bt s) = x :: r → b ≠ 0 ∧ b ≤ x.1) ∧ (b = b0 ∨ ∃ s x r, U (bt s) = x :: r ∧ b = x.1)
theorem blm_le {b l : Nat} (hl : l ≠ 0) : blm b l ≠ 0 ∧ blm b l ≤ l ∧ (b ≠ 0 → blm b l ≤ b) ∧ (blm b l = b ∨ blm b l = l) := by
  unfold blm
  split <;> omega
theorem LeastG.step {b b0 : Nat} {U : List Int → List (Nat × Nat)} {g : ByteArray → Option Value} {L : ByteArray → Bool} {t : ByteArray} {x : Nat × Nat} {r : List (Nat × Nat)} (h : LeastG b b0 U g L) (hx : U (bt t) = x :: r) (hl : x.1 ≠ 0) : LeastG (blm b x.1) b0 U g (fun s => L s && decide (s ≠ t)) := by
  obtain ⟨h1, h2, h3⟩ := h
  obtain ⟨k1, k2, k3, k4⟩ := blm_le (b := b) hl
  refine ⟨fun q => ⟨k1, ?_⟩, fun s v y r' hg hL hU => ⟨k1, ?_⟩, ?_⟩
  · have := h1 q; have := k3 this.1; omega
  · by_cases e : s = t
    · subst e
      rw [hx] at hU
      cases hU
      exact k2
    · have hL' : L s = false := by simpa [e] using hL
      have := h2 s v y r' hg hL' hU
      have := k3 this.1
      omega
  · rcases k4 with k4 | k4
    · rw [k4]; exact h3
    · exact .inr ⟨t, x, r, hx, k4⟩
section
variable {p bl bu : Nat} {w w' w2 : World} {s : Low}
/-- a row is no map -/
theorem own_mq {lo b : Nat} {E : TypeId} {sz n : Nat} {v : Value} {xs : List Value} {f : ByteArray → Option Value} (h : w.ownsRow lo E sz v n xs) (hm : MqAt w b f) {k : Nat} (hk : v.ownBlock = some k) : k ≠ b := by
  rintro rfl
  obtain ⟨es, clock, hb, _⟩ := hm
  rcases h.2 with ⟨rfl, _⟩ | ⟨q, c, cur, rfl, _, q2, _⟩
  · cases hk
  · cases hk
    rw [hb] at q2
    cases q2
theorem tl_mq {lo b : Nat} {vs : List Value} {ts : List (List Int)} {f : ByteArray → Option Value} (h : TL w lo [] vs ts) (hm : MqAt w b f) {j : Nat} {v : Value} {t : List Int} {k : Nat} (h1 : vs[j]? = some v) (h2 : ts[j]? = some t) (hk : v.ownBlock = some k) : k ≠ b ∧ lo ≤ k := by
  have ho := (h.2 j v t h1 h2).ob hk
  obtain ⟨_, a, c, rfl, hw⟩ := h.2 j v t h1 h2
  exact ⟨own_mq hw hm (by rw [← hk]; exact ob_len), ho.1⟩
theorem cl_mq {lo b : Nat} {cs : List Value} {fs : List FnF} {f : ByteArray → Option Value} (h : CL w lo [] cs fs) (hm : MqAt w b f) {j : Nat} {v : Value} {t : FnF} {k : Nat} (h1 : cs[j]? = some v) (h2 : fs[j]? = some t) (hk : v.ownBlock = some k) : k ≠ b ∧ lo ≤ k := by
  have ho := (h.2.1 j v t h1 h2).ob hk
  obtain ⟨a, c, rfl, hw⟩ := h.2.1 j v t h1 h2
  exact ⟨own_mq hw hm (by rw [← hk]; exact ob_len), ho.1⟩
/-- the maps are others -/
theorem AR.maps {ta fa : Option Addr} {tc fc nt nf : Nat} {vs cs : List Value} (h : AR w p bl bu ta tc fa fc nt nf vs cs s) (x : Fx (fun k => k = p ∨ k = bu ∨ k = bl) w w') {s' : Low} (e1 : s'.tx = s.tx) (e2 : s'.fs = s.fs) (hl : MqAt w' bl (fun t => (s'.L (bt t)).map (Value.int .i64 ·))) (hu : UsAt w' (p + 1) bu s'.U) : AR w' p bl bu ta tc fa fc nt nf vs cs s' := by
  obtain ⟨b2, b3, b4, b5, b6, b7, g, b8, _⟩ := h
  refine ⟨own_fx b2 x fun k hk => ?_, ?_, b4, ?_, ?_, hl, hu⟩
  · have := (own_ge b2 hk).1; have := own_mq b2 b7 hk; have := own_mq b2 b8 hk; omega
  · rw [e1]
    exact b3.fx x fun j v t k q1 q2 q3 => by have := tl_mq b3 b7 q1 q2 q3; have := tl_mq b3 b8 q1 q2 q3; omega
  · rw [e2]
    exact own_fx b5 x fun k hk => by have := (own_ge b5 hk).1; have := own_mq b5 b7 hk; have := own_mq b5 b8 hk; omega
  · rw [e2]
    exact b6.fx x fun j v t k q1 q2 q3 => by have := cl_mq b6 b7 q1 q2 q3; have := cl_mq b6 b8 q1 q2 q3; omega
set_option maxRecDepth 100000 in
set_option maxHeartbeats 2000000 in
/-- the last function's labels are forgotten -/
theorem leave_any (h : AL w p bl bu s) (hU : ∀ t x, x ∈ s.U (bt t) → x.1 ≠ 0) (hlen : ∀ t, (s.U (bt t)).length ≤ 1000000) : Calls Tryz.prog 35 #[.pointer (some ⟨p, 0, none⟩)] w fun x w' => x = .returned (.tuple #[]) ∧ (∃ b, LeastU b s.bad s.U ∧ AL w' p bl bu { s with L := fun _ => none, U := fun _ => [], bad := b }) ∧ Fr p bl bu w w' := by
  obtain ⟨a1, a2, a3, ta, tc, fa, fc, nt, nf, vs, cs, e1, e2, b1, b2⟩ := h
  have HAR := hid_mk b2
  obtain ⟨c2, c3, c4, c5, c6, c7, g, k1, k2, k3, k4⟩ := b2
  have d5 : w.cell? ⟨p, 5, none⟩ = some (.map (some bu)) := b1.cell rfl
  obtain ⟨w0, cnt0, hrg, hR0, o0⟩ := RQ.start (P := Tryz.prog) k1 Tryz.underlying75
  have HA := hid_mk (And.intro a1 (And.intro a2 a3))
  have HE := hid_mk (And.intro e1 e2)
  have HB := hid_mk b1
  have HC := hid_mk (And.intro c2 (And.intro c3 (And.intro c4 (And.intro c5 (And.intro c6 c7)))))
  have HK2 := hid_mk k2
  have HK3 := hid_mk k3
  have HU := hid_mk hU
  have HR0 := hid_mk (And.intro hR0 o0)
  have HN := hid_mk hlen
  clear a1 a2 a3 e1 e2 b1 c2 c3 c4 c5 c6 c7 k1 k2 k3 k4 hU hR0 o0 hlen
  go_enter Tryz.func35, Tryz.ntmps35
  go_wp2
  obtain ⟨ri, hri⟩ : ∃ ri, w.heap.size = ri := ⟨_, rfl⟩
  have HRi := hid_mk hri
  (try rw [hri])
  have HR1 : Hid (RQ w0 bu ri g (fun _ => true) cnt0 ∧ Out 0 0 w w0) := hid_mk (by rw [← hri]; exact HR0.out)
  clear hri hrg d5 HR0
  go_loopw [3] (fun _ wr => ∃ L cnt b, RQ wr bu ri g L cnt ∧ LeastG b s.bad s.U g L ∧ Bl wr p (AC bl bu ta tc fa fc nt nf { s with bad := b }) 77 ∧ Out p (p + 1) w wr) (fun _ wr => wr.rangeLeft bu ri)
  case atStart =>
    refine ⟨_, _, s.bad, HR1.out.1, ⟨fun q => ⟨q, Nat.le_refl _⟩, fun _ _ _ _ _ q => by simp at q, .inl rfl⟩, HB.out.kept HR1.out.2 (.inr (Nat.zero_le _)), HR1.out.2.any _ _⟩
  case round =>
    obtain ⟨L, cnt, b, hR, hL, hB, hO⟩ := hrel
    rcases hR.next (P := Tryz.prog) 0 with ⟨hD, hnx⟩ | ⟨t, v, w1, cnt', ht, hLt, hnx, hR', hlt, xr, hen⟩
    · have HL : Hid (LeastU b s.bad s.U) := hid_mk ⟨hL.1, fun t x r q => by
        cases hg : g t with
        | none => rw [HK3.out t hg] at q; cases q
        | some v => exact hL.2.1 t v x r hg (hD t v hg) q, hL.2.2⟩
      have d5 : wr.cell? ⟨p, 5, none⟩ = some (.map (some bu)) := hB.cell rfl
      have d4 : wr.cell? ⟨p, 4, none⟩ = some (.map (some bl)) := hB.cell rfl
      obtain ⟨w3, hrun3, hm3, o3⟩ := mq_clear (P := Tryz.prog) (ty := 0) Tryz.underlying75 hR.mp
      have hne : p ≠ bu := by have := HA.out.2.1; omega
      have hnl : p ≠ bl := by have := HA.out.1; omega
      have hB3 := hB.kept o3 (by omega)
      have d4' : w3.cell? ⟨p, 4, none⟩ = some (.map (some bl)) := hB3.cell rfl
      have hml : MqAt wr bl (fun t => (s.L (bt t)).map (Value.int .i64 ·)) := HC.out.2.2.2.2.2.kept hO (by have := HA.out.1; omega)
      obtain ⟨w4, hrun4, hm4, o4⟩ := mq_clear (P := Tryz.prog) (ty := 0) Tryz.underlying74 (hml.kept o3 (by have := HA.out.2.2; omega))
      have HF : Hid (Bl w4 p (AC bl bu ta tc fa fc nt nf { s with bad := b }) 77 ∧ AR w4 p bl bu ta tc fa fc nt nf vs cs { s with L := fun _ => none, U := fun _ => [], bad := b } ∧ Fr p bl bu w w4) := by
        refine hid_mk ⟨hB3.kept o4 (by omega), ?_, ((Fr.pp hO).trans (Fr.mapu HA.out.2.1 o3)).trans (Fr.mapl HA.out.1 o4)⟩
        have hx : Fx (fun k => k = p ∨ k = bu ∨ k = bl) w w4 := by
          have x1 : Fx (fun k => k = p ∨ k = bu ∨ k = bl) w wr := ⟨hO.1, hO.2.1, hO.2.2.1, hO.size, fun k q1 q2 => hO.block q1 (by omega)⟩
          have x2 : Fx (fun k => k = p ∨ k = bu ∨ k = bl) wr w3 := ⟨o3.1, o3.2.1, o3.2.2.1, o3.size, fun k q1 q2 => o3.block q1 (by omega)⟩
          have x3 : Fx (fun k => k = p ∨ k = bu ∨ k = bl) w3 w4 := ⟨o4.1, o4.2.1, o4.2.2.1, o4.size, fun k q1 q2 => o4.block q1 (by omega)⟩
          exact (x1.trans x2).trans x3
        exact HAR.out.maps hx rfl rfl (hm4.congr fun _ => rfl) ⟨fun _ => none, hm3.kept o4 (by have := HA.out.2.2; omega), (fun _ _ q => by cases q), (fun _ _ => rfl), (fun _ _ _ _ _ _ q => by cases q)⟩
      clear hL hR hD hO hB hB3 hml hm3 hm4 o3 o4 hne hnl
      go_wp2_with (at_builtin; first | refine wpList_clr rfl _ _ rfl rfl hrun3 ?_ | refine wpList_clr rfl _ _ rfl rfl hrun4 ?_)
      exact bodyPost_end (results_none Tryz.results35 _ _ _) rfl ⟨rfl, ⟨b, HL.out, HA.out.1, HA.out.2.1, HA.out.2.2, ta, tc, fa, fc, nt, nf, vs, cs, HE.out.1, HE.out.2, HF.out.1, HF.out.2.1⟩, HF.out.2.2⟩
    · obtain ⟨hne, how⟩ := HK2.out t v ht
      obtain ⟨x, r, hx⟩ : ∃ x r, s.U (bt t) = x :: r := by
        cases e : s.U (bt t) with
        | nil => exact absurd e hne
        | cons x r => exact ⟨x, r, rfl⟩
      have how1 : w1.ownsRow (p + 1) 118 2 v (s.U (bt t)).length (ucl (s.U (bt t))) := by
        refine own_fx (own_fx how (S := fun k => k = p) ⟨hO.1, hO.2.1, hO.2.2.1, hO.size, fun k q1 q2 => hO.block q1 (by omega)⟩ fun k hk => by have := (own_ge how hk).1; omega) xr fun k hk => ?_
        have := (own_ge how hk).2
        have := HRi.out
        omega
      obtain ⟨n, hn⟩ : ∃ n, (s.U (bt t)).length = n := ⟨_, rfl⟩
      have hn0 : 0 < n := by rw [← hn, hx]; simp
      rw [hn] at how1
      obtain ⟨q, c, rfl, _, _⟩ := how1.form hn0
      have c0 := how1.cells (g := q) rfl 0 (.int .i64 (x.1 : Int)) (by rw [hx]; rfl)
      simp only [Addr.add_lit, Nat.add_zero] at c0
      have hBo : Bl w1 p (AC bl bu ta tc fa fc nt nf { s with bad := b }) 77 := hB.fx xr (by have := hB.lt; have := HRi.out; have := HB.out.lt; omega)
      have HBl := hid_mk (blame_at hBo x.1)
      have hUx := HU.out t x (by rw [hx]; simp)
      have HS := hid_mk (And.intro hR' (And.intro hlt (And.intro hR.left (And.intro hL (And.intro hx (And.intro hUx (And.intro hO xr)))))))
      have hn0' : (0 : Int) < (n : Int) := by omega
      clear hne how hBo how1 hR' hlt hR hL hB hO xr hx hUx hLt ht hn hn0
      go_wp2_with (go_at_call 63; refine HBl.out.mono ?_; rintro e w2 ⟨rfl, hB2, o2⟩)
      obtain ⟨h1, h2, h3, h4, h5, h6, h7, h8⟩ := HS.out
      have hR2 : RQ w2 bu ri g (fun z => L z && decide (z ≠ t)) cnt' := h1.fx (S := fun k => k = p) ⟨o2.1, o2.2.1, o2.2.2.1, o2.size, fun k q1 q2 => o2.block q1 (by omega)⟩ (by have := HA.out.2.1; omega) (by have := HRi.out; have := HB.out.lt; omega)
      refine ⟨⟨_, _, blm b x.1, hR2, h4.step h5 h6, hB2, ?_⟩, by rw [hR2.left, h3]; exact h2⟩
      refine Out.trans (h7.past (lo := ri) (hi := ri + 1) ⟨h8.1, h8.2.1, h8.2.2.1, h8.size, fun k q1 q2 => h8.2.2.2.2 k q1 (by omega)⟩ (by rw [HRi.out]; exact Nat.le_refl _)) o2
end
end Go.Proofs.YtcnjlbjpeklgkaaGreatDoor
namespace Go.Proofs.YtcnjlbjpeklgkaaGreatDoor
open Go.RowKit Go.MapKept
set_option linter.unusedVariables false
set_option linter.unusedSimpArgs false

section
variable {p bl bu : Nat} {w w' w2 : World} {s : Low}
theorem nums_one {xs : List ByteArray} {ns : List Int} (h : numsF (xs.map bt) 1 = some ns) (hl : ns.length = 1) : ∃ n, ns = [n] := by
  match ns, hl with
  | [n], _ => exact ⟨n, rfl⟩
set_option maxRecDepth 100000 in
set_option maxHeartbeats 2000000 in
/-- a line globals -/
theorem glob_any (h : AL w p bl bu s) (xs : List ByteArray) (a : Option Addr) (m c : Nat) (hm : xs.length = m) (hm2 : m ≤ 1900000) (hx : StAt w a xs) :
    Calls Tryz.prog 98 #[.pointer (some ⟨p, 0, none⟩), .slice a m c] w fun x w' => Fr p bl bu w w' ∧ ((∃ n, (s.hg = false ∧ s.tx = [] ∧ s.fs = []) ∧ numsF (xs.map bt) 1 = some [n] ∧ x = .returned (.tuple #[]) ∧ AL w' p bl bu { s with gl := n, hg := true }) ∨ ((¬ (s.hg = false ∧ s.tx = [] ∧ s.fs = []) ∨ numsF (xs.map bt) 1 = none) ∧ x = .panicked [giveUp] ∧ AL w' p bl bu s)) := by
  obtain ⟨a1, a2, a3, ta, tc, fa, fc, nt, nf, vs, cs, e1, e2, b1, b2⟩ := h
  have k3 : w.cell? ⟨p, 3, none⟩ = some (.bool s.hg) := b1.cell rfl
  have k1 : w.cell? ⟨p, 1, none⟩ = some (.slice ta nt tc) := b1.cell rfl
  have k2 : w.cell? ⟨p, 2, none⟩ = some (.slice fa nf fc) := b1.cell rfl
  have HA := hid_mk (And.intro a1 (And.intro a2 a3))
  have HE := hid_mk (And.intro e1 e2)
  have HB := hid_mk b1
  have HR := hid_mk b2
  have HN := hid_mk (fun w hx => nums_any xs a m c 1 hm hm2 (by decide) w hx)
  have HX := hid_mk hx
  have no : Hid (AL w p bl bu s) := hid_mk ⟨a1, a2, a3, ta, tc, fa, fc, nt, nf, vs, cs, e1, e2, b1, b2⟩
  clear a1 a2 a3 b1 b2 hm hm2 hx
  cases hg : s.hg with
  | true =>
    rw [hg] at k3
    have Hg := hid_mk hg
    clear hg e1 e2 HN
    go_enter Tryz.func98, Tryz.ntmps98
    go_wp2_with (go_at_call 104; refine calls_stop (awant_no _) ?_)
    exact ⟨rfl, Fr.refl _ _ _ _, .inr ⟨.inl (fun q => by cases q.1), rfl, no.out⟩⟩
  | false =>
    rw [hg] at k3
    have Hg := hid_mk hg
    clear hg
    by_cases ht : nt = 0
    · have t0 : ((nt : Int) == 0) = true := by rw [ht]; rfl
      have Ht : Hid (s.tx = []) := hid_mk (List.eq_nil_of_length_eq_zero (by omega))
      by_cases hf : nf = 0
      · have HI := hid_mk (inf_at k2 (b := false) (by rw [hf]; rfl))
        have Hf : Hid (s.fs = []) := hid_mk (List.eq_nil_of_length_eq_zero (by omega))
        clear ht hf e1 e2
        go_enter Tryz.func98, Tryz.ntmps98
        go_wp2_with (first | (go_at_call 100; refine calls_same HI.out ?_) | (go_at_call 104; refine calls_same (awant_yes _) ?_))
        refine (HN.out _ HX.out).mono ?_
        rintro e w2 ⟨o2, ⟨ns, g, hns, hl, rfl, hb⟩ | ⟨hns, rfl⟩⟩
        · obtain ⟨n, rfl⟩ := nums_one hns hl
          have HO := hid_mk o2
          have HNs := hid_mk hns
          have d0 : w2.cell? ⟨g, 0, none⟩ = some (.int .i64 n) := hb.cell rfl
          have hB2 := HB.out.kept o2 (.inr (Nat.zero_le _))
          have c0 : w2.cell? ⟨p, 0, none⟩ = some (.int .i64 s.gl) := hB2.cell rfl
          have z0 := hB2.frozen 0
          have hB3 := hB2.set 0 (.int .i64 n)
          have c3 : (w2.setCell ⟨p, 0, none⟩ (.int .i64 n)).cell? ⟨p, 3, none⟩ = some (.bool s.hg) := hB3.cell rfl
          have z3 := hB3.frozen 3
          have HF : Hid (AL ((w2.setCell ⟨p, 0, none⟩ (.int .i64 n)).setCell ⟨p, 3, none⟩ (.bool true)) p bl bu { s with gl := n, hg := true }) := hid_mk ⟨HA.out.1, HA.out.2.1, HA.out.2.2, ta, tc, fa, fc, nt, nf, vs, cs, HE.out.1, HE.out.2, hB3.set 3 (.bool true), ((HR.out.out HA.out.1 HA.out.2.1 o2).set HA.out.1 HA.out.2.1 0 _).set HA.out.1 HA.out.2.1 3 _⟩
          clear o2 hns hb hl hB2 hB3 k1 k2 k3
          go_wp2
          exact bodyPost_end (results_none Tryz.results98 _ _ _) rfl ⟨((Fr.quiet HO.out).trans (Fr.set 0 _)).trans (Fr.set 3 _), .inl ⟨n, ⟨(by first | rfl | trivial), Ht.out, Hf.out⟩, HNs.out, rfl, HF.out⟩⟩
        · exact ⟨rfl, Fr.quiet o2, .inr ⟨.inr hns, rfl, no.out.out o2⟩⟩
      · have HI := hid_mk (inf_at k2 (b := true) (decide_eq_true (by omega)).symm)
        have Hf : Hid (s.fs ≠ []) := hid_mk (fun q => by rw [q] at e2; exact hf e2)
        clear ht hf e1 e2 HN
        go_enter Tryz.func98, Tryz.ntmps98
        go_wp2_with (first | (go_at_call 100; refine calls_same HI.out ?_) | (go_at_call 104; refine calls_stop (awant_no _) ?_))
        exact ⟨rfl, Fr.refl _ _ _ _, .inr ⟨.inl (fun q => Hf.out q.2.2), rfl, no.out⟩⟩
    · have t0 : ((nt : Int) == 0) = false := by simp only [beq_eq_false_iff_ne, ne_eq]; omega
      have Ht : Hid (s.tx ≠ []) := hid_mk (fun q => by rw [q] at e1; exact ht e1)
      clear ht e1 e2 HN
      go_enter Tryz.func98, Tryz.ntmps98
      go_wp2_with (go_at_call 104; refine calls_stop (awant_no _) ?_)
      exact ⟨rfl, Fr.refl _ _ _ _, .inr ⟨.inl (fun q => Ht.out q.2.1), rfl, no.out⟩⟩
end
end Go.Proofs.YtcnjlbjpeklgkaaGreatDoor
namespace Go.Proofs.YtcnjlbjpeklgkaaGreatDoor
open Go.RowKit
set_option linter.unusedVariables false
set_option linter.unusedSimpArgs false

section
variable {P : Program} {ops : Array Oper} {Q : Exit → Act → World → Prop} {md : Region.Mode} {S : World → Prop} {z : Nat}
/-- whatever order is picked: S holds behind every operation but z -/
def wpAnyT (P : Program) (md : Region.Mode) (ops : Array Oper) (Q : Exit → Act → World → Prop) (S : World → Prop) (z : Nat) : Nat → Array Bool → Act → World → Prop
  | 0, listed, a, w => Region.ready md ops listed = [] ∧ Q .normal a w
  | fuel + 1, listed, a, w =>
    (Region.ready md ops listed = [] → Q .normal a w) ∧
    ∀ i ∈ Region.ready md ops listed, wpOp P ops Q i (fun a' w' => (i ≠ z → S w') ∧ wpAnyT P md ops Q S z fuel (listed.setIfInBounds i true) a' w') a w
theorem wpAny_of_T : ∀ (fuel : Nat) (listed : Array Bool) (a : Act) (w : World), wpAnyT P md ops Q S z fuel listed a w → wpAny P md ops Q fuel listed a w
  | 0, _, _, _, h => h
  | fuel + 1, _, _, _, h => ⟨h.1, fun i hi => wpOp_mono (fun a' w' h' => wpAny_of_T fuel _ a' w' h'.2) (h.2 i hi)⟩
/-- does z wait for i? -/
def waitsFor (md : Region.Mode) (ops : Array Oper) (z i : Nat) : Bool := match ops[z]? with
  | some oz => oz.after.any fun e => Region.binds md e && e.on == i
  | none => false
theorem waits_spec {i : Nat} (h : waitsFor md ops z i = true) : ∃ oz, ops[z]? = some oz ∧ ∃ e ∈ oz.after, Region.binds md e = true ∧ e.on = i := by
  unfold waitsFor at h
  cases hz : ops[z]? with
  | none => rw [hz] at h; cases h
  | some oz =>
    rw [hz] at h
    refine ⟨oz, rfl, ?_⟩
    dsimp only at h
    rw [Array.any_eq_true'] at h
    obtain ⟨e, he, h2⟩ := h
    simp at h2
    exact ⟨e, he, h2.1, h2.2⟩
theorem wpAnyT_first {i : Nat} {oi : Oper} {v : Value} (hi : ops[i]? = some oi) (hsel : ∀ (j : Nat) (o : Oper) cs b, ops[j]? = some o → o.op ≠ .select cs b)
    (hQ : ∀ c a w, Q (.panic c) (a.put oi.dst v) w → Q (.panic c) a w) (hz : ∃ oz, ops[z]? = some oz ∧ ∃ e ∈ oz.after, Region.binds md e = true ∧ e.on = i) :
    ∀ (fuel : Nat) (listed : Array Bool) (a : Act) (w : World),
      (∀ j oj, ops[j]? = some oj → j ≠ i → listed.getD j true = false → (∀ e ∈ oj.after, Region.binds md e = true → e.on ≠ i) → oi.apart ops oj = true) →
      i ∈ Region.ready md ops listed → YieldsIf P ops S oi v a → S w →
      wpAnyT P md ops Q S z fuel (listed.setIfInBounds i true) (a.put oi.dst v) w → wpAnyT P md ops Q S z (fuel + 1) listed a w := by
  intro fuel
  induction fuel with
  | zero =>
    intro listed a w _ hr hy hS H
    refine ⟨fun h => (by rw [h] at hr; cases hr), fun j hj => ?_⟩
    by_cases hji : j = i
    · subst hji; exact hy.wpOp hi hS ⟨fun _ => hS, H⟩
    · have := ready_mono hj hji
      rw [H.1] at this
      cases this
  | succ fuel ih =>
    intro listed a w hfree hr hy hS H
    refine ⟨fun h => (by rw [h] at hr; cases hr), fun j hj => ?_⟩
    by_cases hji : j = i
    · subst hji; exact hy.wpOp hi hS ⟨fun _ => hS, H⟩
    · have h1 := H.2 j (ready_mono hj hji)
      obtain ⟨hjun, oj, hoj, hall⟩ := mem_ready.1 hj
      have hnot : ∀ e ∈ oj.after, Region.binds md e = true → e.on ≠ i := fun e he hb heq => by
        have h1 := hall e he hb
        have h0 := (mem_ready.1 hr).1
        rw [heq] at h1
        rcases Nat.lt_or_ge i listed.size with h' | h'
        · simp [h'] at h0 h1; rw [h0] at h1; cases h1
        · simp [Array.getElem?_eq_none h'] at h1
      have hjz : j ≠ z := by
        intro e
        subst e
        obtain ⟨oz, hoz, e, he, he2, he3⟩ := hz
        rw [hoj] at hoz
        cases hoz
        exact hnot e he he2 he3
      have h2 := wpOp_putIf hoj (hfree j oj hoj hji hjun hnot) (fun cs b => hsel i oi cs b hi) (fun cs b => hsel j oj cs b hoj) hQ hy h1
      have hfree' : ∀ k ok, ops[k]? = some ok → k ≠ i → (listed.setIfInBounds j true).getD k true = false →
          (∀ e ∈ ok.after, Region.binds md e = true → e.on ≠ i) → oi.apart ops ok = true := fun k ok hk hki hun hno => by
        refine hfree k ok hk hki ?_ hno
        by_cases hjk : j = k
        · subst hjk; exact hjun
        · rw [getD_set_ne true hjk] at hun; exact hun
      refine wpOp_mono (fun a' w' h3 => ⟨h3.2.1, ih (listed.setIfInBounds j true) a' w' hfree' (ready_mono hr (Ne.symm hji)) h3.1 (h3.2.1 hjz) ?_⟩) h2
      rw [Array.setIfInBounds_comm _ _ hji]
      exact h3.2.2
theorem wpAnyT_take {i : Nat} {oi : Oper} {v : Value} {fuel : Nat} {listed : Array Bool} {a : Act} {w : World} (hi : ops[i]? = some oi)
    (hs : Region.noSelect ops = true) (hf : Region.free md ops listed i = true) (hr : (Region.ready md ops listed).contains i = true) (hz : waitsFor md ops z i = true)
    (hQ : ∀ c a w, Q (.panic c) (a.put oi.dst v) w → Q (.panic c) a w) (hy : YieldsIf P ops S oi v a) (hS : S w)
    (h : wpAnyT P md ops Q S z fuel (listed.setIfInBounds i true) (a.put oi.dst v) w) : wpAnyT P md ops Q S z (fuel + 1) listed a w :=
  wpAnyT_first hi (Region.noSelect_spec hs) hQ (waits_spec hz) fuel listed a w (Region.free_spec hi hf) (by simpa using hr) hy hS h
theorem tkT (i : Nat) {oi : Oper} {v : Value} {fuel : Nat} {listed l' : Array Bool} {a a' : Act} {w : World}
    (h : wpAnyT P md ops Q S z fuel l' a' w) (hi : ops[i]? = some oi := by exact rfl) (hs : Region.noSelect ops = true := by kernel_rfl) (hf : Region.free md ops listed i = true := by kernel_rfl) (hr : (Region.ready md ops listed).contains i = true := by kernel_rfl) (hz : waitsFor md ops z i = true := by kernel_rfl)
    (hw : Region.wanted oi (yielded ops a.tmps) = true := by rfl)
    (hy : ∀ w, S w → (execOp a.eval oi).run P w = .ok (.value v) w := by intro w hSw; (try dsimp only at hSw); simp only [xa, xb, xc]; go_simp; (try with_reducible rfl))
    (hS : S w := by assumption)
    (hl : listed.setIfInBounds i true = l' := by (try simp only [List.setIfInBounds_toArray, List.set_cons_zero, List.set_cons_succ]); exact rfl)
    (ha : a.put oi.dst v = a' := by (try simp only [Act.put, xa, xb, xc, xd, xe, xf]); exact rfl)
    (hQ : ∀ c a w, Q (.panic c) (a.put oi.dst v) w → Q (.panic c) a w := by exact fun _ _ _ h => h) : wpAnyT P md ops Q S z (fuel + 1) listed a w := by
  subst hl ha
  exact wpAnyT_take hi hs hf hr hz hQ (Or.inl ⟨hw, hy⟩) hS h
/-- one operation alone may come up, and it is not z -/
theorem wpAnyT_one {i : Nat} {o : Oper} {fuel : Nat} {listed : Array Bool} {a : Act} {w : World} (hr : Region.ready md ops listed = [i]) (ho : ops[i]? = some o)
    (h : ∀ K' : Act → World → Prop, Shut (∀ a w, S w → (S w → wpAnyT P md ops Q S z fuel (listed.setIfInBounds i true) a w) → K' a w) → if Region.wanted o (yielded ops a.tmps) = true then Oper.wp P o a w K' Q else K' (a.put o.dst undef) w) : wpAnyT P md ops Q S z (fuel + 1) listed a w := by
  refine ⟨fun h0 => (by rw [hr] at h0; cases h0), fun j hj => ?_⟩
  rw [hr] at hj
  simp at hj
  subst hj
  exact wpOp_step ho (fun K' hK => h K' (fun a w hS hW => hK a w ⟨fun _ => hS, hW hS⟩))
/-- z comes up -/
theorem wpAnyT_last {o : Oper} {fuel : Nat} {listed : Array Bool} {a : Act} {w : World} (hr : Region.ready md ops listed = [z]) (ho : ops[z]? = some o)
    (h : ∀ K' : Act → World → Prop, Shut (∀ a w, wpAnyT P md ops Q S z fuel (listed.setIfInBounds z true) a w → K' a w) → if Region.wanted o (yielded ops a.tmps) = true then Oper.wp P o a w K' Q else K' (a.put o.dst undef) w) : wpAnyT P md ops Q S z (fuel + 1) listed a w := by
  refine ⟨fun h0 => (by rw [hr] at h0; cases h0), fun j hj => ?_⟩
  rw [hr] at hj
  simp at hj
  subst hj
  exact wpOp_step ho (fun K' hK => h K' (fun a w hW => hK a w ⟨fun e => absurd rfl e, hW⟩))
theorem wpAnyT_done {listed : Array Bool} {a : Act} {w : World} (hr : Region.ready md ops listed = []) (h : Q .normal a w) :
    ∀ fuel, wpAnyT P md ops Q S z fuel listed a w
  | 0 => ⟨hr, h⟩
  | _ + 1 => ⟨fun _ => h, by rw [hr]; simp⟩
theorem wp_region_T {id : Nat} {a : Act} {w : World} (hm : P.follows .mixedOrders = true) (hS : S w.drew)
    (h : S w.drew → wpAnyT P .any ops Q S z ops.size (Array.replicate ops.size false) a w.drew) : (Code.region id ops true).wp P Q a w :=
  wp_region_any hm (wpAny_of_T _ _ _ _ (h hS))
end
end Go.Proofs.YtcnjlbjpeklgkaaGreatDoor
