import Derived.Test.YtapjfokkcgdhhaaDoorQav
import Derived.Test.YtapjfokkcgdhhaaDoorQaq
import Derived.Test.YtapjfokkcgdhhaaDoorQai
namespace Go.Proofs.YtapjfokkcgdhhaaDoor
open Go.RowKit
set_option linter.unusedVariables false
set_option linter.unusedSimpArgs false

theorem mk_apR {T E : TypeId} {z : Value} {sz by_ : Nat} (hT : Tryd.prog.underlying T = some (.slice E)) (hinf : (Tryd.prog.info? E).map (fun i => (i.zero, i.size, i.bytes)) = some (some z, sz, by_)) (hz : z.cells.size = sz) (hsz : 0 < sz) (hby : by_ ≤ 1000) {w : World} {base K cap m c p : Nat} {ta : Option Addr} {xs zs : List Value} (hown : w.ownsRow base E sz (.slice ta K cap) K xs) (hbase : base ≤ w.heap.size) (hp : Bl w p zs.toArray E) (hl : zs.length = m * sz) (h1 : ∀ u ∈ zs, u.oneCell' = true) (hK : K ≤ 2000000) (hm : 0 < m) (hm2 : m ≤ 2000000) (ty : TypeId) :
    ∃ g cap' w', (Builtin.append_ #[T, T] ty #[.slice ta K cap, .slice (some ⟨p, 0, none⟩) m c]).run Tryd.prog w = .ok (.slice (some ⟨g, 0, none⟩) (K + m) cap') w' ∧ w'.ownsRow base E sz (.slice (some ⟨g, 0, none⟩) (K + m) cap') (K + m) (xs ++ zs) ∧ Fx (fun k => (Value.slice ta K cap).ownBlock = some k) w w' ∧ ((Value.slice ta K cap).ownBlock = some g ∨ w.heap.size ≤ g) := by
  obtain ⟨a', cap', w', q1, q2, q3, q4⟩ := app_at hT hinf hz hsz hby (c := c) hown hbase (bl_src hp m) hl h1 hK hm2 ty
  obtain ⟨g, cap2, h, _⟩ := q2.form (by omega)
  cases h
  exact ⟨g, cap', w', q1, q2, q3, q4.imp (fun e => e.symm) (fun e => by cases e; exact Nat.le_refl _)⟩
theorem own_noR {w : World} {E E' : TypeId} {base sz n k : Nat} {v : Value} {xs : List Value} {cs : Array Value} (h : w.ownsRow base E sz v n xs) (hb : Bl w k cs E') (hE : E' ≠ E) : v.ownBlock ≠ some k := by
  intro e
  have hb' : w.heap[k]? = some (.cells cs E' (0, 0)) := hb
  rcases h.2 with ⟨rfl, _⟩ | ⟨q, cap2, cur, rfl, hg1, hg2, _⟩
  · cases e
  · cases e
    rw [hg2] at hb'
    cases hb'
    exact hE rfl
/-- a step of reading from where the reader is -/
def stp {α : Type} (R : Rd α) (bs : List Int) : Sum (Int × Nat) Nat → Sum (Int × Nat) (α × Nat)
  | .inl x => .inl x
  | .inr a => R bs a
theorem rnumber_all {w : World} {p B : Nat} {ba : Option Addr} {n c : Nat} {bs : List Int} {s : Sum (Int × Nat) Nat} (h : RQ w p B ba n c bs s) (lo hi : Nat) (x y : Int) (hx : x = lo) (hy : y = hi) :
    Calls Tryd.prog 31 #[.pointer (some ⟨p, 0, none⟩), .int .i64 x, .int .i64 y] w (RNQ w p B ba n c bs (stp (numR lo hi) bs s)) := by
  cases s with
  | inr a => exact rnumber_any h lo hi x y hx hy
  | inl z => exact (rnumber_err h x y).mono fun e w' ⟨h1, h2⟩ => ⟨h1, h2⟩
/-- in the midst of a function -/
def FQ (w W : World) (p B : Nat) (ba : Option Addr) (n c : Nat) (bs : List Int) (b0 : Nat) (P L C : Int) (ca : Option Addr) (m cc : Nat) (l : List (Int × Int)) (s : Sum (Int × Nat) Nat) : Prop :=
  Bl W b0 #[.int .i64 0, .int .i64 0, .int .i64 0, .slice none 0 0] 40 ∧ Bl W (b0 + 1) #[.int .i64 P, .int .i64 L, .int .i64 C, .slice ca m cc] 40 ∧ W.ownsRow w.heap.size 61 2 (.slice ca m cc) m (icl l) ∧ l.length = m ∧ RQ W p B ba n c bs s ∧ Fx (fun k => k = p) w W ∧ p < w.heap.size ∧ B ≤ p ∧ w.heap.size = b0
section
variable {w W W2 : World} {p B : Nat} {ba : Option Addr} {n c : Nat} {bs : List Int} {b0 : Nat} {P L C : Int} {ca : Option Addr} {m cc : Nat} {l : List (Int × Int)} {s s2 : Sum (Int × Nat) Nat}
theorem FQ.call (h : FQ w W p B ba n c bs b0 P L C ca m cc l s) (hr : RQ W2 p B ba n c bs s2) (x : Fx (fun k => k = p) W W2) : FQ w W2 p B ba n c bs b0 P L C ca m cc l s2 := by
  obtain ⟨h1, h2, h3, h3', h4, h5, h6, h7, h8⟩ := h
  exact ⟨h1.fx x (by omega), h2.fx x (by omega), own_fx h3 x (fun k hk e => by have := (own_ge h3 hk).1; omega), h3', hr, h5.trans x, h6, h7, h8⟩
theorem FQ.quiet (h : FQ w W p B ba n c bs b0 P L C ca m cc l s) (o : Out 0 0 W W2) : FQ w W2 p B ba n c bs b0 P L C ca m cc l s := h.call (h.2.2.2.2.1.quiet o) (Fx.of_out o)
/-- what lies ahead of the function's own blocks -/
theorem fx_new {S Q : Nat → Prop} {a b d : World} (h : Fx S a b) (x : Fx Q b d) (hQ : ∀ k, Q k → a.heap.size ≤ k) : Fx S a d :=
  ⟨x.1.trans h.1, x.2.1.trans h.2.1, x.2.2.1.trans h.2.2.1, Nat.le_trans h.size x.size, fun k z1 z2 => (x.2.2.2.2 k (Nat.lt_of_lt_of_le z1 h.size) (fun e => by have := hQ k e; omega)).trans (h.2.2.2.2 k z1 z2)⟩
theorem FQ.set (h : FQ w W p B ba n c bs b0 P L C ca m cc l s) (j : Nat) (v : Value) {P' L' C' : Int} {ca' : Option Addr} {m' cc' : Nat} (hv : (#[.int .i64 P, .int .i64 L, .int .i64 C, .slice ca m cc] : Array Value).setIfInBounds j v = #[.int .i64 P', .int .i64 L', .int .i64 C', .slice ca m cc]) : FQ w (W.setCell ⟨b0 + 1, j, none⟩ v) p B ba n c bs b0 P' L' C' ca m cc l s := by
  obtain ⟨h1, h2, h3, h3', h4, h5, h6, h7, h8⟩ := h
  have x : Fx (fun k => k = b0 + 1) W (W.setCell ⟨b0 + 1, j, none⟩ v) := (Fx.refl (fun k => k = b0 + 1) W).set (p := ⟨b0 + 1, j, none⟩) (.inl rfl) _
  have h9 := h2.set j v
  rw [hv] at h9
  exact ⟨h1.fx x (by omega), h9, own_fx h3 x (fun k hk e => by subst e; exact own_noR h3 h2 (by decide) hk), h3', h4.fx x (fun k hk => by omega), fx_new h5 x (fun k hk => by omega), h6, h7, h8⟩
theorem FQ.push {g cap' : Nat} {x : Int × Int} (h : FQ w W p B ba n c bs b0 P L C ca m cc l s) (z1 : W2.ownsRow w.heap.size 61 2 (.slice (some ⟨g, 0, none⟩) (m + 1) cap') (m + 1) (icl l ++ [.int .i64 x.1, .int .i64 x.2])) (z2 : Fx (fun k => (Value.slice ca m cc).ownBlock = some k) W W2) : FQ w (W2.setCell ⟨b0 + 1, 3, none⟩ (.slice (some ⟨g, 0, none⟩) (m + 1) cap')) p B ba n c bs b0 P L C (some ⟨g, 0, none⟩) (m + 1) cap' (l ++ [x]) s := by
  obtain ⟨h1, h2, h3, h3', h4, h5, h6, h7, h8⟩ := h
  have hx : Fx (fun k => k = b0 + 1) W2 (W2.setCell ⟨b0 + 1, 3, none⟩ (.slice (some ⟨g, 0, none⟩) (m + 1) cap')) := (Fx.refl (fun k => k = b0 + 1) W2).set (p := ⟨b0 + 1, 3, none⟩) (.inl rfl) _
  have g2 := h2.fx z2 (fun e => own_noR h3 h2 (by decide) e)
  have g1 := h1.fx z2 (fun e => own_noR h3 h1 (by decide) e)
  have hge : ∀ k, (Value.slice ca m cc).ownBlock = some k → w.heap.size ≤ k := fun k hk => (own_ge h3 hk).1
  refine ⟨g1.fx hx (by omega), g2.set 3 (.slice (some ⟨g, 0, none⟩) (m + 1) cap'), ?_, by rw [List.length_append, h3']; rfl, (h4.fx z2 (fun k hk => by have := hge k hk; omega)).fx hx (fun k hk => by omega), fx_new (fx_new h5 z2 hge) hx (fun k hk => by omega), h6, h7, h8⟩
  rw [icl_app]
  exact own_fx z1 hx (fun k hk e => by subst e; exact own_noR z1 g2 (by decide) hk)
/-- the function is handed out -/
theorem FQ.fin (h : FQ w W p B ba n c bs b0 P L C ca m cc l s) : ∀ W', (((W.setCell ⟨b0, 0, none⟩ (.int .i64 P)).setCell ⟨b0, 1, none⟩ (.int .i64 L)).setCell ⟨b0, 2, none⟩ (.int .i64 C)).setCell ⟨b0, 3, none⟩ (.slice ca m cc) = W' → Bl W' b0 #[.int .i64 P, .int .i64 L, .int .i64 C, .slice ca m cc] 40 ∧ W'.ownsRow w.heap.size 61 2 (.slice ca m cc) m (icl l) ∧ RQ W' p B ba n c bs s ∧ Fx (fun k => k = p) w W' := by
  rintro W' rfl
  obtain ⟨h1, h2, h3, h3', h4, h5, h6, h7, h8⟩ := h
  have x : Fx (fun k => k = b0) W ((((W.setCell ⟨b0, 0, none⟩ (.int .i64 P)).setCell ⟨b0, 1, none⟩ (.int .i64 L)).setCell ⟨b0, 2, none⟩ (.int .i64 C)).setCell ⟨b0, 3, none⟩ (.slice ca m cc)) := ((((Fx.refl (fun k => k = b0) W).set (p := ⟨b0, 0, none⟩) (.inl rfl) _).set (p := ⟨b0, 1, none⟩) (.inl rfl) _).set (p := ⟨b0, 2, none⟩) (.inl rfl) _).set (p := ⟨b0, 3, none⟩) (.inl rfl) _
  exact ⟨(((h1.set 0 (.int .i64 P)).set 1 (.int .i64 L)).set 2 (.int .i64 C)).set 3 (.slice ca m cc), own_fx h3 x (fun k hk e => by subst e; exact own_noR h3 h1 (by decide) hk), h4.fx x (fun k hk => by omega), fx_new h5 x (fun k hk => by omega)⟩
end
/-- what a function's reading leaves -/
def RFQ (w : World) (p B : Nat) (ba : Option Addr) (n c : Nat) (bs : List Int) (R : Sum (Int × Nat) ((Int × Int × Int × List (Int × Int)) × Nat)) (e : Ending) (w' : World) : Prop := ∃ (P L C : Int) (ca : Option Addr) (m cc : Nat) (l : List (Int × Int)), e = .returned (.agg #[.int .i64 P, .int .i64 L, .int .i64 C, .slice ca m cc]) ∧ l.length = m ∧ w'.ownsRow w.heap.size 61 2 (.slice ca m cc) m (icl l) ∧ RQ w' p B ba n c bs (ocs R) ∧ Fx (fun k => k = p) w w' ∧ ∀ f q, R = .inr (f, q) → f = (P, L, C, l)
def fnO (u v x : Nat) : Sum (Int × Nat) (List (Int × Int) × Nat) → Sum (Int × Nat) ((Int × Int × Int × List (Int × Int)) × Nat)
  | .inl x => .inl x
  | .inr l => .inr (((u : Int), (v : Int), (x : Int), l.1), l.2)
/-- a function's parts -/
theorem fun_parts (bs : List Int) (a : Nat) (R1 R2 R3 R4 : Sum (Int × Nat) (Nat × Nat)) (h1 : numR 0 8 bs a = R1) (h2 : stp (numR 0 64) bs (ocs R1) = R2) (h3 : stp (numR 0 64) bs (ocs R2) = R3) (h4 : stp (numR 0 4096) bs (ocs R3) = R4) (RL : Sum (Int × Nat) (List (Int × Int) × Nat)) (h5 : stp (repR (ocn R4) insR) bs (ocs R4) = RL) :
    funR bs a = fnO (ocn R1) (ocn R2) (ocn R3) RL := by
  unfold funR
  rcases R1 with x | ⟨v1, e1⟩
  · subst h2 h3 h4 h5; rw [bnd_err h1]; rfl
  rw [bnd_ok h1]
  have h2' : numR 0 64 bs e1 = R2 := h2
  rcases R2 with x | ⟨v2, e2⟩
  · subst h3 h4 h5; rw [bnd_err h2']; rfl
  rw [bnd_ok h2']
  have h3' : numR 0 64 bs e2 = R3 := h3
  rcases R3 with x | ⟨v3, e3⟩
  · subst h4 h5; rw [bnd_err h3']; rfl
  rw [bnd_ok h3']
  have h4' : numR 0 4096 bs e3 = R4 := h4
  rcases R4 with x | ⟨v4, e4⟩
  · subst h5; rw [bnd_err h4']; rfl
  rw [bnd_ok h4']
  have h5' : repR v4 insR bs e4 = RL := h5
  rcases RL with x | ⟨l, e5⟩
  · rw [bnd_err h5']; rfl
  rw [bnd_ok h5']
  rfl
theorem rl_up {α : Type} {R : Rd α} {bs : List Int} {i e e2 : Nat} {vs : List α} {v : α} {s : Sum (Int × Nat) Nat} (h : stp (repR i R) bs s = .inr (vs, e)) (h2 : R bs e = .inr (v, e2)) : stp (repR (i + 1) R) bs s = .inr (vs ++ [v], e2) := by
  cases s with
  | inl x => cases h
  | inr a => exact rep_up h h2
theorem rl_err {α : Type} {R : Rd α} {bs : List Int} {i e N : Nat} {vs : List α} {x : Int × Nat} {s : Sum (Int × Nat) Nat} (h : stp (repR i R) bs s = .inr (vs, e)) (h2 : R bs e = .inl x) (hn : i < N) : stp (repR N R) bs s = .inl x := by
  cases s with
  | inl x => cases h
  | inr a => exact rep_err h h2 hn
theorem dn_w {d : Nat} (h : d ≤ 100000) : wrap64 (d : Int) = (d : Int) := by unfold wrap64; omega
theorem dn_m {d : Nat} : (intOf (.int .i64 (d : Int))).toNat < (intOf (.int .i64 ((d + 1 : Nat) : Int))).toNat := by simp [intOf]
set_option maxRecDepth 100000 in
set_option maxHeartbeats 2000000 in
theorem qfun_any {w : World} {p B : Nat} {ba : Option Addr} {n c : Nat} {bs : List Int} {a : Nat} (h : RQ w p B ba n c bs (.inr a)) :
    Calls Tryd.prog 32 #[.pointer (some ⟨p, 0, none⟩)] w (RFQ w p B ba n c bs (funR bs a)) := by
  obtain ⟨b0, hb0⟩ : ∃ b0, w.heap.size = b0 := ⟨_, rfl⟩
  obtain ⟨V1, hV1⟩ : ∃ V, (w.alloc (.cells #[.int .i64 0, .int .i64 0, .int .i64 0, .slice none 0 0] 40)).alloc (.cells #[.int .i64 0, .int .i64 0, .int .i64 0, .slice none 0 0] 40) = V := ⟨_, rfl⟩
  have o1 : Out 0 0 w V1 := by rw [← hV1]; exact ((Out.refl 0 0 w).alloc _).alloc _
  have B0 : Bl V1 b0 #[.int .i64 0, .int .i64 0, .int .i64 0, .slice none 0 0] 40 := by rw [← hV1, ← hb0]; exact (Bl.new _ _ _).alloc _
  have B1 : Bl V1 (b0 + 1) #[.int .i64 0, .int .i64 0, .int .i64 0, .slice none 0 0] 40 := by
    rw [← hV1, ← hb0]
    have := Bl.new (w.alloc (.cells #[.int .i64 0, .int .i64 0, .int .i64 0, .slice none 0 0] 40)) #[.int .i64 0, .int .i64 0, .int .i64 0, .slice none 0 0] 40
    rwa [size_alloc] at this
  have HQ1 : Hid (FQ w V1 p B ba n c bs b0 0 0 0 none 0 0 [] (.inr a)) := hid_mk ⟨B0, B1, World.ownsRow_nil _ _ _ 2, rfl, h.quiet o1, Fx.of_out o1, h.2.2.2.2.2.2.lt, h.2.2.1, hb0⟩
  obtain ⟨R1, hR1⟩ : ∃ R, numR 0 8 bs a = R := ⟨_, rfl⟩
  obtain ⟨R2, hR2⟩ : ∃ R, stp (numR 0 64) bs (ocs R1) = R := ⟨_, rfl⟩
  obtain ⟨R3, hR3⟩ : ∃ R, stp (numR 0 64) bs (ocs R2) = R := ⟨_, rfl⟩
  obtain ⟨R4, hR4⟩ : ∃ R, stp (numR 0 4096) bs (ocs R3) = R := ⟨_, rfl⟩
  have HR2 := hid_mk hR2
  have HR3 := hid_mk hR3
  have HR4 := hid_mk hR4
  have HFP := hid_mk (fun_parts bs a R1 R2 R3 R4 hR1 hR2 hR3 hR4)
  have HN1 : Hid (Calls Tryd.prog 31 #[.pointer (some ⟨p, 0, none⟩), .int .i64 0, .int .i64 8] V1 (RNQ V1 p B ba n c bs R1)) := hid_mk (by rw [← hR1]; exact rnumber_any HQ1.out.2.2.2.2.1 0 8 0 8 rfl rfl)
  have HNl : Hid (ocn R4 ≤ 4096) := hid_mk (by
    rw [← hR4]
    rcases ocs R3 with x | e
    · exact Nat.zero_le _
    · exact ocn_le)
  clear h o1 B0 B1 hR1 hR2 hR3 hR4
  go_enter Tryd.func32, Tryd.ntmps32
  go_wp2_with fail
  (try rw [hV1])
  (try rw [hb0])
  clear hV1 hb0
  refine HN1.out.mono ?_
  rintro e w1 ⟨rfl, r1, x1⟩
  obtain ⟨v1, hv1⟩ : ∃ v, ocn R1 = v := ⟨_, rfl⟩
  rw [hv1]
  have q1 := HQ1.out.call r1 x1
  have y0 : w1.cell? ⟨b0 + 1, 0, none⟩ = some (.int .i64 0) := q1.2.1.cell (i := 0) rfl
  have z0 := q1.2.1.frozen 0
  have s1 := q1.set 0 (.int .i64 (v1 : Int)) (P' := (v1 : Int)) (L' := 0) (C' := 0) (ca' := none) (m' := 0) (cc' := 0) rfl
  have HV1 := hid_mk hv1
  obtain ⟨V2, hV2⟩ : ∃ V, w1.setCell ⟨b0 + 1, 0, none⟩ (.int .i64 (v1 : Int)) = V := ⟨_, rfl⟩
  rw [hV2] at s1
  have HQ2 := hid_mk s1
  have HN2 : Hid (Calls Tryd.prog 31 #[.pointer (some ⟨p, 0, none⟩), .int .i64 0, .int .i64 64] V2 (RNQ V2 p B ba n c bs R2)) := hid_mk (by rw [← HR2.out]; exact rnumber_all s1.2.2.2.2.1 0 64 0 64 rfl rfl)
  clear r1 x1 hv1 q1 s1 HN1
  go_wp2_with fail
  (try rw [hV2])
  clear hV2 y0 z0
  refine HN2.out.mono ?_
  rintro e w2 ⟨rfl, r2, x2⟩
  obtain ⟨v2, hv2⟩ : ∃ v, ocn R2 = v := ⟨_, rfl⟩
  rw [hv2]
  have q2 := HQ2.out.call r2 x2
  have y0 : w2.cell? ⟨b0 + 1, 1, none⟩ = some (.int .i64 0) := q2.2.1.cell (i := 1) rfl
  have z0 := q2.2.1.frozen 1
  have s2 := q2.set 1 (.int .i64 (v2 : Int)) (P' := (v1 : Int)) (L' := (v2 : Int)) (C' := 0) (ca' := none) (m' := 0) (cc' := 0) rfl
  have HV2 := hid_mk hv2
  obtain ⟨V3, hV3⟩ : ∃ V, w2.setCell ⟨b0 + 1, 1, none⟩ (.int .i64 (v2 : Int)) = V := ⟨_, rfl⟩
  rw [hV3] at s2
  have HQ3 := hid_mk s2
  have HN3 : Hid (Calls Tryd.prog 31 #[.pointer (some ⟨p, 0, none⟩), .int .i64 0, .int .i64 64] V3 (RNQ V3 p B ba n c bs R3)) := hid_mk (by rw [← HR3.out]; exact rnumber_all s2.2.2.2.2.1 0 64 0 64 rfl rfl)
  clear r2 x2 hv2 q2 s2 HN2
  go_wp2_with fail
  (try rw [hV3])
  clear hV3 y0 z0
  refine HN3.out.mono ?_
  rintro e w3 ⟨rfl, r3, x3⟩
  obtain ⟨v3, hv3⟩ : ∃ v, ocn R3 = v := ⟨_, rfl⟩
  rw [hv3]
  have q3 := HQ3.out.call r3 x3
  have y0 : w3.cell? ⟨b0 + 1, 2, none⟩ = some (.int .i64 0) := q3.2.1.cell (i := 2) rfl
  have z0 := q3.2.1.frozen 2
  have s3 := q3.set 2 (.int .i64 (v3 : Int)) (P' := (v1 : Int)) (L' := (v2 : Int)) (C' := (v3 : Int)) (ca' := none) (m' := 0) (cc' := 0) rfl
  have HV3 := hid_mk hv3
  obtain ⟨V4, hV4⟩ : ∃ V, w3.setCell ⟨b0 + 1, 2, none⟩ (.int .i64 (v3 : Int)) = V := ⟨_, rfl⟩
  rw [hV4] at s3
  have HQ4 := hid_mk s3
  have HN4 : Hid (Calls Tryd.prog 31 #[.pointer (some ⟨p, 0, none⟩), .int .i64 0, .int .i64 4096] V4 (RNQ V4 p B ba n c bs R4)) := hid_mk (by rw [← HR4.out]; exact rnumber_all s3.2.2.2.2.1 0 4096 0 4096 rfl rfl)
  clear r3 x3 hv3 q3 s3 HN3
  go_wp2_with fail
  (try rw [hV4])
  clear hV4 y0 z0
  refine HN4.out.mono ?_
  rintro e w4 ⟨rfl, r4, x4⟩
  obtain ⟨N, hN⟩ : ∃ v, ocn R4 = v := ⟨_, rfl⟩
  rw [hN]
  obtain ⟨s4, hs4⟩ : ∃ s, ocs R4 = s := ⟨_, rfl⟩
  have HFP2 := HFP.out
  rw [hN, hs4, HV1.out, HV2.out, HV3.out] at HFP2
  have HFQ := hid_mk HFP2
  have HNN : Hid (N ≤ 4096) := hid_mk (hN ▸ HNl.out)
  rw [hs4] at r4
  have HQ5 := hid_mk (HQ4.out.call r4 x4)
  clear r4 x4 hN hs4 HFP2 HFP HNl HN4 HQ4 HQ1 HQ2 HQ3 HR2 HR3 HR4
  go_wp2
  go_loopw [4] (fun nv W => ∃ (i d : Nat) (l : List (Int × Int)) (s : Sum (Int × Nat) Nat) (ca : Option Addr) (m cc : Nat), nv = .int .i64 (d : Int) ∧ i + d = N ∧ m ≤ i ∧ FQ w W p B ba n c bs b0 (v1 : Int) (v2 : Int) (v3 : Int) ca m cc l s ∧ ((∃ e, s = .inr e ∧ stp (repR i insR) bs s4 = .inr (l, e)) ∨ ∃ x, s = .inl x ∧ stp (repR N insR) bs s4 = .inl x)) (fun nv _ => (intOf nv).toNat)
  case atStart =>
    refine ⟨0, N, [], s4, none, 0, 0, rfl, by omega, Nat.le_refl _, HQ5.out, ?_⟩
    rcases s4 with x | e
    · exact .inr ⟨x, rfl, rfl⟩
    · exact .inl ⟨e, rfl, rfl⟩
  case round =>
    obtain ⟨i, d, l, s, ca, m, cc, rfl, hid, hmi, hF, hs⟩ := hrel
    rcases hs with ⟨e, rfl, hl⟩ | ⟨x, rfl, hl⟩
    · rcases Nat.eq_zero_or_pos d with rfl | hd
      · obtain rfl : i = N := by omega
        have HE : Hid (ocs (funR bs a) = .inr e ∧ funR bs a = .inr (((v1 : Int), (v2 : Int), (v3 : Int), l), e)) := hid_mk ⟨by rw [HFQ.out _ hl]; rfl, by rw [HFQ.out _ hl]; rfl⟩
        have l1 : decide ((0 : Int) < ((0 : Nat) : Int)) = false := by decide
        (try rw [show ((0 : Nat) : Int) = 0 from rfl])
        have y0 : wr.cell? ⟨b0 + 1, 0, none⟩ = some (.int .i64 (v1 : Int)) := hF.2.1.cell (i := 0) rfl
        have y1 : wr.cell? ⟨b0 + 1, 1, none⟩ = some (.int .i64 (v2 : Int)) := hF.2.1.cell (i := 1) rfl
        have y2 : wr.cell? ⟨b0 + 1, 2, none⟩ = some (.int .i64 (v3 : Int)) := hF.2.1.cell (i := 2) rfl
        have y3 : wr.cell? ⟨b0 + 1, 3, none⟩ = some (.slice ca m cc) := hF.2.1.cell (i := 3) rfl
        have y4 : wr.cell? ⟨b0, 0, none⟩ = some (.int .i64 0) := hF.1.cell (i := 0) rfl
        have y5 : wr.cell? ⟨b0, 1, none⟩ = some (.int .i64 0) := hF.1.cell (i := 1) rfl
        have y6 : wr.cell? ⟨b0, 2, none⟩ = some (.int .i64 0) := hF.1.cell (i := 2) rfl
        have y7 : wr.cell? ⟨b0, 3, none⟩ = some (.slice none 0 0) := hF.1.cell (i := 3) rfl
        have z0 := hF.1.frozen 0
        have z1 := hF.1.frozen 1
        have z2 := hF.1.frozen 2
        have z3 := hF.1.frozen 3
        have HF := hid_mk hF
        clear hF hid hmi hl
        go_wp2
        obtain ⟨f1, f2, f3, f4⟩ := HF.out.fin _ rfl
        exact ret_cell Tryd.results32 rfl rfl (load_fn f1) ⟨_, _, _, _, _, _, l, rfl, HF.out.2.2.2.1, f2, by rw [HE.out.1]; exact f3, f4, fun f q hq => by rw [HE.out.2] at hq; cases hq; rfl⟩
      · obtain ⟨d, rfl⟩ : ∃ k, d = k + 1 := ⟨d - 1, by omega⟩
        have l1 : decide ((0 : Int) < ((d + 1 : Nat) : Int)) = true := by simp
        have l2 : decide (0 < d + 1) = true := by simp
        have k3 : wr.cell? ⟨p, 3, none⟩ = some (.int .i64 0) := hF.2.2.2.2.1.2.2.2.2.2.2.cell (i := 3) rfl
        have d3 : wr.cell? ⟨b0 + 1, 3, none⟩ = some (.slice ca m cc) := hF.2.1.cell (i := 3) rfl
        obtain ⟨V3, hV3⟩ : ∃ V3, wr.drew = V3 := ⟨_, rfl⟩
        have oV : Out 0 0 wr V3 := by rw [← hV3]; exact (Out.refl 0 0 wr).drew
        have HIn := hid_mk (qins_any (hF.quiet oV).2.2.2.2.1)
        have HF : Hid (FQ w V3 p B ba n c bs b0 (v1 : Int) (v2 : Int) (v3 : Int) ca m cc l (.inr e) ∧ i + (d + 1) = N ∧ m ≤ i ∧ stp (repR i insR) bs s4 = .inr (l, e)) := hid_mk ⟨hF.quiet oV, hid, hmi, hl⟩
        have d3' := oV.cell d3 (.inr (Nat.zero_le _))
        have HO := hid_mk oV
        have hdn := dn_w (d := d) (by have := HNN.out; omega)
        clear hF hid hmi hl oV hd
        go_wp2_with fail
        refine wp_region_T (S := fun w' => w'.cell? ⟨b0 + 1, 3, none⟩ = some (.slice ca m cc)) (z := 7) (by kernel_rfl) ?hS1 (fun hHeld => ?rest1)
        case hS1 => exact d3
        refine tkT 0 ?_
        refine tkT 1 ?_
        refine tkT 2 ?_
        refine wpAnyT_one (i := 3) (by kernel_rfl) rfl (fun KK hK => ?_)
        simp only [xa, xb, xc]
        go_simp
        (try rw [hV3])
        refine HIn.out.mono ?_
        rintro e9 w5 ⟨x, y, rfl, r5, x5, hv5⟩
        have q5 := HF.out.1.call r5 x5
        refine hK.out _ _ ?hS5 (fun hHeld2 => ?rest5)
        case hS5 => exact x5.cell d3' (by have := HF.out.1; have h1 := this.2.2.2.2.2.2.1; have h2 := this.2.2.2.2.2.2.2.2; show ¬ (b0 + 1 = p); omega)
        clear hK KK
        (try clear hHeld)
        have hHeld := hHeld2
        clear hHeld2
        (try simp only [Act.put, xa, xb, xc, xd, xe, xf])
        refine wpAnyT_one (i := 4) (by kernel_rfl) rfl (fun KK hK => ?_)
        simp only [xa, xb, xc]
        go_simp
        obtain ⟨X1, hX1⟩ : ∃ X1, w5.alloc (.cells #[.int .i64 x, .int .i64 y] 61) = X1 := ⟨_, rfl⟩
        obtain ⟨t1, ht1⟩ : ∃ t1, w5.heap.size = t1 := ⟨_, rfl⟩
        rw [hX1, ht1]
        have o9 : Out 0 0 w5 X1 := by rw [← hX1]; exact (Out.refl 0 0 w5).alloc _
        have HX1 : Hid (Bl X1 t1 #[.int .i64 x, .int .i64 y] 61) := hid_mk (by rw [← hX1, ← ht1]; exact Bl.new _ _ _)
        have q6 := q5.quiet o9
        clear hX1 ht1
        refine hK.out _ _ ?hS6 (fun hHeld2 => ?rest6)
        case hS6 => exact q6.2.1.cell (i := 3) rfl
        clear hK KK
        (try clear hHeld)
        have hHeld := hHeld2
        clear hHeld2
        (try simp only [Act.put, xa, xb, xc, xd, xe, xf])
        refine wpAnyT_one (i := 5) (by kernel_rfl) rfl (fun KK hK => ?_)
        simp only [xa, xb, xc]
        obtain ⟨g4, cap4, w6, hr, z1, z2, z3⟩ := mk_apR (m := 1) (c := 1) (zs := [.int .i64 x, .int .i64 y]) Tryd.underlying38 info_in rfl (by decide) (by decide) q6.2.2.1 q6.2.2.2.2.2.1.size HX1.out rfl (by intro u hu; simp at hu; rcases hu with rfl | rfl <;> rfl) (by have := HF.out.2.2.1; have := HF.out.2.1; have := HNN.out; omega) (by decide) (by decide) 38
        refine app_sr X1 _ _ _ _ rfl _ _ rfl rfl hr ?_
        refine hK.out _ _ ?hS7 (fun hHeld2 => ?rest7)
        case hS7 => exact (q6.2.1.fx z2 (fun e => own_noR q6.2.2.1 q6.2.1 (by decide) e)).cell (i := 3) rfl
        clear hK KK
        (try clear hHeld)
        have hHeld := hHeld2
        clear hHeld2
        (try simp only [Act.put, xa, xb, xc, xd, xe, xf])
        refine tkT 6 ?_
        refine wpAnyT_last (by kernel_rfl) rfl (fun KK hK => ?_)
        simp only [xa, xb, xc]
        have s9 := hHeld
        have z9 := (q6.2.1.fx z2 (fun e => own_noR q6.2.2.1 q6.2.1 (by decide) e)).frozen 3
        go_simp
        refine hK.out _ _ ?_
        clear hK KK
        (try simp only [Act.put, xa, xb, xc, xd, xe, xf])
        refine wpAnyT_done (by kernel_rfl) ?_ _
        have q7 := q6.push (x := (x, y)) z1 z2
        have HG : Hid (FQ w (w6.setCell ⟨b0 + 1, 3, none⟩ (.slice (some ⟨g4, 0, none⟩) (m + 1) cap4)) p B ba n c bs b0 (v1 : Int) (v2 : Int) (v3 : Int) (some ⟨g4, 0, none⟩) (m + 1) cap4 (l ++ [(x, y)]) (ocs (insR bs e)) ∧ ∀ v q, insR bs e = .inr (v, q) → v = (x, y)) := hid_mk ⟨q7, hv5⟩
        clear q7 hr z1 z2 z3 q6 q5 o9 HX1 r5 x5 hv5 hHeld s9 z9
        go_wp2
        obtain ⟨-, hid, hmi, hl⟩ := HF.out
        refine ⟨⟨i + 1, d, l ++ [(x, y)], _, _, m + 1, cap4, by rw [hdn], by omega, by omega, HG.out.1, ?_⟩, by first | exact dn_m | (rw [hdn]; exact dn_m)⟩
        rcases hi : insR bs e with z | ⟨v, q⟩
        · exact .inr ⟨z, rfl, rl_err hl hi (by omega)⟩
        · have := HG.out.2 v q hi
          subst this
          exact .inl ⟨q, rfl, rl_up hl hi⟩
    · have HE : Hid (ocs (funR bs a) = .inl x ∧ funR bs a = .inl x) := hid_mk ⟨by rw [HFQ.out _ hl]; rfl, by rw [HFQ.out _ hl]; rfl⟩
      have hx0 : x.1 ≠ 0 := hF.2.2.2.2.1.2.2.2.2.2.1
      obtain ⟨a9, -, b9⟩ := hF.2.2.2.2.1.2.2.2.2.2.2
      have k3 : wr.cell? ⟨p, 3, none⟩ = some (.int .i64 x.1) := b9.cell (i := 3) rfl
      have e0 : (x.1 == 0) = false := by simpa using hx0
      have e1 : decide (x.1 = 0) = false := by simpa using hx0
      clear b9 hx0
      rcases Nat.eq_zero_or_pos d with rfl | hd
      · have l1 : decide ((0 : Int) < ((0 : Nat) : Int)) = false := by decide
        (try rw [show ((0 : Nat) : Int) = 0 from rfl])
        have y0 : wr.cell? ⟨b0 + 1, 0, none⟩ = some (.int .i64 (v1 : Int)) := hF.2.1.cell (i := 0) rfl
        have y1 : wr.cell? ⟨b0 + 1, 1, none⟩ = some (.int .i64 (v2 : Int)) := hF.2.1.cell (i := 1) rfl
        have y2 : wr.cell? ⟨b0 + 1, 2, none⟩ = some (.int .i64 (v3 : Int)) := hF.2.1.cell (i := 2) rfl
        have y3 : wr.cell? ⟨b0 + 1, 3, none⟩ = some (.slice ca m cc) := hF.2.1.cell (i := 3) rfl
        have y4 : wr.cell? ⟨b0, 0, none⟩ = some (.int .i64 0) := hF.1.cell (i := 0) rfl
        have y5 : wr.cell? ⟨b0, 1, none⟩ = some (.int .i64 0) := hF.1.cell (i := 1) rfl
        have y6 : wr.cell? ⟨b0, 2, none⟩ = some (.int .i64 0) := hF.1.cell (i := 2) rfl
        have y7 : wr.cell? ⟨b0, 3, none⟩ = some (.slice none 0 0) := hF.1.cell (i := 3) rfl
        have z0 := hF.1.frozen 0
        have z1 := hF.1.frozen 1
        have z2 := hF.1.frozen 2
        have z3 := hF.1.frozen 3
        have HF := hid_mk hF
        clear hF hid hmi hl
        go_wp2
        obtain ⟨f1, f2, f3, f4⟩ := HF.out.fin _ rfl
        exact ret_cell Tryd.results32 rfl rfl (load_fn f1) ⟨_, _, _, _, _, _, l, rfl, HF.out.2.2.2.1, f2, by rw [HE.out.1]; exact f3, f4, fun f q hq => by rw [HE.out.2] at hq; cases hq⟩
      · obtain ⟨d, rfl⟩ : ∃ k, d = k + 1 := ⟨d - 1, by omega⟩
        have l1 : decide ((0 : Int) < ((d + 1 : Nat) : Int)) = true := by simp
        have l2 : decide (0 < d + 1) = true := by simp
        have y0 : wr.cell? ⟨b0 + 1, 0, none⟩ = some (.int .i64 (v1 : Int)) := hF.2.1.cell (i := 0) rfl
        have y1 : wr.cell? ⟨b0 + 1, 1, none⟩ = some (.int .i64 (v2 : Int)) := hF.2.1.cell (i := 1) rfl
        have y2 : wr.cell? ⟨b0 + 1, 2, none⟩ = some (.int .i64 (v3 : Int)) := hF.2.1.cell (i := 2) rfl
        have y3 : wr.cell? ⟨b0 + 1, 3, none⟩ = some (.slice ca m cc) := hF.2.1.cell (i := 3) rfl
        have y4 : wr.cell? ⟨b0, 0, none⟩ = some (.int .i64 0) := hF.1.cell (i := 0) rfl
        have y5 : wr.cell? ⟨b0, 1, none⟩ = some (.int .i64 0) := hF.1.cell (i := 1) rfl
        have y6 : wr.cell? ⟨b0, 2, none⟩ = some (.int .i64 0) := hF.1.cell (i := 2) rfl
        have y7 : wr.cell? ⟨b0, 3, none⟩ = some (.slice none 0 0) := hF.1.cell (i := 3) rfl
        have z0 := hF.1.frozen 0
        have z1 := hF.1.frozen 1
        have z2 := hF.1.frozen 2
        have z3 := hF.1.frozen 3
        have HF := hid_mk hF
        clear hF hid hmi hl hd
        go_wp2
        obtain ⟨f1, f2, f3, f4⟩ := HF.out.fin _ rfl
        exact ret_cell Tryd.results32 rfl rfl (load_fn f1) ⟨_, _, _, _, _, _, l, rfl, HF.out.2.2.2.1, f2, by rw [HE.out.1]; exact f3, f4, fun f q hq => by rw [HE.out.2] at hq; cases hq⟩
end Go.Proofs.YtapjfokkcgdhhaaDoor
