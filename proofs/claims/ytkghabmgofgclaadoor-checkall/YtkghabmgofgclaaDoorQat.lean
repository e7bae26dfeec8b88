import Derived.Test.YtkghabmgofgclaaDoorQas
namespace Go.Proofs.YtkghabmgofgclaaDoor
open Go.RowKit
set_option linter.unusedVariables false
set_option linter.unusedSimpArgs false

theorem set_sameX {α : Type} {l : List α} {i : Nat} {x : α} (h : l[i]? = some x) : l.set i x = l := by
  obtain ⟨h1, rfl⟩ := List.getElem?_eq_some_iff.1 h
  exact List.set_getElem_self h1
/-- a row of numbers of one's own -/
def IL (w : World) (lo : Nat) (v : Value) (l : List Int) : Prop := ∃ a c, v = .slice a l.length c ∧ w.ownsRow lo 3 1 (.slice a l.length c) l.length (ivs l)
def TI (w : World) (lo : Nat) (vs : List Value) (L : List (List Int)) : Prop := vs.length = L.length ∧ ∀ (j : Nat) v l, vs[j]? = some v → L[j]? = some l → IL w lo v l
def RI2 (w : World) (lo l0 : Nat) (la : Option Addr) (n lk : Nat) (vs : List Value) (L : List (List Int)) : Prop := w.ownsRow l0 68 1 (.slice la n lk) n vs ∧ TI w lo vs L ∧ Ap vs
def RBi (vs : List Value) (k : Nat) : Prop := ∃ (j : Nat) (v : Value), vs[j]? = some v ∧ v.ownBlock = some k
theorem IL.fx {Q : Nat → Prop} {w w' : World} {lo : Nat} {v : Value} {l : List Int} (h : IL w lo v l) (x : Fx Q w w') (hQ : ∀ k, v.ownBlock = some k → ¬ Q k) : IL w' lo v l := by
  obtain ⟨a, c, rfl, h2⟩ := h
  exact ⟨a, c, rfl, own_fx h2 x hQ⟩
theorem TI.fx {Q : Nat → Prop} {w w' : World} {lo : Nat} {vs : List Value} {L : List (List Int)} (h : TI w lo vs L) (x : Fx Q w w') (hQ : ∀ k, RBi vs k → ¬ Q k) : TI w' lo vs L := ⟨h.1, fun j v l q1 q2 => (h.2 j v l q1 q2).fx x fun k hk => hQ k ⟨j, v, q1, hk⟩⟩
section
variable {w w' : World} {lo l0 n lk : Nat} {la : Option Addr} {vs : List Value} {L : List (List Int)} {i : Nat} {v : Value} {l : List Int}
theorem RI2.len (h : RI2 w lo l0 la n lk vs L) : vs.length = n ∧ L.length = n := by
  have h1 := h.1.1
  have h2 := h.2.1.1
  omega
theorem RI2.quiet (h : RI2 w lo l0 la n lk vs L) (o : Out 0 0 w w') : RI2 w' lo l0 la n lk vs L := ⟨own_fx (S := fun _ => False) h.1 (Fx.of_out o) (fun _ _ q => q), h.2.1.fx (Q := fun _ => False) (Fx.of_out o) (fun _ _ q => q), h.2.2⟩
theorem IL.oth {b2 s2 n' k : Nat} {v' : Value} {E : TypeId} {xs : List Value} (h : IL w lo v l) (h' : w.ownsRow b2 E s2 v' n' xs) (hE : 3 ≠ E) (hk : v.ownBlock = some k) : v'.ownBlock ≠ some k := by
  obtain ⟨a, c, rfl, h2⟩ := h
  exact own_apart h2 h' hE hk
theorem RI2.step {l' : List Int} (h : RI2 w lo l0 la n lk vs L) (hv : vs[i]? = some v) (hl : L[i]? = some l) (hT : IL w' lo v l') (x : Fx (fun k => v.ownBlock = some k) w w') : RI2 w' lo l0 la n lk vs (L.set i l') := by
  obtain ⟨h1, h2, h3⟩ := h
  have hTi := h2.2 i v l hv hl
  refine ⟨own_fx h1 x (fun k hk e => hTi.oth h1 (by decide) e hk), ⟨by rw [List.length_set]; exact h2.1, fun j u t q1 q2 => ?_⟩, h3⟩
  by_cases hj : i = j
  · subst hj
    rw [List.getElem?_set_self (List.getElem?_eq_some_iff.1 hl).1] at q2
    cases q2
    rw [hv] at q1
    cases q1
    exact hT
  · rw [List.getElem?_set_ne hj] at q2
    exact (h2.2 j u t q1 q2).fx x (fun k hk e => h3 i j v u k hj hv q1 e hk)
theorem RI2.same (h : RI2 w lo l0 la n lk vs L) (hv : vs[i]? = some v) (hl : L[i]? = some l) (hT : IL w' lo v l) (x : Fx (fun k => v.ownBlock = some k) w w') : RI2 w' lo l0 la n lk vs L := by
  have := h.step hv hl hT x
  rwa [set_sameX hl] at this
theorem RI2.put {g c j : Nat} {y : Int} (h : RI2 w lo l0 la n lk vs L) (hv : vs[i]? = some (.slice (some ⟨g, 0, none⟩) l.length c)) (hl : L[i]? = some l) : RI2 (w.setCell ⟨g, j, none⟩ (.int .i64 y)) lo l0 la n lk vs (L.set i (l.set j y)) := by
  obtain ⟨a, c', q1, q2⟩ := h.2.1.2 i _ l hv hl
  cases q1
  refine h.step hv hl ⟨some ⟨g, 0, none⟩, c, by rw [List.length_set], ?_⟩ ((Fx.refl (fun k => (Value.slice (some ⟨g, 0, none⟩) l.length c).ownBlock = some k) w).set (p := ⟨g, j, none⟩) (.inl rfl) _)
  rw [List.length_set]
  have := own_put q2 j (.int .i64 y)
  unfold ivs at this ⊢
  rwa [List.map_set]
theorem RI2.row (h : RI2 w lo l0 la n lk vs L) (hi : i < n) : ∃ v l go a c, vs[i]? = some v ∧ L[i]? = some l ∧ la = some ⟨go, 0, none⟩ ∧ v = .slice a l.length c ∧ w.cell? ⟨go, i, none⟩ = some (.slice a l.length c) ∧ w.ownsRow lo 3 1 (.slice a l.length c) l.length (ivs l) := by
  obtain ⟨v, hv⟩ : ∃ v, vs[i]? = some v := ⟨_, List.getElem?_eq_getElem (by have := h.len; omega)⟩
  obtain ⟨l, hl⟩ : ∃ l, L[i]? = some l := ⟨_, List.getElem?_eq_getElem (by have := h.len; omega)⟩
  obtain ⟨go, cur, q1, q2, q3, -⟩ := own_cellsX h.1 (by omega)
  obtain ⟨a, c, q4, q5⟩ := h.2.1.2 i _ l hv hl
  exact ⟨v, l, go, a, c, hv, hl, q1, q4, q4 ▸ q3 i v hv, q5⟩
end
theorem own_frX {w : World} {E : TypeId} {sz base K cap g : Nat} {xs : List Value} (h : w.ownsRow base E sz (.slice (some ⟨g, 0, none⟩) K cap) K xs) (j : Nat) : w.frozen? ⟨g, j, none⟩ = false := by
  rcases h.2 with ⟨h0, _⟩ | ⟨q, cap2, cur, h0, hg1, hg2, _⟩
  · cases h0
  · cases h0
    exact Bl.frozen (W := w) (cs := cur) (T := E) hg2 j
theorem own_atX {w : World} {E : TypeId} {sz base K cap g : Nat} {xs : List Value} (h : w.ownsRow base E sz (.slice (some ⟨g, 0, none⟩) K cap) K xs) {j : Nat} {u : Value} (hj : xs[j]? = some u) : w.cell? ⟨g, j, none⟩ = some u := by
  by_cases hK : 0 < K
  · obtain ⟨g', cur, q1, q2, q3, -⟩ := own_cellsX h hK
    cases q1
    exact q3 j u hj
  · have h1 := h.1
    obtain rfl : K = 0 := by omega
    rw [Nat.zero_mul] at h1
    rw [List.eq_nil_of_length_eq_zero h1] at hj
    cases hj
/-- a row that is grown, and written at its end: the row itself stays -/
theorem grow_any {T E : TypeId} {z : Value} {by_ : Nat} (hT : Tryd.prog.underlying T = some (.slice E)) (hinf : (Tryd.prog.info? E).map (fun i => (i.zero, i.size, i.bytes)) = some (some z, 1, by_)) (hz : z.cells = #[z]) (hz1 : z.oneCell' = true) (hby : by_ ≤ 1000) {w : World} {lo K cap m : Nat} {ta : Option Addr} {xs : List Value} (hown : w.ownsRow lo E 1 (.slice ta K cap) K xs) (hlo : lo ≤ w.heap.size) (hK : K ≤ 100000) (hm : 0 < m) (hm2 : m ≤ 1000) (ty : TypeId) :
    ∃ g cap' w', (Builtin.append_ #[T, 3] ty #[.slice ta K cap, .int .i64 (m : Int)]).run Tryd.prog w = .ok (.slice (some ⟨g, 0, none⟩) (K + m) cap') w' ∧ (∃ u, w'.cell? ⟨g, K + m - 1, none⟩ = some u) ∧ w'.frozen? ⟨g, K + m - 1, none⟩ = false ∧ Fx (fun k => (Value.slice ta K cap).ownBlock = some k) w w' ∧ w'.ownsRow lo E 1 (.slice ta K cap) K xs ∧ ((Value.slice ta K cap).ownBlock = some g ∨ w.heap.size ≤ g) ∧ ∃ cs, w'.heap[g]? = some (.cells cs E (0, 0)) := by
  obtain ⟨g, cap', w', h1, h2, h3, h4, h5⟩ := zer_keep (T := T) (I := 3) (m := m) hT Tryd.underlying3 hinf (by rw [hz]; rfl) (by decide) hby (by
    intro u hu
    simp [Builtin.zeroCells, hz] at hu
    obtain ⟨k, hk, rfl⟩ := hu
    rw [Nat.mod_one]
    exact hz1) hown hlo (by omega) hm hm2 ty
  refine ⟨g, cap', w', h1, ?_, own_frX h2 _, h4, h3, h5, ?_⟩
  · obtain ⟨u, hu⟩ : ∃ u, (xs ++ (Builtin.zeroCells z.cells m).toList)[K + m - 1]? = some u := ⟨_, List.getElem?_eq_getElem (by have := h2.1; omega)⟩
    exact ⟨u, own_atX h2 hu⟩
  · rcases h2.2 with ⟨h0, _⟩ | ⟨q, cap2, cur, h0, hg1, hg2, _⟩
    · cases h0
    · cases h0; exact ⟨cur, hg2⟩
/-- the slices of an answer -/
def An.vs (A : An) : List Value := A.s :: dvs A.dgs A.Ds
def An.L (A : An) : List (List Int) := A.S :: A.Ds
theorem dvs_mem {dgs : List Nat} {Ds : List (List Int)} {v : Value} (h : v ∈ dvs dgs Ds) : ∃ dg D, dg ∈ dgs ∧ D ∈ Ds ∧ v = .slice (some ⟨dg, 0, none⟩) D.length D.length := by
  unfold dvs at h
  obtain ⟨p, hp, rfl⟩ := List.mem_map.1 h
  exact ⟨p.1, p.2, (List.of_mem_zip hp).1, (List.of_mem_zip hp).2, rfl⟩
/-- two values lie apart -/
def Ap2 (a b : Value) : Prop := ∀ k, a.ownBlock = some k → b.ownBlock ≠ some k
theorem ap_of {cs : List Value} (h : cs.Pairwise Ap2) : Ap cs := by
  intro i j a b k hij h1 h2 h3 h4
  obtain ⟨i1, rfl⟩ := List.getElem?_eq_some_iff.1 h1
  obtain ⟨j1, rfl⟩ := List.getElem?_eq_some_iff.1 h2
  rcases Nat.lt_or_gt_of_ne hij with q | q
  · exact List.pairwise_iff_getElem.1 h i j i1 j1 q k h3 h4
  · exact List.pairwise_iff_getElem.1 h j i j1 i1 q k h4 h3
theorem dvs_pw : ∀ {dgs : List Nat} {Ds : List (List Int)}, dgs.Nodup → (dvs dgs Ds).Pairwise Ap2
  | [], Ds, _ => by simp [dvs]
  | d :: dgs, [], _ => by simp [dvs]
  | d :: dgs, D :: Ds, h => by
    have h' := List.nodup_cons.1 h
    show (.slice (some ⟨d, 0, none⟩) D.length D.length :: dvs dgs Ds : List Value).Pairwise Ap2
    refine List.pairwise_cons.2 ⟨fun v hv k hk hk' => ?_, dvs_pw h'.2⟩
    obtain ⟨dg, D', q1, q2, rfl⟩ := dvs_mem hv
    cases hk
    cases hk'
    exact h'.1 q1
theorem An.pw {A : An} {w : World} {lo : Nat} (h : A.at w lo) : A.vs.Pairwise Ap2 := by
  refine List.pairwise_cons.2 ⟨fun v hv k hk hk' => ?_, dvs_pw h.1.2.2.2.2.1⟩
  obtain ⟨dg, D', q1, q2, rfl⟩ := dvs_mem hv
  cases hk'
  exact (h.1.2.2.2.2.2.1 dg q1).1 hk
theorem An.vs_bl {A : An} {v : Value} {k : Nat} (hv : v ∈ A.vs) (hk : v.ownBlock = some k) : A.bl k := by
  rcases List.mem_cons.1 hv with rfl | hv
  · exact .inl hk
  · obtain ⟨dg, D', q1, q2, rfl⟩ := dvs_mem hv
    cases hk
    exact .inr (.inr q1)
theorem all_pw {w : World} {lo : Nat} : ∀ {As : List An}, (∀ A ∈ As, A.at w lo) → As.Pairwise (fun A B => ∀ k, A.bl k → ¬ B.bl k) → (As.flatMap An.vs).Pairwise Ap2
  | [], _, _ => by simp
  | A :: As, h, hp => by
    rw [List.flatMap_cons]
    have hp' := List.pairwise_cons.1 hp
    refine List.pairwise_append.2 ⟨An.pw (h A (List.mem_cons_self)), all_pw (fun B hB => h B (List.mem_cons_of_mem _ hB)) hp'.2, fun a ha b hb k hk hk' => ?_⟩
    obtain ⟨B, hB, hbB⟩ := List.mem_flatMap.1 hb
    exact hp'.1 B hB k (An.vs_bl ha hk) (An.vs_bl hbB hk')
theorem h4len {A : An} {w : World} {lo j : Nat} {l : List Int} (h : A.at w lo) (hl : A.Ds[j]? = some l) : l.length ≤ 4096 := h.2.2.2.2.2 l (List.mem_of_getElem? hl)
theorem An.ti {A : An} {w : World} {lo : Nat} (h : A.at w lo) : TI w lo A.vs A.L := by
  have h' := h
  obtain ⟨h1, h2, h3, -⟩ := h
  refine ⟨by unfold An.vs An.L; simp [dvs_len h1.2.2.1], fun j v l q1 q2 => ?_⟩
  cases j with
  | zero =>
    simp [An.vs] at q1
    simp [An.L] at q2
    subst q1 q2
    have hr := h1.1
    unfold An.s at *
    rw [← h2] at *
    exact ⟨_, _, rfl, hr⟩
  | succ j =>
    simp [An.vs] at q1
    simp [An.L] at q2
    obtain ⟨dg, hdg⟩ : ∃ dg, A.dgs[j]? = some dg := ⟨_, List.getElem?_eq_getElem (by have := (List.getElem?_eq_some_iff.1 q2).1; have := h1.2.2.1; omega)⟩
    have hq := dvs_at hdg q2
    rw [hq] at q1
    cases q1
    obtain ⟨z1, z2⟩ := h1.2.2.2.1 j dg l hdg q2
    refine ⟨_, _, rfl, by unfold ivs; simp, .inr ⟨dg, l.length, (ivs l).toArray, rfl, z1, z2, Nat.le_refl _, ?_, by unfold ivs; simp, by unfold ivs; simp [List.take_of_length_le]⟩⟩
    have := h4len h' q2
    unfold maxLen
    omega
theorem ti_app {w : World} {lo : Nat} {vs us : List Value} {L M : List (List Int)} (h : TI w lo vs L) (g : TI w lo us M) : TI w lo (vs ++ us) (L ++ M) := by
  refine ⟨by simp [h.1, g.1], fun j v l q1 q2 => ?_⟩
  by_cases hj : j < vs.length
  · rw [List.getElem?_append_left hj] at q1
    rw [List.getElem?_append_left (by have := h.1; omega)] at q2
    exact h.2 j v l q1 q2
  · rw [List.getElem?_append_right (by omega)] at q1
    rw [List.getElem?_append_right (by have := h.1; omega), ← h.1] at q2
    exact g.2 _ v l q1 q2
theorem all_ti {w : World} {lo : Nat} : ∀ {As : List An}, (∀ A ∈ As, A.at w lo) → TI w lo (As.flatMap An.vs) (As.flatMap An.L)
  | [], _ => ⟨rfl, fun j v l q => by simp at q⟩
  | A :: As, h => by
    rw [List.flatMap_cons, List.flatMap_cons]
    exact ti_app (An.ti (h A (List.mem_cons_self))) (all_ti fun B hB => h B (List.mem_cons_of_mem _ hB))
end Go.Proofs.YtkghabmgofgclaaDoor
namespace Go.Proofs.YtkghabmgofgclaaDoor
open Go.RowKit
set_option linter.unusedVariables false
set_option linter.unusedSimpArgs false

/-- what the lists of lists are, whatever their numbers -/
def PD (w : World) (lo bk : Nat) (ra : Option Addr) (rk : Nat) (kw : Value) (As : List An) : Prop := Bl w bk #[.slice ra As.length rk, kw] 46 ∧ w.ownsRow lo 71 2 (.slice ra As.length rk) As.length (acl As) ∧ ∀ A ∈ As, ∃ xs, w.ownsRow lo 68 1 A.d A.m xs
theorem PD.fx {Q : Nat → Prop} {w w' : World} {lo bk rk : Nat} {ra : Option Addr} {kw : Value} {As : List An} (h : PD w lo bk ra rk kw As) (x : Fx Q w w') (hQ : ∀ k, Q k → ∃ cs E, w.heap[k]? = some (.cells cs E (0, 0)) ∧ E ≠ 46 ∧ E ≠ 71 ∧ E ≠ 68) : PD w' lo bk ra rk kw As := by
  refine ⟨h.1.fx x (fun q => ?_), own_fx h.2.1 x (fun k hk q => ?_), fun A hA => ?_⟩
  · obtain ⟨cs, E, b1, b2, -⟩ := hQ bk q
    have h1 : w.heap[bk]? = some (.cells _ _ (0, 0)) := h.1
    rw [h1] at b1
    cases b1
    exact b2 rfl
  · obtain ⟨cs, E, b1, b2, b3, b4⟩ := hQ k q
    exact own_noX h.2.1 b1 b3 hk
  · obtain ⟨xs, hx⟩ := h.2.2 A hA
    refine ⟨xs, own_fx hx x (fun k hk q => ?_)⟩
    obtain ⟨cs, E, b1, b2, b3, b4⟩ := hQ k q
    exact own_noX hx b1 b4 hk
/-- the state of the numbers' rounds -/
def G1 (w wr : World) (lo l0 : Nat) (la : Option Addr) (n lk : Nat) (vs : List Value) (L : List (List Int)) (bk : Nat) (ra : Option Addr) (rk : Nat) (kw : Value) (As : List An) : Prop := RI2 wr lo l0 la n lk vs L ∧ Fx (fun k => lo ≤ k) w wr ∧ (∀ l ∈ L, l.length ≤ 100000) ∧ n ≤ 100000 ∧ PD wr lo bk ra rk kw As ∧ lo ≤ w.heap.size
/-- the rows before the i-th are full of their marks -/
def Mke (i : Nat) (L : List (List Int)) : Prop := ∀ (r : Nat) l, r < i → L[r]? = some l → ∀ x ∈ l, x = -2 - (r : Int)
def Mk2 (i j : Nat) (l : List Int) : Prop := ∀ (k : Nat) x, k < j → l[k]? = some x → x = -2 - (i : Int)
theorem Mke.set {i : Nat} {L : List (List Int)} (h : Mke i L) (l : List Int) : Mke i (L.set i l) := fun r l' hr hl => by
  rw [List.getElem?_set_ne (by omega)] at hl
  exact h r l' hr hl
theorem Mke.up {i : Nat} {L : List (List Int)} {l : List Int} (h : Mke i L) (hl : L[i]? = some l) (h1 : Mk2 i l.length l) : Mke (i + 1) L := fun r l' hr hl' x hx => by
  by_cases hri : r = i
  · subst hri
    rw [hl] at hl'
    cases hl'
    obtain ⟨k, hk⟩ := List.getElem?_of_mem hx
    exact h1 k x (List.getElem?_eq_some_iff.1 hk).1 hk
  · exact h r l' (by omega) hl' x hx
theorem Mk2.set {i j : Nat} {l : List Int} (h : Mk2 i j l) : Mk2 i (j + 1) (l.set j (-2 - (i : Int))) := fun k x hk hx => by
  rw [List.getElem?_set] at hx
  split at hx
  · split at hx
    · cases hx; rfl
    · cases hx
  · exact h k x (by omega) hx
section
variable {w wr w' : World} {lo l0 : Nat} {la : Option Addr} {n lk : Nat} {vs : List Value} {L : List (List Int)} {bk : Nat} {ra : Option Addr} {rk : Nat} {kw : Value} {As : List An} {i : Nat} {v : Value} {l : List Int}
theorem IL.bl {w : World} {lo : Nat} {v : Value} {l : List Int} {k : Nat} (h : IL w lo v l) (hk : v.ownBlock = some k) : lo ≤ k ∧ ∃ cs, w.heap[k]? = some (.cells cs 3 (0, 0)) := by
  obtain ⟨a, c, rfl, h2⟩ := h
  refine ⟨(own_ge h2 hk).1, ?_⟩
  rcases h2.2 with ⟨h0, _⟩ | ⟨q, cap2, cur, h0, hg1, hg2, _⟩
  · rw [h0] at hk; cases hk
  · cases h0; cases hk; exact ⟨cur, hg2⟩
theorem G1.drew (h : G1 w wr lo l0 la n lk vs L bk ra rk kw As) : G1 w wr.drew lo l0 la n lk vs L bk ra rk kw As := ⟨h.1.quiet (Out.refl 0 0 wr).drew, h.2.1.drew, h.2.2.1, h.2.2.2.1, h.2.2.2.2.1.fx (Q := fun _ => False) (Fx.of_out (Out.refl 0 0 wr).drew) (fun _ q => q.elim), h.2.2.2.2.2⟩
theorem G1.put {g c j : Nat} {y : Int} (h : G1 w wr lo l0 la n lk vs L bk ra rk kw As) (hv : vs[i]? = some (.slice (some ⟨g, 0, none⟩) l.length c)) (hl : L[i]? = some l) : G1 w (wr.setCell ⟨g, j, none⟩ (.int .i64 y)) lo l0 la n lk vs (L.set i (l.set j y)) bk ra rk kw As := by
  obtain ⟨z1, cs, z2⟩ := (h.1.2.1.2 i _ l hv hl).bl (k := g) rfl
  refine ⟨h.1.put hv hl, h.2.1.set (p := ⟨g, j, none⟩) (.inl z1) _, fun l' hl' => ?_, h.2.2.2.1, h.2.2.2.2.1.fx ((Fx.refl (fun k => k = g) wr).set (p := ⟨g, j, none⟩) (.inl rfl) _) (fun k hk => by subst hk; exact ⟨cs, _, z2, by decide, by decide, by decide⟩), h.2.2.2.2.2⟩
  rcases List.mem_or_eq_of_mem_set hl' with q | rfl
  · exact h.2.2.1 l' q
  · rw [List.length_set]; exact h.2.2.1 l (List.mem_of_getElem? hl)
theorem G1.same (h : G1 w wr lo l0 la n lk vs L bk ra rk kw As) (hv : vs[i]? = some v) (hl : L[i]? = some l) (hT : IL w' lo v l) (x : Fx (fun k => v.ownBlock = some k) wr w') : G1 w w' lo l0 la n lk vs L bk ra rk kw As := by
  refine ⟨h.1.same hv hl hT x, h.2.1.trans (x.wide fun k _ hk => ((h.1.2.1.2 i _ l hv hl).bl hk).1), h.2.2.1, h.2.2.2.1, h.2.2.2.2.1.fx x (fun k hk => ?_), h.2.2.2.2.2⟩
  obtain ⟨z1, cs, z2⟩ := (h.1.2.1.2 i _ l hv hl).bl hk
  exact ⟨cs, _, z2, by decide, by decide, by decide⟩
end
theorem sub_2 {i : Nat} (h : i ≤ 1000000) : wrap64 (-2 - (i : Int)) = -2 - (i : Int) := by unfold wrap64; omega
def gwV (g : Nat) : Nat := g + g / 17 * 80
theorem gw_b {g : Nat} (h : 1 ≤ g) (h2 : g ≤ 17) : 0 < gwV g ∧ gwV g ≤ 1000 := by unfold gwV; omega
theorem gw_q (g : Nat) : Int.tdiv (g : Int) 17 = ((g / 17 : Nat) : Int) := by
  rw [Int.tdiv_eq_ediv_of_nonneg (by omega)]; omega
theorem gw_m {q s : Nat} (h : q ≤ 10) (hs : q * 80 = s) : wrap64 ((q : Int) * 80) = (s : Int) := by unfold wrap64; omega
theorem gw_a {g s t : Nat} (h : g ≤ 100) (h2 : s ≤ 1000) (hs : g + s = t) : wrap64 ((g : Int) + (s : Int)) = (t : Int) := by unfold wrap64; omega
theorem KC.far {w w' : World} {lo bk : Nat} {ra : Option Addr} {rk : Nat} {wa : Option Addr} {wk : Nat} {As Bs : List An} (h : KC w lo bk ra rk wa wk As Bs) (o : Out 0 0 w w') : KC w' lo bk ra rk wa wk As Bs := h.quiet o
theorem own_at2 {w : World} {E : TypeId} {sz base K cap g : Nat} {xs : List Value} (h : w.ownsRow base E sz (.slice (some ⟨g, 0, none⟩) K cap) K xs) {j : Nat} {u : Value} (hj : xs[j]? = some u) : w.cell? ⟨g, j, none⟩ = some u := own_atX h hj
theorem dep_src {w : World} {lo : Nat} {A : An} (h : A.at w lo) : A.m = 0 ∨ ∃ vb off, A.da = some ⟨vb, off, none⟩ ∧ ∀ (j : Nat) u, (dvs A.dgs A.Ds)[j]? = some u → w.cell? ⟨vb, off + j, none⟩ = some u := by
  by_cases h0 : A.m = 0
  · exact .inl h0
  · right
    have hr := h.1.2.1
    rw [h.2.2.1] at hr
    obtain ⟨g, cur, q1, q2, q3, -⟩ := own_cellsX hr (by omega)
    exact ⟨g, 0, q1, fun j u hj => by rw [Nat.zero_add]; exact q3 j u hj⟩
theorem app_cons_X {α : Type} {a b : List α} {x : α} : a ++ (x :: b) = a ++ [x] ++ b := by simp
/-- the lists of lists, and what they hold -/
def H2 (w wr : World) (lo bk : Nat) (ra : Option Addr) (rk : Nat) (kw : Value) (As : List An) (X : List (List Value)) : Prop := Bl wr bk #[.slice ra As.length rk, kw] 46 ∧ wr.ownsRow lo 71 2 (.slice ra As.length rk) As.length (acl As) ∧ X.length = As.length ∧ (∀ (i : Nat) A xs, As[i]? = some A → X[i]? = some xs → wr.ownsRow lo 68 1 A.d A.m xs) ∧ Fx (fun k => lo ≤ k) w wr ∧ lo ≤ w.heap.size
/-- a list with its two marks -/
def Mx (wr : World) (i j : Nat) (u : Value) : Prop := ∃ t, u = .slice (some ⟨t, 0, none⟩) 2 2 ∧ wr.heap[t]? = some (.cells #[.int .i64 (i : Int), .int .i64 (j : Int)] 3 (0, 0))
def MX (wr : World) (i0 : Nat) (X : List (List Value)) : Prop := ∀ (i : Nat) xs (j : Nat) u, i < i0 → X[i]? = some xs → xs[j]? = some u → Mx wr i j u
def MX1 (wr : World) (i j0 : Nat) (xs : List Value) : Prop := ∀ (j : Nat) u, j < j0 → xs[j]? = some u → Mx wr i j u
theorem Mx.fx {Q : Nat → Prop} {w w' : World} {i j : Nat} {u : Value} (h : Mx w i j u) (x : Fx Q w w') (hQ : ∀ k, Q k → ∃ cs E, w.heap[k]? = some (.cells cs E (0, 0)) ∧ E ≠ 3) : Mx w' i j u := by
  obtain ⟨t, rfl, h2⟩ := h
  refine ⟨t, rfl, x.heap h2 (fun q => ?_)⟩
  obtain ⟨cs, E, b1, b2⟩ := hQ t q
  rw [h2] at b1
  cases b1
  exact b2 rfl
section
variable {w wr w' : World} {lo bk rk : Nat} {ra : Option Addr} {kw : Value} {As : List An} {X : List (List Value)} {i : Nat} {A : An} {xs : List Value}
theorem own_typ {w : World} {E : TypeId} {base sz n k : Nat} {v : Value} {xs : List Value} (h : w.ownsRow base E sz v n xs) (hk : v.ownBlock = some k) : lo ≤ lo ∧ base ≤ k ∧ ∃ cs, w.heap[k]? = some (.cells cs E (0, 0)) := by
  refine ⟨Nat.le_refl _, (own_ge h hk).1, ?_⟩
  rcases h.2 with ⟨h0, _⟩ | ⟨q, cap2, cur, h0, hg1, hg2, _⟩
  · rw [h0] at hk; cases hk
  · subst h0; cases hk; exact ⟨cur, hg2⟩
theorem H2.quiet (h : H2 w wr lo bk ra rk kw As X) (o : Out 0 0 wr w') : H2 w w' lo bk ra rk kw As X := ⟨h.1.kept o (.inr (Nat.zero_le _)), own_fx (S := fun _ => False) h.2.1 (Fx.of_out o) (fun _ _ q => q), h.2.2.1, fun i A xs z1 z2 => own_fx (S := fun _ => False) (h.2.2.2.1 i A xs z1 z2) (Fx.of_out o) (fun _ _ q => q), h.2.2.2.2.1.trans (Fx.of_out o), h.2.2.2.2.2⟩
theorem MX.quiet {i0 : Nat} (h : MX wr i0 X) (o : Out 0 0 wr w') : MX w' i0 X := fun i xs j u h1 h2 h3 => (h i xs j u h1 h2 h3).fx (Q := fun _ => False) (Fx.of_out o) (fun _ q => q.elim)
theorem H2.step {xs' : List Value} (h : H2 w wr lo bk ra rk kw As X) (hd : ∀ (i j : Nat) A B k, i ≠ j → As[i]? = some A → As[j]? = some B → A.d.ownBlock = some k → B.d.ownBlock ≠ some k) (hA : As[i]? = some A) (hx : X[i]? = some xs) (hT : w'.ownsRow lo 68 1 A.d A.m xs') (x : Fx (fun k => A.d.ownBlock = some k) wr w') : H2 w w' lo bk ra rk kw As (X.set i xs') ∧ ∀ k, A.d.ownBlock = some k → ∃ cs E, wr.heap[k]? = some (.cells cs E (0, 0)) ∧ E ≠ 3 := by
  obtain ⟨h1, h2, h3, h4, h5, h6⟩ := h
  have hr := h4 i A xs hA hx
  have ty : ∀ k, A.d.ownBlock = some k → lo ≤ k ∧ ∃ cs, wr.heap[k]? = some (.cells cs 68 (0, 0)) := fun k hk => (own_typ (lo := lo) hr hk).2
  refine ⟨⟨h1.fx x (fun e => ?_), own_fx h2 x (fun k hk e => ?_), by rw [List.length_set]; exact h3, fun j B ys z1 z2 => ?_, h5.trans (x.wide fun k _ hk => (ty k hk).1), h6⟩, fun k hk => ?_⟩
  · obtain ⟨-, cs, b⟩ := ty bk e
    have h1' : wr.heap[bk]? = some (.cells _ _ (0, 0)) := h1
    rw [h1'] at b
    cases b
  · obtain ⟨-, cs, b⟩ := ty k e
    exact own_noX h2 b (by decide) hk
  · by_cases hj : i = j
    · subst hj
      rw [List.getElem?_set_self (List.getElem?_eq_some_iff.1 hx).1] at z2
      cases z2
      rw [hA] at z1
      cases z1
      exact hT
    · rw [List.getElem?_set_ne hj] at z2
      exact own_fx (h4 j B ys z1 z2) x (fun k hk e => hd i j A B k hj hA z1 e hk)
  · obtain ⟨-, cs, b⟩ := ty k hk
    exact ⟨cs, _, b, by decide⟩
end
theorem bl_iv {w : World} {t : Nat} {i j : Int} (h : w.heap[t]? = some (.cells #[.int .i64 i, .int .i64 j] 3 (0, 0))) : IvIn w (some ⟨t, 0, none⟩) [i, j] := IvIn.of_bl (D := [i, j]) h
theorem pd_x {w : World} {lo : Nat} : ∀ {As : List An}, (∀ A ∈ As, ∃ xs, w.ownsRow lo 68 1 A.d A.m xs) → ∃ X : List (List Value), X.length = As.length ∧ ∀ (i : Nat) A xs, As[i]? = some A → X[i]? = some xs → w.ownsRow lo 68 1 A.d A.m xs
  | [], _ => ⟨[], rfl, fun i A xs h => by simp at h⟩
  | A :: As, h => by
    obtain ⟨xs, hx⟩ := h A (List.mem_cons_self)
    obtain ⟨X, h1, h2⟩ := pd_x (As := As) (fun B hB => h B (List.mem_cons_of_mem _ hB))
    refine ⟨xs :: X, by simp [h1], fun i B ys z1 z2 => ?_⟩
    cases i with
    | zero =>
      simp at z1 z2
      subst z1 z2
      exact hx
    | succ i => exact h2 i B ys (by simpa using z1) (by simpa using z2)
/-- a list with its marks is stored -/
theorem put_2 {w wr : World} {lo bk rk gd c m j : Nat} {ra : Option Addr} {kw : Value} {As : List An} {X : List (List Value)} {i : Nat} {A : An} {xs : List Value} (hd : ∀ (i j : Nat) A B k, i ≠ j → As[i]? = some A → As[j]? = some B → A.d.ownBlock = some k → B.d.ownBlock ≠ some k) (h : H2 w wr lo bk ra rk kw As X) (hA : As[i]? = some A) (hx : X[i]? = some xs) (hda : A.da = some ⟨gd, 0, none⟩) (hM : MX wr i X) (hM1 : MX1 wr i j xs) :
    H2 w ((wr.alloc (.cells #[.int .i64 (i : Int), .int .i64 (j : Int)] 3)).setCell ⟨gd, j, none⟩ (.slice (some ⟨wr.heap.size, 0, none⟩) 2 2)) lo bk ra rk kw As (X.set i (xs.set j (.slice (some ⟨wr.heap.size, 0, none⟩) 2 2))) ∧ MX ((wr.alloc (.cells #[.int .i64 (i : Int), .int .i64 (j : Int)] 3)).setCell ⟨gd, j, none⟩ (.slice (some ⟨wr.heap.size, 0, none⟩) 2 2)) i (X.set i (xs.set j (.slice (some ⟨wr.heap.size, 0, none⟩) 2 2))) ∧ MX1 ((wr.alloc (.cells #[.int .i64 (i : Int), .int .i64 (j : Int)] 3)).setCell ⟨gd, j, none⟩ (.slice (some ⟨wr.heap.size, 0, none⟩) 2 2)) i (j + 1) (xs.set j (.slice (some ⟨wr.heap.size, 0, none⟩) 2 2)) := by
  have oA : Out 0 0 wr (wr.alloc (.cells #[.int .i64 (i : Int), .int .i64 (j : Int)] 3)) := (Out.refl 0 0 wr).alloc _
  have h1 := h.quiet oA
  have hr := h1.2.2.2.1 i A xs hA hx
  unfold An.d at hr
  rw [hda] at hr
  have hT := own_put hr j (.slice (some ⟨wr.heap.size, 0, none⟩) 2 2)
  have hob : A.d.ownBlock = some gd := by unfold An.d; rw [hda]; rfl
  have x : Fx (fun k => A.d.ownBlock = some k) (wr.alloc (.cells #[.int .i64 (i : Int), .int .i64 (j : Int)] 3)) ((wr.alloc (.cells #[.int .i64 (i : Int), .int .i64 (j : Int)] 3)).setCell ⟨gd, j, none⟩ (.slice (some ⟨wr.heap.size, 0, none⟩) 2 2)) := (Fx.refl (fun k => A.d.ownBlock = some k) _).set (p := ⟨gd, j, none⟩) (.inl hob) _
  obtain ⟨s1, s2⟩ := h1.step hd hA hx (by unfold An.d; rw [hda]; exact hT) x
  have hnew : Mx ((wr.alloc (.cells #[.int .i64 (i : Int), .int .i64 (j : Int)] 3)).setCell ⟨gd, j, none⟩ (.slice (some ⟨wr.heap.size, 0, none⟩) 2 2)) i j (.slice (some ⟨wr.heap.size, 0, none⟩) 2 2) := Mx.fx ⟨wr.heap.size, rfl, heap_alloc_new _ _⟩ x s2
  have old : ∀ {a b : Nat} {u : Value}, Mx wr a b u → Mx ((wr.alloc (.cells #[.int .i64 (i : Int), .int .i64 (j : Int)] 3)).setCell ⟨gd, j, none⟩ (.slice (some ⟨wr.heap.size, 0, none⟩) 2 2)) a b u := fun {a b u} q => (q.fx (Q := fun _ => False) (Fx.of_out oA) (fun _ q => q.elim)).fx x s2
  refine ⟨s1, fun a ys b u z1 z2 z3 => ?_, fun b u z1 z2 => ?_⟩
  · rw [List.getElem?_set_ne (by omega)] at z2
    exact old (hM a ys b u z1 z2 z3)
  · rw [List.getElem?_set] at z2
    split at z2
    · rename_i hjb
      subst hjb
      split at z2
      · cases z2; exact hnew
      · cases z2
    · exact old (hM1 b u (by omega) z2)
end Go.Proofs.YtkghabmgofgclaaDoor
