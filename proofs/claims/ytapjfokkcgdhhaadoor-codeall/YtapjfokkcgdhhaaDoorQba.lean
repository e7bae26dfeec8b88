import Derived.Test.YtapjfokkcgdhhaaDoorQaz
namespace Go.Proofs.YtapjfokkcgdhhaaDoor
open Go.RowKit
set_option linter.unusedVariables false
set_option linter.unusedSimpArgs false

theorem rb_mem {vs : List Value} {k : Nat} : RB vs k ↔ ∃ v ∈ vs, v.ownBlock = some k := by
  constructor
  · rintro ⟨j, v, h1, h2⟩; exact ⟨v, List.mem_of_getElem? h1, h2⟩
  · rintro ⟨v, h1, h2⟩
    obtain ⟨j, hj⟩ := List.getElem?_of_mem h1
    exact ⟨j, v, hj, h2⟩
theorem Ap.cat {A B : List Value} {N : Nat} (hA : Ap A) (hB : Ap B) (h1 : ∀ k, RB A k → k < N) (h2 : ∀ k, RB B k → N ≤ k) : Ap (A ++ B) := by
  intro i j a b k hij ha hb hk hk2
  rw [List.getElem?_append] at ha hb
  split at ha <;> split at hb
  · exact hA i j a b k hij ha hb hk hk2
  · have := h1 k ⟨_, _, ha, hk⟩; have := h2 k ⟨_, _, hb, hk2⟩; omega
  · have := h2 k ⟨_, _, ha, hk⟩; have := h1 k ⟨_, _, hb, hk2⟩; omega
  · exact hB _ _ a b k (by omega) ha hb hk hk2
theorem Ap.mix {A B : List Value} (hA : Ap A) (hB : Ap B) (h1 : ∀ k, RB A k → ¬ RB B k) : Ap (A ++ B) := by
  intro i j a b k hij ha hb hk hk2
  rw [List.getElem?_append] at ha hb
  split at ha <;> split at hb
  · exact hA i j a b k hij ha hb hk hk2
  · exact h1 k ⟨_, _, ha, hk⟩ ⟨_, _, hb, hk2⟩
  · exact h1 k ⟨_, _, hb, hk2⟩ ⟨_, _, ha, hk⟩
  · exact hB _ _ a b k (by omega) ha hb hk hk2
def tvs (Ps : List (Int × (Option Addr × Nat) × (Option Addr × Nat) × List Value × List Value × List (List Int) × List (Int × Int × Int × List (Int × Int)))) : List Value := Ps.flatMap gV
def cvs (Ps : List (Int × (Option Addr × Nat) × (Option Addr × Nat) × List Value × List Value × List (List Int) × List (Int × Int × Int × List (Int × Int)))) : List Value := Ps.flatMap gC
/-- the blocks of programs; of their lists of texts -/
def QB (Ps : List (Int × (Option Addr × Nat) × (Option Addr × Nat) × List Value × List Value × List (List Int) × List (Int × Int × Int × List (Int × Int)))) (k : Nat) : Prop := ∃ (i : Nat) (p : (Int × (Option Addr × Nat) × (Option Addr × Nat) × List Value × List Value × List (List Int) × List (Int × Int × Int × List (Int × Int)))), Ps[i]? = some p ∧ PB p k
def TB (Ps : List (Int × (Option Addr × Nat) × (Option Addr × Nat) × List Value × List Value × List (List Int) × List (Int × Int × Int × List (Int × Int)))) (k : Nat) : Prop := ∃ (i : Nat) (p : (Int × (Option Addr × Nat) × (Option Addr × Nat) × List Value × List Value × List (List Int) × List (Int × Int × Int × List (Int × Int)))), Ps[i]? = some p ∧ (gT p).ownBlock = some k
theorem rb_flat {f : (Int × (Option Addr × Nat) × (Option Addr × Nat) × List Value × List Value × List (List Int) × List (Int × Int × Int × List (Int × Int))) → List Value} {Ps : List (Int × (Option Addr × Nat) × (Option Addr × Nat) × List Value × List Value × List (List Int) × List (Int × Int × Int × List (Int × Int)))} {k : Nat} (h : RB (Ps.flatMap f) k) : ∃ (i : Nat) (p : (Int × (Option Addr × Nat) × (Option Addr × Nat) × List Value × List Value × List (List Int) × List (Int × Int × Int × List (Int × Int)))), Ps[i]? = some p ∧ RB (f p) k := by
  obtain ⟨v, h1, h2⟩ := rb_mem.1 h
  obtain ⟨p, h3, h4⟩ := List.mem_flatMap.1 h1
  obtain ⟨i, hi⟩ := List.getElem?_of_mem h3
  exact ⟨i, p, hi, rb_mem.2 ⟨v, h4, h2⟩⟩
theorem tvs_qb {Ps : List (Int × (Option Addr × Nat) × (Option Addr × Nat) × List Value × List Value × List (List Int) × List (Int × Int × Int × List (Int × Int)))} {k : Nat} (h : RB (tvs Ps) k) : QB Ps k := by
  obtain ⟨i, p, h1, h2⟩ := rb_flat h
  exact ⟨i, p, h1, .inr (.inr (.inl h2))⟩
theorem cvs_qb {Ps : List (Int × (Option Addr × Nat) × (Option Addr × Nat) × List Value × List Value × List (List Int) × List (Int × Int × Int × List (Int × Int)))} {k : Nat} (h : RB (cvs Ps) k) : QB Ps k := by
  obtain ⟨i, p, h1, h2⟩ := rb_flat h
  exact ⟨i, p, h1, .inr (.inr (.inr h2))⟩
theorem qb_app {Ps : List (Int × (Option Addr × Nat) × (Option Addr × Nat) × List Value × List Value × List (List Int) × List (Int × Int × Int × List (Int × Int)))} {p : (Int × (Option Addr × Nat) × (Option Addr × Nat) × List Value × List Value × List (List Int) × List (Int × Int × Int × List (Int × Int)))} {k : Nat} (h : QB (Ps ++ [p]) k) : QB Ps k ∨ PB p k := by
  obtain ⟨i, q, h1, h2⟩ := h
  rw [List.getElem?_append] at h1
  split at h1
  · exact .inl ⟨i, q, h1, h2⟩
  · have := List.mem_of_getElem? h1
    simp at this
    subst this
    exact .inr h2
/-- what is kept of programs: those that were read, and what they were -/
def KQ (w : World) (lo : Nat) (pa : Option Addr) (np pk : Nat) (sa : Option Addr) (ms sk : Nat) (Ps Qs : List (Int × (Option Addr × Nat) × (Option Addr × Nat) × List Value × List Value × List (List Int) × List (Int × Int × Int × List (Int × Int)))) : Prop :=
  w.ownsRow lo 35 3 (.slice pa np pk) np (pcl Ps) ∧ w.ownsRow lo 35 3 (.slice sa ms sk) ms (pcl Qs) ∧ (∀ k, (Value.slice pa np pk).ownBlock = some k → (Value.slice sa ms sk).ownBlock ≠ some k) ∧ (∀ (i : Nat) p, Ps[i]? = some p → PW w lo p ∧ okG p) ∧ (∀ (i : Nat) q, Qs[i]? = some q → PW w lo q) ∧ (∀ (i : Nat) p q, Ps[i]? = some p → Qs[i]? = some q → gP p = gP q) ∧ Ap (tvs Ps) ∧ Ap (cvs Ps) ∧ Ap (Ps.map gT) ∧ Ap (Ps.map gF)
section
variable {w w' w6 : World} {lo : Nat} {pa : Option Addr} {np pk : Nat} {sa : Option Addr} {ms sk : Nat} {Ps Qs : List (Int × (Option Addr × Nat) × (Option Addr × Nat) × List Value × List Value × List (List Int) × List (Int × Int × Int × List (Int × Int)))} {p q : (Int × (Option Addr × Nat) × (Option Addr × Nat) × List Value × List Value × List (List Int) × List (Int × Int × Int × List (Int × Int)))} {g cap' N : Nat}
theorem KQ.fx {Q : Nat → Prop} (h : KQ w lo pa np pk sa ms sk Ps Qs) (x : Fx Q w w') (h1 : ∀ k, (Value.slice pa np pk).ownBlock = some k → ¬ Q k) (h2 : ∀ k, (Value.slice sa ms sk).ownBlock = some k → ¬ Q k) (h3 : ∀ k, QB Ps k → ¬ Q k) (h4 : ∀ k, QB Qs k → ¬ Q k) : KQ w' lo pa np pk sa ms sk Ps Qs := by
  obtain ⟨k1, k2, k3, k4, k5, k6⟩ := h
  exact ⟨own_fx k1 x h1, own_fx k2 x h2, k3, fun i p hp => ⟨(k4 i p hp).1.fx x (fun k hk => h3 k ⟨i, p, hp, hk⟩), (k4 i p hp).2⟩, fun i q hq => (k5 i q hq).fx x (fun k hk => h4 k ⟨i, q, hq, hk⟩), k6⟩
theorem KQ.quiet (h : KQ w lo pa np pk sa ms sk Ps Qs) (o : Out 0 0 w w') : KQ w' lo pa np pk sa ms sk Ps Qs := h.fx (Q := fun _ => False) (Fx.of_out o) (fun _ _ q => q) (fun _ _ q => q) (fun _ _ q => q) (fun _ _ q => q)
theorem KQ.len (h : KQ w lo pa np pk sa ms sk Ps Qs) : Ps.length = np ∧ Qs.length = ms := by
  have h1 := h.1.1
  have h2 := h.2.1.1
  rw [pcl_len] at h1 h2
  omega
theorem KQ.qb (h : KQ w lo pa np pk sa ms sk Ps Qs) {k : Nat} (hk : QB Ps k ∨ QB Qs k) : lo ≤ k ∧ k < w.heap.size := by
  rcases hk with ⟨i, p, h1, h2⟩ | ⟨i, p, h1, h2⟩
  · have := (h.2.2.2.1 i p h1).1.ty h2; exact ⟨this.1, this.2.1⟩
  · have := (h.2.2.2.2.1 i p h1).ty h2; exact ⟨this.1, this.2.1⟩
theorem pw_pt {Q : Nat → Prop} (h : PW w lo p) (x : Fx Q w w') (hQ : ∀ k, Q k → ∃ cs, Bl w k cs 35) : PW w' lo p := h.off x fun k hk => by
  obtain ⟨cs, hb⟩ := hQ k hk
  exact .inr ⟨cs, _, hb, by decide, by decide, by decide, by decide⟩
theorem own_pt {E : TypeId} {sz n : Nat} {v : Value} {xs : List Value} (h : w.ownsRow lo E sz v n xs) {k : Nat} (hk : v.ownBlock = some k) : ∃ cs, Bl w k cs E := by
  rcases h.2 with ⟨rfl, _⟩ | ⟨g, cap, cur, rfl, _, hb, _⟩
  · cases hk
  · cases hk; exact ⟨cur, hb⟩
theorem KQ.pushP (h : KQ w lo pa np pk sa ms sk Ps Qs) (hp : PW w lo p) (hk : okG p) (hg : ∀ q, Qs[np]? = some q → gP p = gP q) (hv : Ap (gV p)) (hN : ∀ k, QB Ps k → k < N) (hn : ∀ k, PB p k → N ≤ k) (q1 : w6.ownsRow lo 35 3 (.slice (some ⟨g, 0, none⟩) (np + 1) cap') (np + 1) (pcl Ps ++ [.int .i64 (gX p), gT p, gF p])) (q2 : Fx (fun k => (Value.slice pa np pk).ownBlock = some k) w w6) (q3 : (Value.slice pa np pk).ownBlock = some g ∨ w.heap.size ≤ g) : KQ w6 lo (some ⟨g, 0, none⟩) (np + 1) cap' sa ms sk (Ps ++ [p]) Qs := by
  have hlen := h.len
  obtain ⟨k1, k2, k3, k4, k5, k6, k7, k8, k9, k10⟩ := h
  have hQ : ∀ k, (Value.slice pa np pk).ownBlock = some k → ∃ cs, Bl w k cs 35 := fun k hk => own_pt k1 hk
  refine ⟨by rw [pcl_app]; exact q1, own_fx k2 q2 (fun k hk e => k3 k e hk), fun k hk hk' => ?_, fun i r hr => ?_, fun i r hr => pw_pt (k5 i r hr) q2 hQ, fun i r s hr hs => ?_, ?_, ?_, ?_, ?_⟩
  · cases hk
    rcases q3 with e | e
    · exact k3 _ e hk'
    · exact absurd (own_ge k2 hk').2 (Nat.not_lt.2 e)
  · rw [List.getElem?_append] at hr
    split at hr
    · exact ⟨pw_pt (k4 i r hr).1 q2 hQ, (k4 i r hr).2⟩
    · have := List.mem_of_getElem? hr
      simp at this
      subst this
      exact ⟨pw_pt hp q2 hQ, hk⟩
  · rw [List.getElem?_append] at hr
    split at hr
    · exact k6 i r s hr hs
    · have h9 := List.mem_of_getElem? hr
      have h8 := (List.getElem?_eq_some_iff.1 hr).1
      simp at h9 h8
      subst h9
      have : i = np := by omega
      subst this
      exact hg s hs
  · unfold tvs
    rw [List.flatMap_append, List.flatMap_singleton]
    exact Ap.cat k7 hv (fun k hk => hN k (tvs_qb hk)) (fun k hk => hn k (.inr (.inr (.inl hk))))
  · unfold cvs
    rw [List.flatMap_append, List.flatMap_singleton]
    exact Ap.cat k8 hp.2.2.2.2.2 (fun k hk => hN k (cvs_qb hk)) (fun k hk => hn k (.inr (.inr (.inr hk))))
  · rw [List.map_append]
    refine k9.up (fun j a k h1 h2 => ?_) (fun k h1 => hn k (.inl h1))
    rw [List.getElem?_map] at h1
    obtain ⟨r, hr, rfl⟩ := Option.map_eq_some_iff.1 h1
    exact hN k ⟨j, r, hr, .inl h2⟩
  · rw [List.map_append]
    refine k10.up (fun j a k h1 h2 => ?_) (fun k h1 => hn k (.inr (.inl h1)))
    rw [List.getElem?_map] at h1
    obtain ⟨r, hr, rfl⟩ := Option.map_eq_some_iff.1 h1
    exact hN k ⟨j, r, hr, .inr (.inl h2)⟩
theorem KQ.pushS (h : KQ w lo pa np pk sa ms sk Ps Qs) (hp : PW w lo p) (hg : ∀ r, Ps[ms]? = some r → gP r = gP p) (q1 : w6.ownsRow lo 35 3 (.slice (some ⟨g, 0, none⟩) (ms + 1) cap') (ms + 1) (pcl Qs ++ [.int .i64 (gX p), gT p, gF p])) (q2 : Fx (fun k => (Value.slice sa ms sk).ownBlock = some k) w w6) (q3 : (Value.slice sa ms sk).ownBlock = some g ∨ w.heap.size ≤ g) : KQ w6 lo pa np pk (some ⟨g, 0, none⟩) (ms + 1) cap' Ps (Qs ++ [p]) := by
  have hlen := h.len
  obtain ⟨k1, k2, k3, k4, k5, k6, k7⟩ := h
  have hQ : ∀ k, (Value.slice sa ms sk).ownBlock = some k → ∃ cs, Bl w k cs 35 := fun k hk => own_pt k2 hk
  refine ⟨own_fx k1 q2 (fun k hk e => k3 k hk e), by rw [pcl_app]; exact q1, fun k hk hk' => ?_, fun i r hr => ⟨pw_pt (k4 i r hr).1 q2 hQ, (k4 i r hr).2⟩, fun i r hr => ?_, fun i r s hr hs => ?_, k7⟩
  · cases hk'
    rcases q3 with e | e
    · exact k3 _ hk e
    · exact absurd (own_ge k1 hk).2 (Nat.not_lt.2 e)
  · rw [List.getElem?_append] at hr
    split at hr
    · exact pw_pt (k5 i r hr) q2 hQ
    · have := List.mem_of_getElem? hr
      simp at this
      subst this
      exact pw_pt hp q2 hQ
  · rw [List.getElem?_append] at hs
    split at hs
    · exact k6 i r s hr hs
    · have h9 := List.mem_of_getElem? hs
      have h8 := (List.getElem?_eq_some_iff.1 hs).1
      simp at h9 h8
      subst h9
      have : i = ms := by omega
      subst this
      exact hg r hr
end
/-- the blocks of what is kept of rows -/
def KB (bk n : Nat) (ra : Option Addr) (rk : Nat) (wa : Option Addr) (wk : Nat) (rvs wvs : List Value) (k : Nat) : Prop := k = bk ∨ (Value.slice ra n rk).ownBlock = some k ∨ (Value.slice wa n wk).ownBlock = some k ∨ RB rvs k ∨ RB wvs k
section
variable {v2 v3 : Value} {w w' : World} {lo bk n : Nat} {ra : Option Addr} {rk : Nat} {wa : Option Addr} {wk : Nat} {rvs wvs : List Value} {ls : List (List Int)}
theorem KR.fxB {Q : Nat → Prop} (h : KR v2 v3 w lo bk n n ra rk wa wk rvs wvs ls ls) (x : Fx Q w w') (hQ : ∀ k, KB bk n ra rk wa wk rvs wvs k → ¬ Q k) : KR v2 v3 w' lo bk n n ra rk wa wk rvs wvs ls ls := by
  obtain ⟨h1, ⟨h2, h3, h4⟩, h5, h6, h7, h8⟩ := h
  exact ⟨h1.fx x (hQ _ (.inl rfl)), ⟨own_fx h2 x (fun k hk => hQ k (.inr (.inl hk))), h3.fx x (fun j v t k z1 z2 z3 => hQ k (.inr (.inr (.inr (.inl ⟨j, v, z1, z3⟩))))), h4⟩, own_fx h5 x (fun k hk => hQ k (.inr (.inr (.inl hk)))), h6.fx x (fun j v t k z1 z2 z3 => hQ k (.inr (.inr (.inr (.inr ⟨j, v, z1, z3⟩))))), h7, h8⟩
theorem KR.kb (h : KR v2 v3 w lo bk n n ra rk wa wk rvs wvs ls ls) {k : Nat} (hk : KB bk n ra rk wa wk rvs wvs k) : k < w.heap.size ∧ (k = bk ∨ lo ≤ k) := by
  obtain ⟨h1, ⟨h2, h3, h4⟩, h5, h6, h7, h8⟩ := h
  rcases hk with rfl | hk | hk | ⟨j, v, z1, z2⟩ | ⟨j, v, z1, z2⟩
  · exact ⟨h1.lt, .inl rfl⟩
  · have := own_ge h2 hk; exact ⟨this.2, .inr this.1⟩
  · have := own_ge h5 hk; exact ⟨this.2, .inr this.1⟩
  · obtain ⟨l, hl⟩ : ∃ l, ls[j]? = some l := ⟨_, List.getElem?_eq_getElem (by have := (List.getElem?_eq_some_iff.1 z1).1; have := h3.1; omega)⟩
    have := (h3.2 j v l z1 hl).ob z2; exact ⟨this.2, .inr this.1⟩
  · obtain ⟨l, hl⟩ : ∃ l, ls[j]? = some l := ⟨_, List.getElem?_eq_getElem (by have := (List.getElem?_eq_some_iff.1 z1).1; have := h6.1; omega)⟩
    have := (h6.2 j v l z1 hl).ob z2; exact ⟨this.2, .inr this.1⟩
theorem KR.set2 (h : KR v2 v3 w lo bk n n ra rk wa wk rvs wvs ls ls) (v : Value) : KR v v3 (w.setCell ⟨bk, 2, none⟩ v) lo bk n n ra rk wa wk rvs wvs ls ls := by
  have x : Fx (fun k => k = bk) w (w.setCell ⟨bk, 2, none⟩ v) := (Fx.refl (fun k => k = bk) w).set (p := ⟨bk, 2, none⟩) (.inl rfl) _
  obtain ⟨h1, ⟨h2, h3, h4⟩, h5, h6, h7, h8⟩ := h
  exact ⟨h1.set 2 v, ⟨own_fx h2 x (fun k hk e => by have := (own_ge h2 hk).1; omega), h3.fx x (fun j v t k z1 z2 z3 e => by have := ((h3.2 j v t z1 z2).ob z3).1; omega), h4⟩, own_fx h5 x (fun k hk e => by have := (own_ge h5 hk).1; omega), h6.fx x (fun j v t k z1 z2 z3 e => by have := ((h6.2 j v t z1 z2).ob z3).1; omega), h7, h8⟩
theorem KR.set3 (h : KR v2 v3 w lo bk n n ra rk wa wk rvs wvs ls ls) (v : Value) : KR v2 v (w.setCell ⟨bk, 3, none⟩ v) lo bk n n ra rk wa wk rvs wvs ls ls := by
  have x : Fx (fun k => k = bk) w (w.setCell ⟨bk, 3, none⟩ v) := (Fx.refl (fun k => k = bk) w).set (p := ⟨bk, 3, none⟩) (.inl rfl) _
  obtain ⟨h1, ⟨h2, h3, h4⟩, h5, h6, h7, h8⟩ := h
  exact ⟨h1.set 3 v, ⟨own_fx h2 x (fun k hk e => by have := (own_ge h2 hk).1; omega), h3.fx x (fun j v t k z1 z2 z3 e => by have := ((h3.2 j v t z1 z2).ob z3).1; omega), h4⟩, own_fx h5 x (fun k hk e => by have := (own_ge h5 hk).1; omega), h6.fx x (fun j v t k z1 z2 z3 e => by have := ((h6.2 j v t z1 z2).ob z3).1; omega), h7, h8⟩
end
end Go.Proofs.YtapjfokkcgdhhaaDoor
namespace Go.Proofs.YtapjfokkcgdhhaaDoor
open Go.RowKit
set_option linter.unusedVariables false
set_option linter.unusedSimpArgs false

theorem info_pt : (Tryd.prog.info? 35).map (fun i => (i.zero, i.size, i.bytes)) = some (some (.agg #[.int .i64 0, .slice none 0 0, .slice none 0 0]), 3, 56) := by kernel_rfl
/-- what 'program' leaves -/
def PgQ (w : World) (lo bk n : Nat) (ra : Option Addr) (rk : Nat) (wa : Option Addr) (wk : Nat) (rvs wvs : List Value) (ls : List (List Int)) (pa : Option Addr) (np pk : Nat) (sa : Option Addr) (sk : Nat) (Ps Qs : List (Int × (Option Addr × Nat) × (Option Addr × Nat) × List Value × List Value × List (List Int) × List (Int × Int × Int × List (Int × Int)))) (p q : (Int × (Option Addr × Nat) × (Option Addr × Nat) × List Value × List Value × List (List Int) × List (Int × Int × Int × List (Int × Int)))) (e : Ending) (w' : World) : Prop :=
  e = .returned (.tuple #[]) ∧ Fx (fun k => k = bk ∨ (Value.slice pa np pk).ownBlock = some k ∨ (Value.slice sa np sk).ownBlock = some k) w w' ∧ ∃ pa' pk' sa' sk', KR (.slice pa' (np + 1) pk') (.slice sa' (np + 1) sk') w' lo bk n n ra rk wa wk rvs wvs ls ls ∧ KQ w' lo pa' (np + 1) pk' sa' (np + 1) sk' (Ps ++ [p]) (Qs ++ [q]) ∧ (∀ k, (Value.slice pa' (np + 1) pk').ownBlock = some k → (Value.slice pa np pk).ownBlock = some k ∨ w.heap.size ≤ k) ∧ ∀ k, (Value.slice sa' (np + 1) sk').ownBlock = some k → (Value.slice sa np sk).ownBlock = some k ∨ w.heap.size ≤ k
set_option maxRecDepth 100000 in
set_option maxHeartbeats 4000000 in
theorem kprog_any {w : World} {lo bk n np N : Nat} {ra : Option Addr} {rk : Nat} {wa : Option Addr} {wk : Nat} {rvs wvs : List Value} {ls : List (List Int)} {pa : Option Addr} {pk : Nat} {sa : Option Addr} {sk : Nat} {Ps Qs : List (Int × (Option Addr × Nat) × (Option Addr × Nat) × List Value × List Value × List (List Int) × List (Int × Int × Int × List (Int × Int)))} {p q : (Int × (Option Addr × Nat) × (Option Addr × Nat) × List Value × List Value × List (List Int) × List (Int × Int × Int × List (Int × Int)))} (x y : Int) (ta fa ua va : Option Addr) (nt tc nf fc nu uc nv vc : Nat) (hx : gX p = x) (hgT : gT p = .slice ta nt tc) (hgF : gF p = .slice fa nf fc) (hy : gX q = y) (hhT : gT q = .slice ua nu uc) (hhF : gF q = .slice va nv vc) (hlo : lo ≤ w.heap.size) (hnp : np ≤ 1000) (hK : KR (.slice pa np pk) (.slice sa np sk) w lo bk n n ra rk wa wk rvs wvs ls ls) (hQ : KQ w lo pa np pk sa np sk Ps Qs) (hp : PW w lo p) (hk : okG p) (hv : Ap (gV p)) (hq : PW w lo q) (hpq : gP p = gP q) (hN : ∀ k, QB Ps k → k < N) (hN2 : ∀ k, PB p k → N ≤ k) :
    Calls Tryd.prog 15 #[.pointer (some ⟨bk, 0, none⟩), .agg #[.int .i64 x, .slice ta nt tc, .slice fa nf fc], .agg #[.int .i64 y, .slice ua nu uc, .slice va nv vc]] w (PgQ w lo bk n ra rk wa wk rvs wvs ls pa np pk sa sk Ps Qs p q) := by
  obtain ⟨b1, hb1⟩ : ∃ b, w.heap.size = b := ⟨_, rfl⟩
  obtain ⟨V1, hV1⟩ : ∃ V, (w.alloc (.cells #[.int .i64 x, .slice ta nt tc, .slice fa nf fc] 35)).alloc (.cells #[.int .i64 y, .slice ua nu uc, .slice va nv vc] 35) = V := ⟨_, rfl⟩
  have oV1 : Out 0 0 w V1 := by rw [← hV1]; exact ((Out.refl 0 0 w).alloc _).alloc _
  have B1 : Bl V1 b1 #[.int .i64 x, .slice ta nt tc, .slice fa nf fc] 35 := by rw [← hV1, ← hb1]; exact (Bl.new _ _ _).alloc _
  have B2 : Bl V1 (b1 + 1) #[.int .i64 y, .slice ua nu uc, .slice va nv vc] 35 := by
    rw [← hV1, ← hb1]
    have := Bl.new (w.alloc (.cells #[.int .i64 x, .slice ta nt tc, .slice fa nf fc] 35)) #[.int .i64 y, .slice ua nu uc, .slice va nv vc] 35
    rwa [size_alloc] at this
  obtain ⟨V2, hV2⟩ : ∃ V, V1.drew = V := ⟨_, rfl⟩
  have oV2 : Out 0 0 V1 V2 := by rw [← hV2]; exact (Out.refl 0 0 V1).drew
  obtain ⟨X1, hX1⟩ : ∃ X, V2.alloc (.cells #[.int .i64 x, .slice ta nt tc, .slice fa nf fc] 35) = X := ⟨_, rfl⟩
  obtain ⟨t1, ht1⟩ : ∃ t, V2.heap.size = t := ⟨_, rfl⟩
  have oX1 : Out 0 0 V2 X1 := by rw [← hX1]; exact (Out.refl 0 0 V2).alloc _
  have bX1 : Bl X1 t1 #[.int .i64 x, .slice ta nt tc, .slice fa nf fc] 35 := by rw [← hX1, ← ht1]; exact Bl.new _ _ _
  have oA := (oV1.trans oV2).trans oX1
  have hK1 := hK.quiet oA
  have hQ1 := hQ.quiet oA
  obtain ⟨g3, c3, w3, hr3, q1, q2, q3⟩ := mk_apR (m := 1) (c := 1) (zs := [.int .i64 x, .slice ta nt tc, .slice fa nf fc]) Tryd.underlying26 info_pt rfl (by decide) (by decide) hQ1.1 (Nat.le_trans hlo oA.size) bX1 rfl (by intro u hu; simp at hu; rcases hu with rfl | rfl | rfl <;> rfl) (by omega) (by decide) (by decide) 26
  have hpt : ∀ k, (Value.slice pa np pk).ownBlock = some k → ∃ cs, Bl X1 k cs 35 := fun k hk => own_pt hQ1.1 hk
  have hQ3 := hQ1.pushP (hp.quiet oA) hk (fun r hr => by rw [List.getElem?_eq_none (by have := hQ1.len; omega)] at hr; cases hr) hv hN hN2 (by rw [hx, hgT, hgF]; exact q1) q2 q3
  have hKp := hK1.fx q2 (fun k hk => by obtain ⟨cs, hb⟩ := hpt k hk; exact ⟨cs, _, hb, by decide, by decide, by decide⟩)
  have bkn : ∀ k, (Value.slice pa np pk).ownBlock = some k → k ≠ bk := fun k hk e => by have := (own_ge hQ1.1 hk).1; have := hK.2.2.2.2.2; omega
  have hK3 := hKp.set2 (.slice (some ⟨g3, 0, none⟩) (np + 1) c3)
  obtain ⟨W3, hW3⟩ : ∃ W, w3.setCell ⟨bk, 2, none⟩ (.slice (some ⟨g3, 0, none⟩) (np + 1) c3) = W := ⟨_, rfl⟩
  have xs3 : Fx (fun k => k = bk) w3 W3 := by rw [← hW3]; exact (Fx.refl (fun k => k = bk) w3).set (p := ⟨bk, 2, none⟩) (.inl rfl) _
  rw [hW3] at hK3
  have hbl := hK.2.2.2.2.2
  have nbk : ∀ {u : World} {E : TypeId} {sz m : Nat} {v : Value} {xs : List Value}, u.ownsRow lo E sz v m xs → ∀ k, v.ownBlock = some k → ¬ k = bk := fun h k hk e => by have := (own_ge h hk).1; omega
  have hQ4 := hQ3.fx xs3 (nbk hQ3.1) (nbk hQ3.2.1) (fun k hk e => by have := (hQ3.qb (.inl hk)).1; omega) (fun k hk e => by have := (hQ3.qb (.inr hk)).1; omega)
  have b1n : ∀ k, (Value.slice pa np pk).ownBlock = some k → k < w.heap.size := fun k hk => (own_ge hQ.1 hk).2
  have B2' : Bl W3 (b1 + 1) #[.int .i64 y, .slice ua nu uc, .slice va nv vc] 35 := (((B2.kept oV2 (.inr (Nat.zero_le _))).kept oX1 (.inr (Nat.zero_le _))).fx q2 (fun e => by have := b1n _ e; omega)).fx xs3 (fun e => by have := hK.1.lt; omega)
  obtain ⟨V4, hV4⟩ : ∃ V, W3.drew = V := ⟨_, rfl⟩
  have oV4 : Out 0 0 W3 V4 := by rw [← hV4]; exact (Out.refl 0 0 W3).drew
  obtain ⟨X2, hX2⟩ : ∃ X, V4.alloc (.cells #[.int .i64 y, .slice ua nu uc, .slice va nv vc] 35) = X := ⟨_, rfl⟩
  obtain ⟨t2, ht2⟩ : ∃ t, V4.heap.size = t := ⟨_, rfl⟩
  have oX2 : Out 0 0 V4 X2 := by rw [← hX2]; exact (Out.refl 0 0 V4).alloc _
  have bX2 : Bl X2 t2 #[.int .i64 y, .slice ua nu uc, .slice va nv vc] 35 := by rw [← hX2, ← ht2]; exact Bl.new _ _ _
  have oC := oV4.trans oX2
  have hK5 := hK3.quiet oC
  have hQ5 := hQ4.quiet oC
  have hs3 : w.heap.size ≤ W3.heap.size := Nat.le_trans oA.size (Nat.le_trans q2.size xs3.size)
  obtain ⟨g6, c6, w6, hr6, z1, z2, z3⟩ := mk_apR (m := 1) (c := 1) (zs := [.int .i64 y, .slice ua nu uc, .slice va nv vc]) Tryd.underlying26 info_pt rfl (by decide) (by decide) hQ5.2.1 (Nat.le_trans hlo (Nat.le_trans hs3 oC.size)) bX2 rfl (by intro u hu; simp at hu; rcases hu with rfl | rfl | rfl <;> rfl) (by omega) (by decide) (by decide) 26
  have hspt : ∀ k, (Value.slice sa np sk).ownBlock = some k → ∃ cs, Bl X2 k cs 35 := fun k hk => own_pt hQ5.2.1 hk
  have hq5 : PW X2 lo q := ((pw_pt (hq.quiet oA) q2 hpt).fx xs3 (fun k hk e => by have := ((pw_pt (hq.quiet oA) q2 hpt).ty hk).1; omega)).quiet oC
  have hQ6 := hQ5.pushS hq5 (fun r hr => by
    have hl := hQ.len
    rw [List.getElem?_append_right (by omega), hl.1, Nat.sub_self] at hr
    cases hr
    exact hpq) (by rw [hy, hhT, hhF]; exact z1) z2 z3
  have hKs := hK5.fx z2 (fun k hk => by obtain ⟨cs, hb⟩ := hspt k hk; exact ⟨cs, _, hb, by decide, by decide, by decide⟩)
  have hK6 := hKs.set3 (.slice (some ⟨g6, 0, none⟩) (np + 1) c6)
  have xs6 : Fx (fun k => k = bk) w6 (w6.setCell ⟨bk, 3, none⟩ (.slice (some ⟨g6, 0, none⟩) (np + 1) c6)) := (Fx.refl (fun k => k = bk) w6).set (p := ⟨bk, 3, none⟩) (.inl rfl) _
  have hQ7 := hQ6.fx xs6 (nbk hQ6.1) (nbk hQ6.2.1) (fun k hk e => by have := (hQ6.qb (.inl hk)).1; omega) (fun k hk e => by have := (hQ6.qb (.inr hk)).1; omega)
  have xAll : Fx (fun k => k = bk ∨ (Value.slice pa np pk).ownBlock = some k ∨ (Value.slice sa np sk).ownBlock = some k) w (w6.setCell ⟨bk, 3, none⟩ (.slice (some ⟨g6, 0, none⟩) (np + 1) c6)) := ((((((Fx.of_out oA).trans (q2.wide fun k _ hk => .inr (.inl hk)))).trans (xs3.wide fun k _ hk => .inl hk)).trans (Fx.of_out oC)).trans (z2.wide fun k _ hk => .inr (.inr hk))).trans (xs6.wide fun k _ hk => .inl hk)
  have fP : ∀ k, (Value.slice (some ⟨g3, 0, none⟩) (np + 1) c3).ownBlock = some k → (Value.slice pa np pk).ownBlock = some k ∨ w.heap.size ≤ k := by
    intro k hk
    cases hk
    exact q3.imp id fun e => Nat.le_trans oA.size e
  have fS : ∀ k, (Value.slice (some ⟨g6, 0, none⟩) (np + 1) c6).ownBlock = some k → (Value.slice sa np sk).ownBlock = some k ∨ w.heap.size ≤ k := by
    intro k hk
    cases hk
    exact z3.imp id fun e => Nat.le_trans (Nat.le_trans hs3 oC.size) e
  have HD : Hid (PgQ w lo bk n ra rk wa wk rvs wvs ls pa np pk sa sk Ps Qs p q (.returned (.tuple #[])) (w6.setCell ⟨bk, 3, none⟩ (.slice (some ⟨g6, 0, none⟩) (np + 1) c6))) := hid_mk ⟨rfl, xAll, _, _, _, _, hK6, hQ7, fP, fS⟩
  have HR3 := hid_mk hr3
  have HR6 := hid_mk hr6
  have HA : Hid (∀ W, Out 0 0 V1 W → W.cell? ⟨bk, 2, none⟩ = some (.slice pa np pk) ∧ W.cell? ⟨b1, 0, none⟩ = some (.int .i64 x) ∧ W.cell? ⟨b1, 1, none⟩ = some (.slice ta nt tc) ∧ W.cell? ⟨b1, 2, none⟩ = some (.slice fa nf fc)) := hid_mk fun W o => ⟨o.cell ((hK.quiet oV1).1.cell (i := 2) rfl) (.inr (Nat.zero_le _)), o.cell (B1.cell (i := 0) rfl) (.inr (Nat.zero_le _)), o.cell (B1.cell (i := 1) rfl) (.inr (Nat.zero_le _)), o.cell (B1.cell (i := 2) rfl) (.inr (Nat.zero_le _))⟩
  have HB : Hid (w3.cell? ⟨bk, 2, none⟩ = some (.slice pa np pk) ∧ w3.frozen? ⟨bk, 2, none⟩ = false ∧ w3.cell? ⟨b1, 0, none⟩ = some (.int .i64 x) ∧ w3.cell? ⟨b1, 1, none⟩ = some (.slice ta nt tc) ∧ w3.cell? ⟨b1, 2, none⟩ = some (.slice fa nf fc)) := hid_mk (by
    have b3 := ((B1.kept oV2 (.inr (Nat.zero_le _))).kept oX1 (.inr (Nat.zero_le _))).fx q2 (fun e => by have := b1n _ e; omega)
    exact ⟨hKp.1.cell (i := 2) rfl, hKp.1.frozen 2, b3.cell (i := 0) rfl, b3.cell (i := 1) rfl, b3.cell (i := 2) rfl⟩)
  have HC : Hid (∀ W, Out 0 0 W3 W → W.cell? ⟨bk, 3, none⟩ = some (.slice sa np sk) ∧ W.cell? ⟨b1 + 1, 0, none⟩ = some (.int .i64 y) ∧ W.cell? ⟨b1 + 1, 1, none⟩ = some (.slice ua nu uc) ∧ W.cell? ⟨b1 + 1, 2, none⟩ = some (.slice va nv vc)) := hid_mk fun W o => ⟨o.cell (hK3.1.cell (i := 3) rfl) (.inr (Nat.zero_le _)), o.cell (B2'.cell (i := 0) rfl) (.inr (Nat.zero_le _)), o.cell (B2'.cell (i := 1) rfl) (.inr (Nat.zero_le _)), o.cell (B2'.cell (i := 2) rfl) (.inr (Nat.zero_le _))⟩
  have HE : Hid (w6.cell? ⟨bk, 3, none⟩ = some (.slice sa np sk) ∧ w6.frozen? ⟨bk, 3, none⟩ = false ∧ w6.cell? ⟨b1 + 1, 0, none⟩ = some (.int .i64 y) ∧ w6.cell? ⟨b1 + 1, 1, none⟩ = some (.slice ua nu uc) ∧ w6.cell? ⟨b1 + 1, 2, none⟩ = some (.slice va nv vc)) := hid_mk (by
    have s1n : ∀ k, (Value.slice sa np sk).ownBlock = some k → k < w.heap.size := fun k hk => (own_ge hQ.2.1 hk).2
    have b6 := (B2'.kept oC (.inr (Nat.zero_le _))).fx z2 (fun e => by have := s1n _ e; omega)
    exact ⟨hKs.1.cell (i := 3) rfl, hKs.1.frozen 3, b6.cell (i := 0) rfl, b6.cell (i := 1) rfl, b6.cell (i := 2) rfl⟩)
  have HO1 := hid_mk (And.intro oV2 (oV2.trans oX1))
  have HO2 := hid_mk (And.intro oV4 oC)
  have k0 := (HA.out V1 (Out.refl 0 0 V1))
  clear hx hgT hgF hy hhT hhF hlo hnp hK hQ hp hk hv hq hpq hN hN2 oV1 B1 B2 oV2 oX1 bX1 oA hK1 hQ1 hr3 q1 q2 q3 hpt hQ3 hKp bkn hK3 xs3 hbl nbk hQ4 b1n B2' oV4 oX2 bX2 oC hK5 hQ5 hs3 hr6 z1 z2 z3 hspt hq5 hQ6 hKs hK6 xs6 hQ7 xAll fP fS
  go_enter Tryd.func15, Tryd.ntmps15
  go_upto_region 1 with fail
  (try rw [hV1])
  (try rw [hb1])
  clear hV1 hb1
  refine wp_region_T (S := fun w' => w'.cell? ⟨bk, 2, none⟩ = some (.slice pa np pk) ∧ w'.cell? ⟨b1, 0, none⟩ = some (.int .i64 x) ∧ w'.cell? ⟨b1, 1, none⟩ = some (.slice ta nt tc) ∧ w'.cell? ⟨b1, 2, none⟩ = some (.slice fa nf fc)) (z := 10) (by kernel_rfl) ?hS1 (fun hHeld => ?rest1)
  case hS1 => exact k0
  refine tkT 0 ?_
  refine tkT 1 ?_
  refine tkT 2 ?_
  refine tkT 3 ?_
  refine tkT 4 ?_
  refine tkT 5 ?_
  refine wpAnyT_one (i := 6) (by kernel_rfl) rfl (fun KK hK => ?_)
  simp only [xa, xb, xc]
  go_simp
  (try rw [hV2])
  (try rw [hX1])
  (try rw [ht1])
  refine hK.out _ _ ?hS8 (fun hHeld2 => ?rest8)
  case hS8 => exact HA.out _ HO1.out.2
  clear hK KK
  (try clear hHeld)
  have hHeld := hHeld2
  clear hHeld2
  (try simp only [Act.put, xa, xb, xc, xd, xe, xf])
  refine wpAnyT_one (i := 7) (by kernel_rfl) rfl (fun KK hK => ?_)
  simp only [xa, xb, xc]
  refine app_sr X1 _ _ _ _ rfl _ _ rfl rfl HR3.out ?_
  refine hK.out _ _ ?hS9 (fun hHeld2 => ?rest9)
  case hS9 => exact ⟨HB.out.1, HB.out.2.2⟩
  clear hK KK
  (try clear hHeld)
  have hHeld := hHeld2
  clear hHeld2
  (try simp only [Act.put, xa, xb, xc, xd, xe, xf])
  refine wpAnyT_one (i := 8) (by kernel_rfl) rfl (fun KK hK => ?_)
  simp only [xa, xb, xc]
  go_simp
  refine hK.out _ _ ?hS10 (fun hHeld2 => ?rest10)
  case hS10 => exact hHeld
  clear hK KK
  (try clear hHeld)
  have hHeld := hHeld2
  clear hHeld2
  (try simp only [Act.put, xa, xb, xc, xd, xe, xf])
  refine tkT 9 ?_
  refine wpAnyT_last (by kernel_rfl) rfl (fun KK hK => ?_)
  simp only [xa, xb, xc]
  obtain ⟨s9, z9, -⟩ := HB.out
  go_simp
  (try rw [hW3])
  refine hK.out _ _ ?_
  clear hK KK
  (try simp only [Act.put, xa, xb, xc, xd, xe, xf])
  refine wpAnyT_done (by kernel_rfl) ?_ _
  clear s9 z9 hHeld hV2 hX1 ht1 hW3 k0 HR3 HA HB HO1
  go_upto_region 2 with fail
  have k0 := (HC.out W3 (Out.refl 0 0 W3))
  refine wp_region_T (S := fun w' => w'.cell? ⟨bk, 3, none⟩ = some (.slice sa np sk) ∧ w'.cell? ⟨b1 + 1, 0, none⟩ = some (.int .i64 y) ∧ w'.cell? ⟨b1 + 1, 1, none⟩ = some (.slice ua nu uc) ∧ w'.cell? ⟨b1 + 1, 2, none⟩ = some (.slice va nv vc)) (z := 10) (by kernel_rfl) ?hS12 (fun hHeld => ?rest12)
  case hS12 => exact k0
  refine tkT 0 ?_
  refine tkT 1 ?_
  refine tkT 2 ?_
  refine tkT 3 ?_
  refine tkT 4 ?_
  refine tkT 5 ?_
  refine wpAnyT_one (i := 6) (by kernel_rfl) rfl (fun KK hK => ?_)
  simp only [xa, xb, xc]
  go_simp
  (try rw [hV4])
  (try rw [hX2])
  (try rw [ht2])
  refine hK.out _ _ ?hS19 (fun hHeld2 => ?rest19)
  case hS19 => exact HC.out _ HO2.out.2
  clear hK KK
  (try clear hHeld)
  have hHeld := hHeld2
  clear hHeld2
  (try simp only [Act.put, xa, xb, xc, xd, xe, xf])
  refine wpAnyT_one (i := 7) (by kernel_rfl) rfl (fun KK hK => ?_)
  simp only [xa, xb, xc]
  refine app_sr X2 _ _ _ _ rfl _ _ rfl rfl HR6.out ?_
  refine hK.out _ _ ?hS20 (fun hHeld2 => ?rest20)
  case hS20 => exact ⟨HE.out.1, HE.out.2.2⟩
  clear hK KK
  (try clear hHeld)
  have hHeld := hHeld2
  clear hHeld2
  (try simp only [Act.put, xa, xb, xc, xd, xe, xf])
  refine wpAnyT_one (i := 8) (by kernel_rfl) rfl (fun KK hK => ?_)
  simp only [xa, xb, xc]
  go_simp
  refine hK.out _ _ ?hS21 (fun hHeld2 => ?rest21)
  case hS21 => exact hHeld
  clear hK KK
  (try clear hHeld)
  have hHeld := hHeld2
  clear hHeld2
  (try simp only [Act.put, xa, xb, xc, xd, xe, xf])
  refine tkT 9 ?_
  refine wpAnyT_last (by kernel_rfl) rfl (fun KK hK => ?_)
  simp only [xa, xb, xc]
  obtain ⟨s9, z9, -⟩ := HE.out
  go_simp
  refine hK.out _ _ ?_
  clear hK KK
  (try simp only [Act.put, xa, xb, xc, xd, xe, xf])
  refine wpAnyT_done (by kernel_rfl) ?_ _
  clear s9 z9 hHeld hV4 hX2 ht2 k0 HR6 HC HE HO2
  go_wp2
  exact bodyPost_end (results_none Tryd.results15 _ _ _) rfl HD.out
end Go.Proofs.YtapjfokkcgdhhaaDoor
