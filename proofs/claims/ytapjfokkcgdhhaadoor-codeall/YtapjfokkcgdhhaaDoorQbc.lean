import Derived.Test.YtapjfokkcgdhhaaDoorQbb
namespace Go.Proofs.YtapjfokkcgdhhaaDoor
open Go.RowKit
set_option linter.unusedVariables false
set_option linter.unusedSimpArgs false

theorem TxL.bytesK {w : World} {lo : Nat} {mk t : List Int} {v : Value} (h : TxL w lo mk v t) : ∃ a c, v = .slice a t.length c ∧ BytesAt w a t := by
  obtain ⟨a, c, h1, h2⟩ := h.by
  exact ⟨a, c, h1, h2.bytes⟩
theorem own_cell0K {w : World} {lo n rk i : Nat} {ra : Option Addr} {vs : List Value} {v : Value} (h : w.ownsRow lo 22 1 (.slice ra n rk) n vs) (hn : 0 < n) (hv : vs[i]? = some v) : ∃ go, ra = some ⟨go, 0, none⟩ ∧ w.cell? ⟨go, i, none⟩ = some v := by
  obtain ⟨go, cur, q1, q2, q3, -⟩ := own_cellsX h hn
  exact ⟨go, q1, q3 i v hv⟩
theorem info_iss : (Tryd.prog.info? 38).map (fun i => (i.zero, i.size, i.bytes)) = some (some (.slice none 0 0), 1, 24) := by kernel_rfl
theorem TL.cat {w : World} {lo : Nat} {A B : List Value} {a b : List (List Int)} (hA : TL w lo [] A a) (hB : TL w lo [] B b) : TL w lo [] (A ++ B) (a ++ b) := by
  refine ⟨by rw [List.length_append, List.length_append, hA.1, hB.1], fun j v t h1 h2 => ?_⟩
  rw [List.getElem?_append] at h1 h2
  have hl := hA.1
  split at h1
  · rw [if_pos (by omega)] at h2; exact hA.2 j v t h1 h2
  · rw [if_neg (by omega), ← hl] at h2; exact hB.2 _ v t h1 h2
theorem CLs.cat {w : World} {lo : Nat} {A B : List Value} {a b : List (List (Int × Int))} (hA : CLs w lo A a) (hB : CLs w lo B b) : CLs w lo (A ++ B) (a ++ b) := by
  refine ⟨by rw [List.length_append, List.length_append, hA.1, hB.1], fun j v t h1 h2 => ?_⟩
  rw [List.getElem?_append] at h1 h2
  have hl := hA.1
  split at h1
  · rw [if_pos (by omega)] at h2; exact hA.2 j v t h1 h2
  · rw [if_neg (by omega), ← hl] at h2; exact hB.2 _ v t h1 h2
theorem TL.flat {w : World} {lo : Nat} : ∀ (Ps : List (Int × (Option Addr × Nat) × (Option Addr × Nat) × List Value × List Value × List (List Int) × List (Int × Int × Int × List (Int × Int)))), (∀ p ∈ Ps, PW w lo p) → TL w lo [] (tvs Ps) (Ps.flatMap gTs)
  | [], _ => ⟨rfl, fun j v t q => by cases q⟩
  | p :: Ps, h => by
    unfold tvs
    rw [List.flatMap_cons, List.flatMap_cons]
    exact TL.cat (h p List.mem_cons_self).2.1 (TL.flat Ps fun q hq => h q (List.mem_cons_of_mem _ hq))
theorem cls_of {w : World} {lo : Nat} {cs : List Value} {fs : List (Int × Int × Int × List (Int × Int))} (h : CL w lo [] cs fs) : CLs w lo cs (fs.map fun f => f.2.2.2) := by
  refine ⟨by rw [List.length_map]; exact h.1, fun j c l h1 h2 => ?_⟩
  rw [List.getElem?_map] at h2
  obtain ⟨f, hf, rfl⟩ := Option.map_eq_some_iff.1 h2
  exact h.2.1 j c f h1 hf
def gCd (p : (Int × (Option Addr × Nat) × (Option Addr × Nat) × List Value × List Value × List (List Int) × List (Int × Int × Int × List (Int × Int)))) : List (List (Int × Int)) := (gFs p).map fun f => f.2.2.2
theorem CLs.flat {w : World} {lo : Nat} : ∀ (Ps : List (Int × (Option Addr × Nat) × (Option Addr × Nat) × List Value × List Value × List (List Int) × List (Int × Int × Int × List (Int × Int)))), (∀ p ∈ Ps, PW w lo p) → CLs w lo (cvs Ps) (Ps.flatMap gCd)
  | [], _ => ⟨rfl, fun j v t q => by cases q⟩
  | p :: Ps, h => by
    unfold cvs
    rw [List.flatMap_cons, List.flatMap_cons]
    exact CLs.cat (cls_of (h p List.mem_cons_self).2.2.2) (CLs.flat Ps fun q hq => h q (List.mem_cons_of_mem _ hq))
theorem KQ.drop {w : World} {lo : Nat} {pa : Option Addr} {np pk : Nat} {sa : Option Addr} {ms sk : Nat} {Ps Qs : List (Int × (Option Addr × Nat) × (Option Addr × Nat) × List Value × List Value × List (List Int) × List (Int × Int × Int × List (Int × Int)))} (h : KQ w lo pa np pk sa ms sk Ps Qs) : KQ w lo pa np pk none 0 0 Ps [] :=
  ⟨h.1, World.ownsRow_nil _ _ _ 3, (fun k _ hk => by cases hk), h.2.2.2.1, (fun i q hq => by cases hq), (fun i p q _ hq => by cases hq), h.2.2.2.2.2.2⟩
theorem flat_len {α : Type} {f : (Int × (Option Addr × Nat) × (Option Addr × Nat) × List Value × List Value × List (List Int) × List (Int × Int × Int × List (Int × Int))) → List α} : ∀ (Ps : List (Int × (Option Addr × Nat) × (Option Addr × Nat) × List Value × List Value × List (List Int) × List (Int × Int × Int × List (Int × Int)))), (∀ p ∈ Ps, (f p).length ≤ 64) → (Ps.flatMap f).length ≤ Ps.length * 64
  | [], _ => by simp
  | p :: Ps, h => by
    rw [List.flatMap_cons, List.length_append, List.length_cons]
    have h1 := h p List.mem_cons_self
    have h2 := flat_len Ps fun q hq => h q (List.mem_cons_of_mem _ hq)
    omega
theorem take_flat {α : Type} {f : (Int × (Option Addr × Nat) × (Option Addr × Nat) × List Value × List Value × List (List Int) × List (Int × Int × Int × List (Int × Int))) → List α} {Ps : List (Int × (Option Addr × Nat) × (Option Addr × Nat) × List Value × List Value × List (List Int) × List (Int × Int × Int × List (Int × Int)))} {i : Nat} {p : (Int × (Option Addr × Nat) × (Option Addr × Nat) × List Value × List Value × List (List Int) × List (Int × Int × Int × List (Int × Int)))} (h : Ps[i]? = some p) : (Ps.take (i + 1)).flatMap f = (Ps.take i).flatMap f ++ f p := by
  rw [take_1 h, List.flatMap_append, List.flatMap_singleton]
/-- in the midst of gathering the lists -/
def AS (w wr : World) (lo bk : Nat) (bx : Array Value) (pa : Option Addr) (np pk : Nat) (Ps : List (Int × (Option Addr × Nat) × (Option Addr × Nat) × List Value × List Value × List (List Int) × List (Int × Int × Int × List (Int × Int)))) (rvs : List Value) (ls : List (List Int)) (ra : Option Addr) (N rk : Nat) (RV : List Value) (ca : Option Addr) (M ck : Nat) (CV : List Value) : Prop :=
  Bl wr bk bx 28 ∧ bx[2]? = some (.slice pa np pk) ∧ TL wr lo [] rvs ls ∧ KQ wr lo pa np pk none 0 0 Ps [] ∧ Fx (fun k => lo ≤ k) w wr ∧ wr.ownsRow lo 22 1 (.slice ra N rk) N RV ∧ (∀ k, (Value.slice ra N rk).ownBlock = some k → ¬ TB Ps k) ∧ wr.ownsRow lo 38 1 (.slice ca M ck) M CV ∧ bk < lo
section
variable {w wr w2 : World} {lo bk : Nat} {bx : Array Value} {pa : Option Addr} {np pk : Nat} {Ps : List (Int × (Option Addr × Nat) × (Option Addr × Nat) × List Value × List Value × List (List Int) × List (Int × Int × Int × List (Int × Int)))} {rvs : List Value} {ls : List (List Int)} {ra : Option Addr} {N rk : Nat} {RV : List Value} {ca : Option Addr} {M ck : Nat} {CV : List Value}
theorem AS.quiet (h : AS w wr lo bk bx pa np pk Ps rvs ls ra N rk RV ca M ck CV) (o : Out 0 0 wr w2) : AS w w2 lo bk bx pa np pk Ps rvs ls ra N rk RV ca M ck CV := by
  obtain ⟨h1, h2, h3, h4, h5, h6, h7, h8, h9⟩ := h
  exact ⟨h1.kept o (.inr (Nat.zero_le _)), h2, h3.quiet o, h4.quiet o, h5.trans (Fx.of_out o), own_fx (S := fun _ => False) h6 (Fx.of_out o) (fun _ _ q => q), h7, own_fx (S := fun _ => False) h8 (Fx.of_out o) (fun _ _ q => q), h9⟩
theorem AS.stepR {a2 : Option Addr} {N2 c2 : Nat} {RV2 : List Value} (h : AS w wr lo bk bx pa np pk Ps rvs ls ra N rk RV ca M ck CV) (q1 : w2.ownsRow lo 22 1 (.slice a2 N2 c2) N2 RV2) (q2 : Fx (fun k => (Value.slice ra N rk).ownBlock = some k) wr w2) (q3 : ∀ k, (Value.slice a2 N2 c2).ownBlock = some k → (Value.slice ra N rk).ownBlock = some k ∨ wr.heap.size ≤ k) : AS w w2 lo bk bx pa np pk Ps rvs ls a2 N2 c2 RV2 ca M ck CV := by
  obtain ⟨h1, h2, h3, h4, h5, h6, h7, h8, h9⟩ := h
  refine ⟨h1.fx q2 (own_no h6 h1 (by decide)), h2, h3.fx q2 (fun j v t k z1 z2 z3 => (h3.2 j v t z1 z2).other h6 (by decide) z3), h4.fx q2 (fun k hk => own_apart h4.1 h6 (by decide) hk) (fun k hk => by cases hk) (fun k hk e => ?_) (fun k ⟨i, p, hp, _⟩ => by cases hp), h5.trans (q2.wide fun k _ hk => (own_ge h6 hk).1), q1, fun k hk hT => ?_, own_fx h8 q2 (fun k hk => own_apart h8 h6 (by decide) hk), h9⟩
  · obtain ⟨i, p, hp, hpb⟩ := hk
    obtain ⟨-, -, cs, E, b1, b2⟩ := (h4.2.2.2.1 i p hp).1.ty hpb
    rcases b2 with ⟨e1, -⟩ | ⟨-, e1⟩ | ⟨-, e1⟩ | ⟨-, e1⟩
    · exact h7 k e ⟨i, p, hp, e1⟩
    · exact own_no h6 b1 (by rw [e1]; decide) e
    · exact own_no h6 b1 (by rw [e1]; decide) e
    · exact own_no h6 b1 (by rw [e1]; decide) e
  · rcases q3 k hk with e | e
    · exact h7 k e hT
    · obtain ⟨i, p, hp, hpb⟩ := hT
      have := (h4.qb (.inl ⟨i, p, hp, .inl hpb⟩)).2
      omega
theorem AS.stepC {a2 : Option Addr} {M2 c2 : Nat} {CV2 : List Value} (h : AS w wr lo bk bx pa np pk Ps rvs ls ra N rk RV ca M ck CV) (q1 : w2.ownsRow lo 38 1 (.slice a2 M2 c2) M2 CV2) (q2 : Fx (fun k => (Value.slice ca M ck).ownBlock = some k) wr w2) : AS w w2 lo bk bx pa np pk Ps rvs ls ra N rk RV a2 M2 c2 CV2 := by
  obtain ⟨h1, h2, h3, h4, h5, h6, h7, h8, h9⟩ := h
  refine ⟨h1.fx q2 (own_no h8 h1 (by decide)), h2, h3.fx q2 (fun j v t k z1 z2 z3 => (h3.2 j v t z1 z2).other h8 (by decide) z3), h4.fx q2 (fun k hk => own_apart h4.1 h8 (by decide) hk) (fun k hk => by cases hk) (fun k hk e => ?_) (fun k ⟨i, p, hp, _⟩ => by cases hp), h5.trans (q2.wide fun k _ hk => (own_ge h8 hk).1), own_fx h6 q2 (fun k hk => own_apart h6 h8 (by decide) hk), h7, q1, h9⟩
  obtain ⟨i, p, hp, hpb⟩ := hk
  obtain ⟨-, -, cs, E, b1, b2⟩ := (h4.2.2.2.1 i p hp).1.ty hpb
  rcases b2 with ⟨-, e1⟩ | ⟨-, e1⟩ | ⟨-, e1⟩ | ⟨-, e1⟩
  · exact own_no h8 b1 (by rw [e1]; decide) e
  · exact own_no h8 b1 (by rw [e1]; decide) e
  · exact own_no h8 b1 (by rw [e1]; decide) e
  · exact own_no h8 b1 (by rw [e1]; decide) e
theorem AS.cell2 (h : AS w wr lo bk bx pa np pk Ps rvs ls ra N rk RV ca M ck CV) : wr.cell? ⟨bk, 2, none⟩ = some (.slice pa np pk) := h.1.cell h.2.1
theorem AS.cells {pg i : Nat} {p : (Int × (Option Addr × Nat) × (Option Addr × Nat) × List Value × List Value × List (List Int) × List (Int × Int × Int × List (Int × Int)))} (h : AS w wr lo bk bx (some ⟨pg, 0, none⟩) np pk Ps rvs ls ra N rk RV ca M ck CV) (hp : Ps[i]? = some p) : wr.cell? ⟨pg, i * 3 + 1, none⟩ = some (gT p) ∧ wr.cell? ⟨pg, i * 3 + 2, none⟩ = some (gF p) := ⟨own_at h.2.2.2.1.1 (pcl_at hp).2.1, own_at h.2.2.2.1.1 (pcl_at hp).2.2⟩
theorem KQ.row {lo2 : Nat} {pa : Option Addr} {np pk : Nat} {sa : Option Addr} {ms sk i : Nat} {Ps Qs : List (Int × (Option Addr × Nat) × (Option Addr × Nat) × List Value × List Value × List (List Int) × List (Int × Int × Int × List (Int × Int)))} (h : KQ wr lo2 pa np pk sa ms sk Ps Qs) (hi : i < np) : ∃ p pg, Ps[i]? = some p ∧ pa = some ⟨pg, 0, none⟩ := by
  obtain ⟨p, hp⟩ : ∃ p, Ps[i]? = some p := ⟨_, List.getElem?_eq_getElem (by have := h.len; omega)⟩
  obtain ⟨pg, cur, q1, q2, q3, -⟩ := own_cellsX h.1 (by omega)
  exact ⟨p, pg, hp, q1⟩
theorem KQ.rowS {lo2 : Nat} {pa : Option Addr} {np pk : Nat} {sa : Option Addr} {ms sk i : Nat} {Ps Qs : List (Int × (Option Addr × Nat) × (Option Addr × Nat) × List Value × List Value × List (List Int) × List (Int × Int × Int × List (Int × Int)))} (h : KQ wr lo2 pa np pk sa ms sk Ps Qs) (hi : i < ms) : ∃ p pg, Qs[i]? = some p ∧ sa = some ⟨pg, 0, none⟩ := by
  obtain ⟨p, hp⟩ : ∃ p, Qs[i]? = some p := ⟨_, List.getElem?_eq_getElem (by have := h.len; omega)⟩
  obtain ⟨pg, cur, q1, q2, q3, -⟩ := own_cellsX h.2.1 (by omega)
  exact ⟨p, pg, hp, q1⟩
/-- all lists are gathered: the rows -/
theorem AS.rows (h : AS w wr lo bk bx pa np pk Ps rvs ls ra N rk (rvs ++ tvs Ps) ca M ck (cvs Ps)) (h1 : Ap rvs) (h2 : ∀ k, RB rvs k → ¬ RB (tvs Ps) k) : RW wr lo ra N rk (rvs ++ tvs Ps) (ls ++ Ps.flatMap gTs) ∧ RC wr lo ca M ck (cvs Ps) (Ps.flatMap gCd) := by
  obtain ⟨-, -, h3, h4, -, h6, -, h8, -⟩ := h
  have hp : ∀ p ∈ Ps, PW wr lo p := fun p hp => by
    obtain ⟨i, hi⟩ := List.getElem?_of_mem hp
    exact (h4.2.2.2.1 i p hi).1
  exact ⟨⟨h6, h3.cat (TL.flat Ps hp), h1.mix h4.2.2.2.2.2.2.1 h2⟩, ⟨h8, CLs.flat Ps hp, h4.2.2.2.2.2.2.2.1⟩⟩
/-- rows of bytes were written full -/
theorem RC.full {cs : List Value} {L : List (List (Int × Int))} {vs : List Value} {K : List (List Int)} (h : RC wr lo ca M ck cs L) (hT : TL wr lo [] vs K) (x : Fx (RB vs) wr w2) : RC w2 lo ca M ck cs L := by
  have key : ∀ {E : TypeId} {sz n : Nat} {v : Value} {xs : List Value}, wr.ownsRow lo E sz v n xs → 5 ≠ E → ∀ k, v.ownBlock = some k → ¬ RB vs k := by
    rintro E sz n v xs ho hE k hk ⟨j, u, z1, z2⟩
    obtain ⟨t, ht⟩ : ∃ t, K[j]? = some t := ⟨_, List.getElem?_eq_getElem (by have := (List.getElem?_eq_some_iff.1 z1).1; have := hT.1; omega)⟩
    exact (hT.2 j u t z1 ht).other ho hE z2 hk
  refine ⟨own_fx h.1 x (key h.1 (by decide)), h.2.1.fx x (fun k ⟨j, c, z1, z2⟩ => ?_), h.2.2⟩
  obtain ⟨l, hl⟩ : ∃ l, L[j]? = some l := ⟨_, List.getElem?_eq_getElem (by have := (List.getElem?_eq_some_iff.1 z1).1; have := h.2.1.1; omega)⟩
  obtain ⟨a, c', rfl, ho⟩ := h.2.1.2 j c l z1 hl
  exact key ho (by decide) k (by rw [← z2]; exact ob_len)
/-- behind both: the lists themselves -/
theorem AS.outer {w3 : World} {vs : List Value} {K : List (List Int)} {cs : List Value} {L : List (List (Int × Int))} (h : AS w wr lo bk bx pa np pk Ps rvs ls ra N rk RV ca M ck CV) (hT : TL wr lo [] vs K) (hC : CLs wr lo cs L) (x : Fx (RB vs) wr w2) (y : Fx (RB cs) w2 w3) : OS w3 w3 lo bk bx pa np pk Ps (fun i => (Ps[i]?.map gV).getD []) (fun i => (Ps[i]?.map fun p => fcl (gFs p) (gC p)).getD []) := by
  obtain ⟨h1, h2, h3, h4, h5, h6, h7, h8, h9⟩ := h
  have z : Fx (fun k => RB vs k ∨ RB cs k) wr w3 := (x.wide fun k _ hk => .inl hk).then y fun k _ hk => .inr hk
  have hQ : ∀ k, (RB vs k ∨ RB cs k) → ∃ u E, Bl wr k u E ∧ (E = 5 ∨ E = 61) := by
    rintro k (⟨j, u, z1, z2⟩ | ⟨j, u, z1, z2⟩)
    · obtain ⟨t, ht⟩ : ∃ t, K[j]? = some t := ⟨_, List.getElem?_eq_getElem (by have := (List.getElem?_eq_some_iff.1 z1).1; have := hT.1; omega)⟩
      obtain ⟨-, a, c, rfl, ho⟩ := hT.2 j u t z1 ht
      obtain ⟨cur, hb⟩ := own_pt ho (k := k) (by rw [← z2]; exact ob_len)
      exact ⟨cur, _, hb, .inl rfl⟩
    · obtain ⟨l, hl⟩ : ∃ l, L[j]? = some l := ⟨_, List.getElem?_eq_getElem (by have := (List.getElem?_eq_some_iff.1 z1).1; have := hC.1; omega)⟩
      obtain ⟨a, c, rfl, ho⟩ := hC.2 j u l z1 hl
      obtain ⟨cur, hb⟩ := own_pt ho (k := k) (by rw [← z2]; exact ob_len)
      exact ⟨cur, _, hb, .inr rfl⟩
  have off : ∀ {E : TypeId} {sz n : Nat} {v : Value} {xs : List Value}, wr.ownsRow lo E sz v n xs → E ≠ 5 → E ≠ 61 → ∀ k, v.ownBlock = some k → ¬ (RB vs k ∨ RB cs k) := by
    intro E sz n v xs ho e1 e2 k hk hq
    obtain ⟨u, E', hb, he⟩ := hQ k hq
    rcases he with rfl | rfl
    · exact own_no ho hb e1.symm hk
    · exact own_no ho hb e2.symm hk
  refine ⟨h1.fx z (fun hq => ?_), h2, own_fx h4.1 z (off h4.1 (by decide) (by decide)), fun i p hp => ?_, h4.2.2.2.2.2.2.2.2.1, h4.2.2.2.2.2.2.2.2.2, Fx.refl _ _⟩
  · obtain ⟨u, E', hb, he⟩ := hQ bk hq
    have b1 : wr.heap[bk]? = some (.cells u E' (0, 0)) := hb
    have b2 : wr.heap[bk]? = some (.cells bx 28 (0, 0)) := h1
    rw [b2] at b1
    cases b1
    rcases he with e | e <;> exact absurd e (by decide)
  · have hw := (h4.2.2.2.1 i p hp).1
    simp only [hp, Option.map_some, Option.getD_some]
    exact ⟨own_fx hw.1 z (off hw.1 (by decide) (by decide)), own_fx hw.2.2.1 z (off hw.2.2.1 (by decide) (by decide))⟩
end
end Go.Proofs.YtapjfokkcgdhhaaDoor
namespace Go.Proofs.YtapjfokkcgdhhaaDoor
open Go.RowKit
set_option linter.unusedVariables false
set_option linter.unusedSimpArgs false

set_option maxRecDepth 100000 in
set_option maxHeartbeats 4000000 in
theorem kapart_any {w : World} {lo bk n np : Nat} (hlo : lo ≤ w.heap.size) (hn : n ≤ 1000) (hnp : np ≤ 1000) (h : KP w lo bk n np) :
    Calls Tryd.prog 7 #[.pointer (some ⟨bk, 0, none⟩)] w fun e w' => e = .returned (.bool true) ∧ Fx (fun k => lo ≤ k) w w' := by
  obtain ⟨ra, rk, wa, wk, rvs, wvs, ls, pa, pk, sa, sk, Ps, Qs, hK, hQ, hX, hls⟩ := h
  have HH := hid_mk (And.intro hlo (And.intro hn (And.intro hnp (And.intro hX hls))))
  have HK := hid_mk (And.intro hK hQ)
  clear hlo hn hnp hX hls hK hQ
  go_enter Tryd.func7, Tryd.ntmps7
  go_wp2
  go_loopw [3] (fun c wr => ∃ (i : Nat), c = .int .i64 i ∧ i ≤ n ∧ Out 0 0 w wr) (fun c _ => n - (intOf c).toNat)
  case atStart => exact ⟨0, rfl, Nat.zero_le _, Out.refl _ _ _⟩
  case round =>
    obtain ⟨i, rfl, him, hO⟩ := hrel
    have hK := HK.out.1.quiet hO
    have k0 := hK.1.cell (i := 0) rfl
    by_cases hgo : i < n
    · obtain ⟨l1, l2⟩ := lt_d hgo
      have k1 := hK.1.cell (i := 1) rfl
      obtain ⟨v, hv⟩ : ∃ v, rvs[i]? = some v := ⟨_, List.getElem?_eq_getElem (by have := hK.2.1.len; omega)⟩
      obtain ⟨u, hu⟩ : ∃ u, wvs[i]? = some u := ⟨_, List.getElem?_eq_getElem (by have := hK.2.2.2.1.1; have := hK.2.1.len; omega)⟩
      obtain ⟨l, hli⟩ : ∃ l, ls[i]? = some l := ⟨_, List.getElem?_eq_getElem (by have := hK.2.1.len; omega)⟩
      obtain ⟨go, rfl, c1⟩ := own_cell0K hK.2.1.1 (by omega) hv
      obtain ⟨gw, rfl, c2⟩ := own_cell0K hK.2.2.1 (by omega) hu
      obtain ⟨a1, d1, rfl, b1⟩ := (hK.2.1.2.1.2 i v l hv hli).bytesK
      obtain ⟨a2, d2, rfl, b2⟩ := (hK.2.2.2.1.2 i u l hu hli).bytesK
      obtain ⟨K, hK1⟩ : ∃ K, l.length = K := ⟨_, rfl⟩
      obtain ⟨st, hst⟩ : ∃ st, strOfNums l = st := ⟨_, rfl⟩
      have e1 := conv_bytes (c := d1) b1 hK1
      have e2 := conv_bytes (c := d2) b2 hK1
      rw [hK1] at c1 c2
      rw [hst] at e1 e2
      have HI : Hid (i < n ∧ n ≤ 1000) := hid_mk ⟨hgo, HH.out.2.1⟩
      have HK2 := hid_mk hO
      have lmi : (i : Int) < (n : Int) := by omega
      have e1' : (Go.convert 22 9 (.slice a1 K d1)).run Tryd.prog wr.drew = .ok (.string st) wr.drew := by
        have := conv_bytes (w := wr.drew) (c := d1) b1 hK1
        rwa [hst] at this
      have e2' : (Go.convert 22 9 (.slice a2 K d2)).run Tryd.prog wr.drew = .ok (.string st) wr.drew := by
        have := conv_bytes (w := wr.drew) (c := d2) b2 hK1
        rwa [hst] at this
      have HE := hid_mk (And.intro (And.intro e1 e2) (And.intro e1' e2'))
      clear hK hO hgo him hv hu hli b1 b2 hK1 hst HK e1 e2 e1' e2'
      go_wp2_with fail
      obtain ⟨⟨e1, e2⟩, ⟨e1', e2'⟩⟩ := HE.out
      refine wp_region_held_drew (S := fun w' => w'.cell? ⟨bk, 0, none⟩ = some (.slice (some ⟨go, 0, none⟩) n rk) ∧ w'.cell? ⟨bk, 1, none⟩ = some (.slice (some ⟨gw, 0, none⟩) n wk) ∧ w'.cell? ⟨go, i, none⟩ = some (.slice a1 K d1) ∧ w'.cell? ⟨gw, i, none⟩ = some (.slice a2 K d2) ∧ (Go.convert 22 9 (.slice a1 K d1)).run Tryd.prog w' = .ok (.string st) w' ∧ (Go.convert 22 9 (.slice a2 K d2)).run Tryd.prog w' = .ok (.string st) w') (by kernel_rfl) ?hS1 (fun hHeld => ?rest1)
      case hS1 => first | exact ⟨k0, k1, c1, c2, e1', e2'⟩ | exact ⟨k0, k1, c1, c2, e1, e2⟩
      refine tk 0 ?_
      refine tk 1 ?_
      refine tk 2 ?_
      refine tk 3 ?_
      refine tk 4 ?_
      refine tk 5 ?_
      refine tk 6 ?_
      refine tk 7 ?_
      refine tk 8 ?_
      refine tk 9 ?_
      refine tk 10 ?_
      refine tk 11 ?_
      refine tk 12 ?_
      refine tk 13 ?_
      refine tk 14 ?_
      refine tk 15 ?_
      refine tk 16 ?_
      refine wpAnyH_done (by kernel_rfl) ?_ _
      clear e1 e2 e1' e2' HE hHeld k0 k1 c1 c2
      go_wp2
      exact ⟨⟨i + 1, up_V HI.out.1 (by have := HI.out; omega), HI.out.1, HK2.out.trans (Out.refl 0 0 wr).drew⟩, by rw [up_W HI.out.1 (by have := HI.out; omega)]; exact ms_N HI.out.1⟩
    · obtain rfl : n = i := by omega
      have HK2 := hid_mk hO
      have l1 : decide ((n : Int) < (n : Int)) = false := by simp
      clear hK hO hgo him
      go_wp2
      clear k0
      go_loopw [4] (fun c wr => ∃ (i : Nat), c = .int .i64 i ∧ i ≤ np ∧ Out 0 0 w wr) (fun c _ => np - (intOf c).toNat)
      case atStart => exact ⟨0, rfl, Nat.zero_le _, HK2.out⟩
      case round =>
        obtain ⟨i, rfl, him, hO⟩ := hrel
        have hK := HK.out.1.quiet hO
        have hQ := HK.out.2.quiet hO
        have k2 := hK.1.cell (i := 2) rfl
        by_cases hgo : i < np
        · obtain ⟨l1, l2⟩ := lt_d hgo
          have k3 := hK.1.cell (i := 3) rfl
          obtain ⟨p, pg, hp, rfl⟩ := hQ.row hgo
          obtain ⟨q, sg, hq, rfl⟩ := hQ.rowS hgo
          have lmi : (i : Int) < (np : Int) := by omega
          obtain ⟨V3, hV3⟩ : ∃ V3, wr.drew = V3 := ⟨_, rfl⟩
          have oV : Out 0 0 wr V3 := by rw [← hV3]; exact (Out.refl 0 0 wr).drew
          have c0 := own_at hQ.1 (pcl_at hp).1
          have c1 := own_at hQ.1 (pcl_at hp).2.1
          have c2 := own_at hQ.1 (pcl_at hp).2.2
          have d0 := own_at hQ.2.1 (pcl_at hq).1
          have d1 := own_at hQ.2.1 (pcl_at hq).2.1
          have d2 := own_at hQ.2.1 (pcl_at hq).2.2
          have hpq := hQ.2.2.2.2.2.1 i p q hp hq
          obtain ⟨hpw, hok⟩ := hQ.2.2.2.1 i p hp
          have hqw := hQ.2.2.2.2.1 i q hq
          have hpw3 := hpw.quiet oV
          have hqw3 := hqw.quiet oV
          obtain ⟨x, hx⟩ : ∃ x, gX p = x := ⟨_, rfl⟩
          obtain ⟨ta, nt, tc, hgT, hnt, hta⟩ : ∃ ta nt tc, gT p = .slice ta nt tc ∧ (gTs p).length = nt ∧ p.2.1.1 = ta := ⟨_, _, _, rfl, rfl, rfl⟩
          obtain ⟨fa, nf, fc, hgF, hnf, hfa⟩ : ∃ fa nf fc, gF p = .slice fa nf fc ∧ (gFs p).length = nf ∧ p.2.2.1.1 = fa := ⟨_, _, _, rfl, rfl, rfl⟩
          obtain ⟨y, hy⟩ : ∃ y, gX q = y := ⟨_, rfl⟩
          obtain ⟨ua, nu, uc, hhT, hnu, hua⟩ : ∃ ta nt tc, gT q = .slice ta nt tc ∧ (gTs q).length = nt ∧ q.2.1.1 = ta := ⟨_, _, _, rfl, rfl, rfl⟩
          obtain ⟨va, nv, vc, hhF, hnv, hva⟩ : ∃ fa nf fc, gF q = .slice fa nf fc ∧ (gFs q).length = nf ∧ q.2.2.1.1 = fa := ⟨_, _, _, rfl, rfl, rfl⟩
          rw [hx] at c0
          rw [hgT] at c1
          rw [hgF] at c2
          rw [hy] at d0
          rw [hhT] at d1
          rw [hhF] at d2
          have HSm := hid_mk (same_any (w := V3) (B := V3.heap.size) x y (gTs p) (gTs q) (gFs p) (gFs q) ta ua fa va nt nu nf nv tc uc fc vc hnt hnu hnf hnv (by rw [← hta]; exact hpw3.tx) (by rw [← hua]; exact hqw3.tx) (by rw [← hfa]; exact hpw3.fn) (by rw [← hva]; exact hqw3.fn) ⟨by have := hok.1; omega, by have := hok.2.1; omega, fun f hf => by have := hok.2.2.2 f hf; omega⟩)
          have HEq : Hid ((x, gTs p, gFs p) = (y, gTs q, gFs q)) := hid_mk (by rw [← hx, ← hy]; exact hpq)
          have HI : Hid (i < np ∧ np ≤ 1000) := hid_mk ⟨hgo, HH.out.2.2.1⟩
          have HC : Hid (∀ W, Out 0 0 V3 W → W.cell? ⟨bk, 2, none⟩ = some (.slice (some ⟨pg, 0, none⟩) np pk) ∧ W.cell? ⟨bk, 3, none⟩ = some (.slice (some ⟨sg, 0, none⟩) np sk) ∧ W.cell? ⟨pg, i * 3, none⟩ = some (.int .i64 x) ∧ W.cell? ⟨pg, i * 3 + 1, none⟩ = some (.slice ta nt tc) ∧ W.cell? ⟨pg, i * 3 + 2, none⟩ = some (.slice fa nf fc) ∧ W.cell? ⟨sg, i * 3, none⟩ = some (.int .i64 y) ∧ W.cell? ⟨sg, i * 3 + 1, none⟩ = some (.slice ua nu uc) ∧ W.cell? ⟨sg, i * 3 + 2, none⟩ = some (.slice va nv vc)) := hid_mk fun W o => ⟨(oV.trans o).cell k2 (.inr (Nat.zero_le _)), (oV.trans o).cell k3 (.inr (Nat.zero_le _)), (oV.trans o).cell c0 (.inr (Nat.zero_le _)), (oV.trans o).cell c1 (.inr (Nat.zero_le _)), (oV.trans o).cell c2 (.inr (Nat.zero_le _)), (oV.trans o).cell d0 (.inr (Nat.zero_le _)), (oV.trans o).cell d1 (.inr (Nat.zero_le _)), (oV.trans o).cell d2 (.inr (Nat.zero_le _))⟩
          have HOV := hid_mk (hO.trans oV)
          clear hK hQ hO hgo him hp hq oV hpq hpw hok hqw hpw3 hqw3 hx hgT hnt hta hgF hnf hfa hy hhT hnu hua hhF hnv hva HK2 HK
          go_wp2_with fail
          refine wp_region_held_drew (S := fun w' => w'.cell? ⟨bk, 2, none⟩ = some (.slice (some ⟨pg, 0, none⟩) np pk) ∧ w'.cell? ⟨bk, 3, none⟩ = some (.slice (some ⟨sg, 0, none⟩) np sk) ∧ w'.cell? ⟨pg, i * 3, none⟩ = some (.int .i64 x) ∧ w'.cell? ⟨pg, i * 3 + 1, none⟩ = some (.slice ta nt tc) ∧ w'.cell? ⟨pg, i * 3 + 2, none⟩ = some (.slice fa nf fc) ∧ w'.cell? ⟨sg, i * 3, none⟩ = some (.int .i64 y) ∧ w'.cell? ⟨sg, i * 3 + 1, none⟩ = some (.slice ua nu uc) ∧ w'.cell? ⟨sg, i * 3 + 2, none⟩ = some (.slice va nv vc)) (by kernel_rfl) ?hS19 (fun hHeld => ?rest19)
          case hS19 => exact ⟨k2, k3, c0, c1, c2, d0, d1, d2⟩
          refine tk 0 ?_
          refine tk 1 ?_
          refine tk 2 ?_
          refine tk 3 ?_
          refine tk 4 ?_
          refine tk 5 ?_
          refine tk 6 ?_
          refine tk 7 ?_
          refine tk 8 ?_
          refine tk 9 ?_
          refine tk 10 ?_
          refine tk 11 ?_
          refine tk 12 ?_
          refine tk 13 ?_
          refine wpAnyH_ready (rs := [14]) (by kernel_rfl) (by simp) ?_
          refine AllReadyH.cons rfl (fun KK hK => ?_) AllReadyH.nil
          simp only [xa, xb, xc]
          go_simp
          (try rw [hV3])
          refine HSm.out.mono ?_
          rintro e9 w5 ⟨⟨bb, rfl, hbb⟩, o5⟩
          obtain rfl : bb = true := hbb.2 HEq.out
          refine hK.out _ _ ?hS34 (fun hHeld2 => ?rest34)
          case hS34 => exact HC.out _ o5
          clear hK KK
          (try clear hHeld)
          have hHeld := hHeld2
          clear hHeld2
          (try simp only [Act.put, xa, xb, xc, xd, xe, xf])
          refine tk 15 ?_
          refine wpAnyH_done (by kernel_rfl) ?_ _
          have HO5 := hid_mk (HOV.out.trans o5)
          clear hHeld hV3 hbb o5 HSm HEq HC HOV k2 k3 c0 c1 c2 d0 d1 d2
          go_wp2
          exact ⟨⟨i + 1, up_V HI.out.1 (by have := HI.out; omega), HI.out.1, HO5.out⟩, by rw [up_W HI.out.1 (by have := HI.out; omega)]; exact ms_N HI.out.1⟩
        · obtain rfl : np = i := by omega
          have k0 := hK.1.cell (i := 0) rfl
          have l1 : decide ((np : Int) < (np : Int)) = false := by simp
          have HA0 : Hid (AS w wr lo bk #[.slice ra n rk, .slice wa n wk, .slice pa np pk, .slice sa np sk] pa np pk Ps rvs ls ra n rk (rvs ++ tvs (Ps.take 0)) none 0 0 (cvs (Ps.take 0))) := hid_mk ⟨hK.1, rfl, hK.2.1.2.1, hQ.drop, Fx.of_out hO, by rw [List.take_zero]; show wr.ownsRow lo 22 1 (.slice ra n rk) n (rvs ++ []); rw [List.append_nil]; exact hK.2.1.1, fun k hk => (HH.out.2.2.2.1.2 k (.inl hk)).1, World.ownsRow_nil _ _ _ 1, hK.2.2.2.2.2⟩
          have HB : Hid (Ap rvs ∧ rvs.length = n ∧ ls.length = n ∧ Ps.length = np ∧ ∀ p ∈ Ps, okG p) := hid_mk ⟨hK.2.1.2.2, hK.2.1.len.1, hK.2.1.len.2, hQ.len.1, fun p hp => by
            obtain ⟨i, hi⟩ := List.getElem?_of_mem hp
            exact (hQ.2.2.2.1 i p hi).2⟩
          have HL : Hid (∀ i, i ≤ np → (tvs (Ps.take i)).length ≤ np * 64 ∧ (cvs (Ps.take i)).length ≤ np * 64) := hid_mk (by
            intro i hi
            have h1 : (Ps.take i).length ≤ np := by rw [List.length_take]; omega
            have h2 : ∀ p ∈ Ps.take i, PW wr lo p ∧ okG p := fun p hp => by
              obtain ⟨j, hj⟩ := List.getElem?_of_mem (List.mem_of_mem_take hp)
              exact hQ.2.2.2.1 j p hj
            have h3 := flat_len (f := gV) (Ps.take i) (fun p hp => by have := (h2 p hp).1.2.1.1; have := (h2 p hp).2.1; omega)
            have h4 := flat_len (f := gC) (Ps.take i) (fun p hp => by have := (h2 p hp).1.2.2.2.1; have := (h2 p hp).2.2.1; omega)
            unfold tvs cvs
            have := Nat.mul_le_mul_right 64 h1
            omega)
          clear hK hQ hO hgo him HK2 HK
          go_wp2
          clear k0 k2
          go_loopw [5, 6, 7] (fun c5 c6 c wr => ∃ (i N rk' M ck : Nat) (ra' ca : Option Addr), c5 = .slice ra' N rk' ∧ c6 = .slice ca M ck ∧ c = .int .i64 i ∧ i ≤ np ∧ AS w wr lo bk #[.slice ra n rk, .slice wa n wk, .slice pa np pk, .slice sa np sk] pa np pk Ps rvs ls ra' N rk' (rvs ++ tvs (Ps.take i)) ca M ck (cvs (Ps.take i))) (fun _ _ c _ => np - (intOf c).toNat)
          case atStart => exact ⟨0, n, rk, 0, 0, ra, none, rfl, rfl, rfl, Nat.zero_le _, HA0.out⟩
          case round =>
            obtain ⟨i, N, rk', M, ck, ra', ca, rfl, rfl, rfl, him, hA⟩ := hrel
            have k2 := hA.cell2
            by_cases hgo : i < np
            · obtain ⟨l1, l2⟩ := lt_d hgo
              obtain ⟨p, pg, hp, rfl⟩ := hA.2.2.2.1.row hgo
              have lmi : (i : Int) < (np : Int) := by omega
              obtain ⟨ta, nt, tc, hgT, hnt⟩ : ∃ ta nt tc, gT p = .slice ta nt tc ∧ (gTs p).length = nt := ⟨_, _, _, rfl, rfl⟩
              obtain ⟨fa, nf, fc, hgF, hnf⟩ : ∃ fa nf fc, gF p = .slice fa nf fc ∧ (gFs p).length = nf := ⟨_, _, _, rfl, rfl⟩
              have c1 := (hA.cells hp).1
              rw [hgT] at c1
              obtain ⟨hpw, hok⟩ := hA.2.2.2.1.2.2.2.1 i p hp
              have hsrc : nt = 0 ∨ ∃ vb off, ta = some ⟨vb, off, none⟩ ∧ ∀ (j : Nat) u, (gV p)[j]? = some u → wr.cell? ⟨vb, off + j, none⟩ = some u := by
                have ho := hpw.1
                rw [hgT, hnt] at ho
                by_cases h0 : nt = 0
                · exact .inl h0
                · obtain ⟨gt, cur, rfl, q1, q2, q3, -⟩ := own_cellsX ho (by omega)
                  exact .inr ⟨gt, 0, rfl, fun j u hj => by rw [Nat.zero_add]; exact q2 j u hj⟩
              have hVl : (gV p).length = nt := by have := hpw.2.1.1; omega
              have hN := hA.2.2.2.2.2.1.1
              have hL1 := HL.out i him
              rw [List.length_append, HB.out.2.1] at hN
              have hone : ∀ u ∈ gV p, u.oneCell' = true := by
                intro u hu
                obtain ⟨j, hj⟩ := List.getElem?_of_mem hu
                obtain ⟨t, ht⟩ : ∃ t, (gTs p)[j]? = some t := ⟨_, List.getElem?_eq_getElem (by have := (List.getElem?_eq_some_iff.1 hj).1; omega)⟩
                obtain ⟨-, a, c, rfl, -⟩ := hpw.2.1.2 j u t hj ht
                rfl
              obtain ⟨a3, c3, w3, hr3, q1, q2, q4⟩ := app_at (T := 25) (c := tc) Tryd.underlying25 info_bs rfl (by decide) (by decide) hA.2.2.2.2.2.1 (Nat.le_trans HH.out.1 hA.2.2.2.2.1.size) hsrc (by omega) hone (by have := HH.out; omega) (by have := hok.1; omega) 25
              have hA3 := hA.stepR q1 q2 (fun k hk => by
                rcases q4 with e | e
                · rw [e] at hk; exact .inl hk
                · rw [e] at hk; cases hk; exact .inr (Nat.le_refl _))
              rw [List.append_assoc, show tvs (Ps.take i) ++ gV p = tvs (Ps.take (i + 1)) from (take_flat hp).symm] at hA3
              obtain ⟨N3, hN3⟩ : ∃ N3, N + nt = N3 := ⟨_, rfl⟩
              rw [hN3] at hA3 hr3
              have HA3 : Hid (AS w w3 lo bk #[.slice ra n rk, .slice wa n wk, .slice (some ⟨pg, 0, none⟩) np pk, .slice sa np sk] (some ⟨pg, 0, none⟩) np pk Ps rvs ls a3 N3 c3 (rvs ++ tvs (Ps.take (i + 1))) ca M ck (cvs (Ps.take i) ++ (gC p).take 0)) := hid_mk (by rw [List.take_zero, List.append_nil]; exact hA3)
              have HR3 := hid_mk hr3
              have HI : Hid (i < np ∧ np ≤ 1000 ∧ nf ≤ 64 ∧ Ps[i]? = some p ∧ gF p = .slice fa nf fc ∧ (gFs p).length = nf ∧ n ≤ 1000) := hid_mk ⟨hgo, HH.out.2.2.1, by have := hok.2.1; omega, hp, hgF, hnf, HH.out.2.1⟩
              clear hA hgo him hp hgT hnt hgF hnf hpw hok hsrc hVl hN hL1 hone q1 q2 q4 hA3 hN3 hr3 HA0
              go_upto_region 17 with (at_builtin; refine app_st rfl _ _ _ _ rfl rfl rfl HR3.out ?_)
              clear k2 c1 HR3
              go_wp2
              go_loopw [6, 8] (fun c6 cj wz => ∃ (j M ck : Nat) (ca : Option Addr), c6 = .slice ca M ck ∧ cj = .int .i64 j ∧ j ≤ nf ∧ AS w wz lo bk #[.slice ra n rk, .slice wa n wk, .slice (some ⟨pg, 0, none⟩) np pk, .slice sa np sk] (some ⟨pg, 0, none⟩) np pk Ps rvs ls a3 N3 c3 (rvs ++ tvs (Ps.take (i + 1))) ca M ck (cvs (Ps.take i) ++ (gC p).take j)) (fun _ cj _ => nf - (intOf cj).toNat)
              case atStart => exact ⟨0, M, ck, ca, rfl, rfl, Nat.zero_le _, HA3.out⟩
              case round =>
                obtain ⟨j, M, ck, ca, rfl, rfl, hjn, hA⟩ := hrel
                have k2 := hA.cell2
                obtain ⟨hgo, hnp, hnf4, hp, hgF, hnf, hn⟩ := HI.out
                have c2 := (hA.cells hp).2
                rw [hgF] at c2
                obtain ⟨hpw, hok⟩ := hA.2.2.2.1.2.2.2.1 i p hp
                have hCl : (gC p).length = nf := by have := hpw.2.2.2.1; omega
                by_cases hgj : j < nf
                · obtain ⟨p1, p2⟩ := lt_d hgj
                  have hown := hpw.2.2.1
                  rw [hgF, hnf] at hown
                  obtain ⟨gf, cur, rfl, q1, q2, q3, -⟩ := own_cellsX hown (by omega)
                  obtain ⟨f, hf⟩ : ∃ f, (gFs p)[j]? = some f := ⟨_, List.getElem?_eq_getElem (by omega)⟩
                  obtain ⟨cv, hcv⟩ : ∃ c, (gC p)[j]? = some c := ⟨_, List.getElem?_eq_getElem (by omega)⟩
                  have s3 := own_at hown (fcl_at hf hcv).2.2.2
                  obtain ⟨a5, c5, rfl, -⟩ := cdl_nil.1 (hpw.2.2.2.2.1 j cv f hcv hf)
                  obtain ⟨m5, hm5⟩ : ∃ m, f.2.2.2.length = m := ⟨_, rfl⟩
                  rw [hm5] at s3 hcv
                  have lmj : (j : Int) < (nf : Int) := by omega
                  obtain ⟨X1, hX1⟩ : ∃ X, wr.alloc (.cells #[.slice a5 m5 c5] 38) = X := ⟨_, rfl⟩
                  obtain ⟨t1, ht1⟩ : ∃ t, wr.heap.size = t := ⟨_, rfl⟩
                  have oX1 : Out 0 0 wr X1 := by rw [← hX1]; exact (Out.refl 0 0 wr).alloc _
                  have bX1 : Bl X1 t1 #[.slice a5 m5 c5] 38 := by rw [← hX1, ← ht1]; exact Bl.new _ _ _
                  have hA1 := hA.quiet oX1
                  have hM := hA.2.2.2.2.2.2.2.1.1
                  have hL1 := HL.out i (by omega)
                  rw [List.length_append, List.length_take] at hM
                  obtain ⟨g6, c6, w6, hr6, z1, z2, z3⟩ := mk_apR (m := 1) (c := 1) (zs := [.slice a5 m5 c5]) Tryd.underlying53 info_iss rfl (by decide) (by decide) hA1.2.2.2.2.2.2.2.1 (Nat.le_trans HH.out.1 hA1.2.2.2.2.1.size) bX1 rfl (by intro u hu; simp at hu; subst hu; rfl) (by omega) (by decide) (by decide) 53
                  have hA6 := hA1.stepC z1 z2
                  rw [List.append_assoc, ← take_1 hcv] at hA6
                  have HR6 := hid_mk hr6
                  have HE := hid_mk (And.intro hgj (And.intro hnf4 hA6))
                  clear hA hgo hnp hnf4 hp hgF hnf hn hpw hok hCl hgj hjn hown q1 q2 q3 hf hcv hm5 oX1 bX1 hA1 hM hL1 hr6 z1 z2 z3 hA6 l1 l2 HA3
                  go_wp2_with (at_builtin; (try rw [hX1]); (try rw [ht1]); refine app_st rfl _ _ _ _ rfl rfl rfl HR6.out ?_)
                  exact ⟨⟨j + 1, _, _, _, rfl, up_V (K := 64) (by have := HE.out; omega) (by omega), HE.out.1, HE.out.2.2⟩, by rw [up_W (K := 64) (by have := HE.out; omega) (by omega)]; exact ms_N HE.out.1⟩
                · obtain rfl : nf = j := by omega
                  have p1 : decide ((nf : Int) < (nf : Int)) = false := by simp
                  rw [show (gC p).take nf = gC p from List.take_of_length_le (by omega), show cvs (Ps.take i) ++ gC p = cvs (Ps.take (i + 1)) from (take_flat hp).symm] at hA
                  have HE := hid_mk (And.intro hgo (And.intro hnp hA))
                  clear hA hgo hnp hnf4 hp hgF hnf hn hpw hok hCl hgj hjn l1 l2 HA3
                  go_wp2
                  exact ⟨⟨i + 1, _, _, _, _, _, _, rfl, rfl, up_V HE.out.1 (by have := HE.out; omega), HE.out.1, HE.out.2.2⟩, by rw [up_W HE.out.1 (by have := HE.out; omega)]; exact ms_N HE.out.1⟩
            · obtain rfl : np = i := by omega
              have l1 : decide ((np : Int) < (np : Int)) = false := by simp
              have hL1 := HL.out np him
              obtain ⟨hap, hl1, hl2, hl3, hok⟩ := HB.out
              rw [List.take_of_length_le (by omega)] at hA hL1
              obtain ⟨hRW, hRC⟩ := hA.rows hap HH.out.2.2.2.1.1
              have hlw := Nat.le_trans HH.out.1 hA.2.2.2.2.1.size
              have hN := hA.2.2.2.2.2.1.1
              have hM := hA.2.2.2.2.2.2.2.1.1
              rw [List.length_append, hl1] at hN
              have hb1 : ∀ l ∈ ls ++ Ps.flatMap gTs, l.length ≤ 100000 := by
                intro l hl
                rcases List.mem_append.1 hl with h | h
                · have := HH.out.2.2.2.2 l h; omega
                · obtain ⟨p, hp, ht⟩ := List.mem_flatMap.1 h
                  have := (hok p hp).2.2.1 l ht; omega
              have hb2 : ∀ l ∈ Ps.flatMap gCd, l.length ≤ 100000 := by
                intro l hl
                obtain ⟨p, hp, ht⟩ := List.mem_flatMap.1 hl
                obtain ⟨f, hf, rfl⟩ := List.mem_map.1 ht
                have := (hok p hp).2.2.2 f hf; omega
              have HFu := hid_mk (full_any hlw hRW hb1 (by have := HH.out.2; omega))
              have HFc : Hid (∀ w5, Fx (RB (rvs ++ tvs Ps)) wr w5 → Calls Tryd.prog 17 #[.slice ca M ck] w5 fun e w' => e = .returned (.bool true) ∧ Fx (RB (cvs Ps)) w5 w') := hid_mk fun w5 x5 => codes_any (Nat.le_trans hlw x5.size) (hRC.full hRW.2.1 x5) hb2 (by have := HH.out.2; omega)
              have HFo : Hid (∀ w5 w6, Fx (RB (rvs ++ tvs Ps)) wr w5 → Fx (RB (cvs Ps)) w5 w6 → Calls Tryd.prog 18 #[.pointer (some ⟨bk, 0, none⟩)] w6 fun e w' => e = .returned (.bool true) ∧ Fx (OB Ps) w6 w') := hid_mk fun w5 w6 x5 x6 => outer_any (Nat.le_trans hlw (Nat.le_trans x5.size x6.size)) (hA.outer hRW.2.1 hRC.2.1 x5 x6) (fun i p hp => hok p (List.mem_of_getElem? hp)) HH.out.2.2.1
              have HEnd : Hid (∀ w5 w6 w7, Fx (RB (rvs ++ tvs Ps)) wr w5 → Fx (RB (cvs Ps)) w5 w6 → Fx (OB Ps) w6 w7 → Fx (fun k => lo ≤ k) w w7) := hid_mk (by
                intro w5 w6 w7 x5 x6 x7
                refine ((hA.2.2.2.2.1.trans (x5.wide fun k _ hk => ?_)).trans (x6.wide fun k _ hk => ?_)).trans (x7.wide fun k _ hk => ?_)
                · obtain ⟨j, v, z1, z2⟩ := hk
                  obtain ⟨l, hl⟩ : ∃ l, (ls ++ Ps.flatMap gTs)[j]? = some l := ⟨_, List.getElem?_eq_getElem (by have := (List.getElem?_eq_some_iff.1 z1).1; have := hRW.2.1.1; omega)⟩
                  exact ((hRW.2.1.2 j v l z1 hl).ob z2).1
                · obtain ⟨j, v, z1, z2⟩ := hk
                  obtain ⟨l, hl⟩ : ∃ l, (Ps.flatMap gCd)[j]? = some l := ⟨_, List.getElem?_eq_getElem (by have := (List.getElem?_eq_some_iff.1 z1).1; have := hRC.2.1.1; omega)⟩
                  exact ((hRC.2.1.2 j v l z1 hl).ob z2).1
                · obtain ⟨j, p, z1, z2⟩ := hk
                  refine (hA.2.2.2.1.qb (.inl ⟨j, p, z1, ?_⟩)).1
                  rcases z2 with z2 | z2
                  · exact .inl z2
                  · exact .inr (.inl z2))
              clear hA hap hl1 hl2 hl3 hok hRW hRC hlw hN hM hb1 hb2 hL1 hgo him HA0 HB HL
              go_upto_region 21 with fail
              go_wp2_with (first | (go_at_call 16; refine HFu.out.mono ?_; rintro e w5 ⟨rfl, x5⟩; have HX5 := hid_mk x5; clear x5) | (go_at_call 17; refine (HFc.out _ HX5.out).mono ?_; rintro e w6 ⟨rfl, x6⟩; have HX6 := hid_mk x6; clear x6) | (go_at_call 18; refine (HFo.out _ _ HX5.out HX6.out).mono ?_; rintro e w7 ⟨rfl, x7⟩; have HX7 := hid_mk x7; clear x7))
              go_ret
              exact ⟨rfl, HEnd.out _ _ _ HX5.out HX6.out HX7.out⟩
end Go.Proofs.YtapjfokkcgdhhaaDoor
