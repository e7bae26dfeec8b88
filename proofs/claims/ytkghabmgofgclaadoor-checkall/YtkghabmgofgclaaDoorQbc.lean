import Derived.Test.YtkghabmgofgclaaDoorQas
import Derived.Test.YtkghabmgofgclaaDoorQav
import Derived.Test.YtkghabmgofgclaaDoorQbb
import Derived.Test.YtkghabmgofgclaaDoorQau
namespace Go.Proofs.YtkghabmgofgclaaDoor
open Go.RowKit
set_option linter.unusedVariables false
set_option linter.unusedSimpArgs false

/-- an outcome's parts -/
def oS : Sum (Int × Nat × Nat) (List Int × List (List Int)) → List Int
  | .inr o => o.1
  | .inl _ => []
def oD : Sum (Int × Nat × Nat) (List Int × List (List Int)) → List (List Int)
  | .inr o => o.2
  | .inl _ => []
def oE : Sum (Int × Nat × Nat) (List Int × List (List Int)) → Int
  | .inr _ => 0
  | .inl o => o.1
def oF : Sum (Int × Nat × Nat) (List Int × List (List Int)) → Nat
  | .inr _ => 0
  | .inl o => o.2.1
def oI : Sum (Int × Nat × Nat) (List Int × List (List Int)) → Nat
  | .inr _ => 0
  | .inl o => o.2.2
/-- an answer of a Check -/
theorem ck_an {w w' : World} {x : Int} {ts : List (List Int)} {fs : List (Int × Int × Int × List (Int × Int))} {e : Ending} (h : CkQ w (ckV (x, ts, fs)) e w') : Out 0 0 w w' ∧ ∃ A : An, A.S = oS (ckV (x, ts, fs)) ∧ A.Ds = oD (ckV (x, ts, fs)) ∧ e = .returned (.tuple #[.agg #[A.s, A.d], .int .i64 (oF (ckV (x, ts, fs)) : Nat), .int .i64 (oI (ckV (x, ts, fs)) : Nat), .int .i64 (oE (ckV (x, ts, fs)))]) ∧ A.at w' w.heap.size := by
  obtain ⟨o, ⟨S, Ds, sv, dv, dgs, h1, rfl, h2⟩ | ⟨er, f, i, h1, rfl⟩⟩ := h
  · refine ⟨o, ?_⟩
    have hq := h1
    unfold ckV at hq
    split at hq
    · rename_i hw
      have ho := (wr_zero hw).1
      obtain ⟨c1, c2, c3, c4⟩ := ch_ok hq
      have hl : fs.length ≤ 64 := ho.2.2.2.1.2
      have c2' : S.length = fs.length := c2
      have c3' : Ds.length = fs.length := c3
      obtain ⟨sa, n, sc, rfl⟩ : ∃ a n c, sv = .slice a n c := own_sl h2.1
      obtain ⟨da, m, dc, rfl⟩ : ∃ a n c, dv = .slice a n c := own_sl h2.2.1
      have en : n = S.length := by
        rcases h2.1.2 with ⟨q, q'⟩ | ⟨g, c, cur, q, _⟩
        · cases q; omega
        · cases q; rfl
      have em : m = Ds.length := by
        rcases h2.2.1.2 with ⟨q, q'⟩ | ⟨g, c, cur, q, _⟩
        · cases q; omega
        · cases q; rfl
      refine ⟨⟨sa, n, sc, da, m, dc, S, Ds, dgs⟩, by rw [h1]; rfl, by rw [h1]; rfl, by rw [h1]; rfl, h2, en.symm, em.symm, (by show n ≤ 64; omega), (by show m ≤ 64; omega), fun D hD => ?_⟩
      have hD' : D ∈ Ds := hD
      obtain ⟨j, hj⟩ := List.getElem?_of_mem hD'
      obtain ⟨f, hf⟩ : ∃ f, fs[j]? = some f := ⟨_, List.getElem?_eq_getElem (by have := (List.getElem?_eq_some_iff.1 hj).1; omega)⟩
      obtain ⟨D', d1, d2, d3⟩ := c4 j f hf
      rw [hj] at d1
      cases d1
      have hm := List.mem_of_getElem? hf
      have := (dep_of (c1 f hm).2.1 d2).1
      have := (ho.2.2.2.2 f hm).2.2.2.1
      omega
    · cases hq
  · refine ⟨o, ⟨none, 0, 0, none, 0, 0, [], [], []⟩, by rw [h1]; rfl, by rw [h1]; rfl, by rw [h1]; rfl, ⟨World.ownsRow_nil _ _ _ 1, World.ownsRow_nil _ _ _ 1, rfl, (fun j dg D h => by simp at h), List.nodup_nil, (fun dg h => by cases h), (fun z h => by cases h)⟩, rfl, rfl, by decide, by decide, fun D hD => by cases hD⟩
theorem icl_set : ∀ (l : List (Int × Int)) (j : Nat) (y : Int × Int), icl (l.set j y) = ((icl l).set (j * 2) (.int .i64 y.1)).set (j * 2 + 1) (.int .i64 y.2)
  | [], j, y => by simp [icl]
  | x :: l, 0, y => rfl
  | x :: l, j + 1, y => by
    rw [List.set_cons_succ]
    simp only [icl]
    rw [icl_set l j y, show (j + 1) * 2 = j * 2 + 1 + 1 by omega]
    rfl
theorem fcl_same : ∀ {fs : List (Int × Int × Int × List (Int × Int))} {cs : List Value} {k : Nat} {P L C : Int} {cd cd' : List (Int × Int)}, fs[k]? = some (P, L, C, cd) → fcl (fs.set k (P, L, C, cd')) cs = fcl fs cs
  | [], cs, k, P, L, C, cd, cd', h => by simp at h
  | f :: fs, [], 0, P, L, C, cd, cd', h => by simp [fcl]
  | f :: fs, [], k + 1, P, L, C, cd, cd', h => by simp [fcl]
  | f :: fs, c :: cs, 0, P, L, C, cd, cd', h => by
    simp at h
    subst h
    rfl
  | f :: fs, c :: cs, k + 1, P, L, C, cd, cd', h => by
    rw [List.set_cons_succ]
    simp only [fcl]
    rw [fcl_same (by simpa using h)]
theorem LtAt.fxT {Q : Nat → Prop} {w w2 : World} {lo qk rk : Nat} {qa ra : Option Addr} {vs cs : List Value} {ts : List (List Int)} {fs : List (Int × Int × Int × List (Int × Int))} (h : LtAt w lo qa qk vs ra rk cs ts fs) (x : Fx Q w w2) (hQ : ∀ k, Q k → ∃ c E, w.heap[k]? = some (.cells c E (0, 0)) ∧ E ≠ 33 ∧ E ≠ 5 ∧ E ≠ 41 ∧ E ≠ 61) : LtAt w2 lo qa qk vs ra rk cs ts fs := by
  obtain ⟨h1, h2, h4, h5⟩ := h
  refine ⟨own_fx h1 x (fun k hk q => ?_), h2.fx x (fun j v t k z1 z2 z3 q => ?_), own_fx h4 x (fun k hk q => ?_), h5.fx x (fun j v t k z1 z2 z3 q => ?_)⟩
  · obtain ⟨c, E, b1, b2, b3, b4, b5⟩ := hQ k q
    exact own_noX h1 b1 b2 hk
  · obtain ⟨c, E, b1, b2, b3, b4, b5⟩ := hQ k q
    obtain ⟨-, a', c2, rfl, hr⟩ := h2.2 j v t z1 z2
    exact own_noX hr b1 b3 (by rw [← z3]; exact ob_len)
  · obtain ⟨c, E, b1, b2, b3, b4, b5⟩ := hQ k q
    exact own_noX h4 b1 b4 hk
  · obtain ⟨c, E, b1, b2, b3, b4, b5⟩ := hQ k q
    obtain ⟨a', c2, rfl, hr⟩ := h5.2.1 j v t z1 z2
    exact own_noX hr b1 b5 (by rw [← z3]; exact ob_len)
/-- an instruction of a function is another -/
theorem LtAt.turn {w : World} {lo qk rk gc n c k e : Nat} {qa ra : Option Addr} {vs cs : List Value} {ts : List (List Int)} {fs : List (Int × Int × Int × List (Int × Int))} {P L C : Int} {cd : List (Int × Int)} (y : Int × Int) (h : LtAt w lo qa qk vs ra rk cs ts fs) (hf : fs[k]? = some (P, L, C, cd)) (hc : cs[k]? = some (.slice (some ⟨gc, 0, none⟩) n c)) (he : e < cd.length) :
    LtAt ((w.setCell ⟨gc, e * 2, none⟩ (.int .i64 y.1)).setCell ⟨gc, e * 2 + 1, none⟩ (.int .i64 y.2)) lo qa qk vs ra rk cs ts (fs.set k (P, L, C, cd.set e y)) ∧ Fx (fun z => z = gc) w ((w.setCell ⟨gc, e * 2, none⟩ (.int .i64 y.1)).setCell ⟨gc, e * 2 + 1, none⟩ (.int .i64 y.2)) ∧ lo ≤ gc ∧ ∃ cur, Bl w gc cur 61 := by
  obtain ⟨h1, h2, h4, h5⟩ := h
  obtain ⟨a, c', e1, q1⟩ := h5.2.1 k _ _ hc hf
  cases e1
  have x : Fx (fun z => z = gc) w ((w.setCell ⟨gc, e * 2, none⟩ (.int .i64 y.1)).setCell ⟨gc, e * 2 + 1, none⟩ (.int .i64 y.2)) := ((Fx.refl (fun z => z = gc) w).set (p := ⟨gc, e * 2, none⟩) (.inl rfl) _).set (p := ⟨gc, e * 2 + 1, none⟩) (.inl rfl) _
  obtain ⟨g', cur, eg, hlo, -, bC, -⟩ := own_cellsX q1 (by simp)
  cases eg
  have hd : CdL w lo [(-7, 0), (-8, 0)] (.slice (some ⟨gc, 0, none⟩) cd.length c) cd := ⟨_, _, rfl, q1⟩
  refine ⟨⟨own_fx h1 x (fun z hz q => by subst q; exact own_noX h1 bC (by decide) hz), h2.fx x (fun j v t z z1 z2 z3 q => ?_), ?_, by rw [List.length_set]; exact h5.1, fun j v f z1 z2 => ?_, h5.2.2⟩, x, hlo, cur, bC⟩
  · subst q
    obtain ⟨-, a', c2, rfl, hr⟩ := h2.2 j v t z1 z2
    exact own_noX hr bC (by decide) (by rw [← z3]; exact ob_len)
  · rw [List.length_set, fcl_same hf]
    exact own_fx h4 x (fun z hz q => by subst q; exact own_noX h4 bC (by decide) hz)
  · by_cases hj : k = j
    · subst hj
      rw [List.getElem?_set_self (List.getElem?_eq_some_iff.1 hf).1] at z2
      cases z2
      rw [hc] at z1
      cases z1
      refine ⟨some ⟨gc, 0, none⟩, c, by simp only [List.length_set], ?_⟩
      simp only [List.length_set]
      have o1 := own_put (own_put q1 (e * 2) (.int .i64 y.1)) (e * 2 + 1) (.int .i64 y.2)
      rw [← icl_set, List.set_append_left _ _ he] at o1
      exact o1
    · rw [List.getElem?_set_ne hj] at z2
      exact (h5.2.1 j v f z1 z2).fx x (fun z hz q => by subst q; exact h5.2.2 k j _ v z hj hc z1 rfl hz)
end Go.Proofs.YtkghabmgofgclaaDoor
namespace Go.Proofs.YtkghabmgofgclaaDoor
open Go.RowKit
set_option linter.unusedVariables false
set_option linter.unusedSimpArgs false

/-- the program is one that is played -/
def PlQ (ts : List (List Int)) (fs : List (Int × Int × Int × List (Int × Int))) : Prop := ts.length + fs.length ≤ 300000 ∧ (∀ f ∈ fs, f.2.2.2.length ≤ 300000) ∧ (∀ t ∈ ts, t.length ≤ 300000) ∧ ∀ f ∈ fs, MI f.2.2.2
theorem li_ofX {n : Nat} (h : n ≤ 300000) : Li n := by unfold Li; omega
/-- what 'told' leaves -/
def TdQ (w : World) (lo bk : Nat) (As Bs : List An) (e : Ending) (w' : World) : Prop := e = .returned (.bool true) ∧ Fx (fun k => lo ≤ k ∨ k = bk) w w' ∧ ∃ ra rk wa wk A B, KC w' lo bk ra rk wa wk (As ++ [A]) (Bs ++ [B]) ∧ A.S = B.S ∧ A.Ds = B.Ds
theorem An.at.low {A : An} {w : World} {lo l2 : Nat} (h : A.at w lo) (hl : l2 ≤ lo) : A.at w l2 := ⟨h.1.low hl, h.2⟩
/-- what stands in the loop of 'told' -/
def TS (w wr : World) (B lo b bq bc bd bk V : Nat) (PCs QCs : Array Value) (qa : Option Addr) (qk : Nat) (vs : List Value) (qf : Option Addr) (qr : Nat) (cs : List Value) (ts : List (List Int)) (fa : Option Addr) (fs : List (Int × Int × Int × List (Int × Int))) (ra : Option Addr) (rk : Nat) (wa : Option Addr) (wk : Nat) (As Bs : List An) (fsn : List (Int × Int × Int × List (Int × Int))) : Prop :=
  Bl wr bq QCs 25 ∧ Bl wr b PCs 25 ∧ (∃ u1 u2, Bl wr bc #[u1, u2] 71) ∧ (∃ u1 u2, Bl wr bd #[u1, u2] 71) ∧ LtAt wr V qa qk vs qf qr cs ts fsn ∧ FnIn wr B fa fs ∧ Ty wr ∧ KC wr lo bk ra rk wa wk As Bs ∧ Fx (fun k => lo ≤ k ∨ k = bk) w wr
section
variable {w wr W : World} {B lo b bq bc bd bk V z : Nat} {PCs QCs : Array Value} {qa : Option Addr} {qk : Nat} {vs : List Value} {qf : Option Addr} {qr : Nat} {cs : List Value} {ts : List (List Int)} {fa : Option Addr} {fs : List (Int × Int × Int × List (Int × Int))} {ra : Option Addr} {rk : Nat} {wa : Option Addr} {wk : Nat} {As Bs : List An} {fsn : List (Int × Int × Int × List (Int × Int))}
theorem TS.quiet (h : TS w wr B lo b bq bc bd bk V PCs QCs qa qk vs qf qr cs ts fa fs ra rk wa wk As Bs fsn) (o : Out 0 0 wr W) : TS w W B lo b bq bc bd bk V PCs QCs qa qk vs qf qr cs ts fa fs ra rk wa wk As Bs fsn := by
  obtain ⟨h1, h2, ⟨u1, u2, h3⟩, ⟨u3, u4, h4⟩, h5, h6, h7, h8, h9⟩ := h
  exact ⟨h1.kept o (.inr (Nat.zero_le _)), h2.kept o (.inr (Nat.zero_le _)), ⟨_, _, h3.kept o (.inr (Nat.zero_le _))⟩, ⟨_, _, h4.kept o (.inr (Nat.zero_le _))⟩, h5.quiet o, h6.kept (Lo.of_out o) (Nat.le_refl _), h7.out o (.inr rfl), h8.quiet o, h9.trans (Fx.of_out o)⟩
theorem TS.put {v1 v2 u1 u2 : Value} (h : TS w wr B lo b bq bc bd bk V PCs QCs qa qk vs qf qr cs ts fa fs ra rk wa wk As Bs fsn) (x : Fx (fun k => k = z) wr W) (hb : Bl wr z #[v1, v2] 71) (hb' : Bl W z #[u1, u2] 71) (g1 : lo ≤ z ∧ B ≤ z ∧ 1 ≤ z ∧ bq ≠ z ∧ b ≠ z) (g2 : (Value.slice ra As.length rk).ownBlock ≠ some z ∧ (Value.slice wa Bs.length wk).ownBlock ≠ some z) : TS w W B lo b bq bc bd bk V PCs QCs qa qk vs qf qr cs ts fa fs ra rk wa wk As Bs fsn := by
  obtain ⟨h1, h2, ⟨y1, y2, h3⟩, ⟨y3, y4, h4⟩, h5, h6, h7, h8, h9⟩ := h
  have hbh : wr.heap[z]? = some (.cells #[v1, v2] 71 (0, 0)) := hb
  refine ⟨h1.fx x g1.2.2.2.1, h2.fx x g1.2.2.2.2, ?_, ?_, h5.fxT x (fun k hk => ?_), h6.kept (C := B) (x.wide fun k _ hk => by subst hk; exact g1.2.1) (Nat.le_refl _), h7.lo (B := 1) (x.wide fun k _ hk => by subst hk; exact g1.2.2.1) (Nat.le_refl _), h8.fx x (fun k hk => ?_), h9.trans (x.wide fun k _ hk => by subst hk; exact .inl g1.1)⟩
  · by_cases e : bc = z
    · subst e; exact ⟨_, _, hb'⟩
    · exact ⟨_, _, h3.fx x e⟩
  · by_cases e : bd = z
    · subst e; exact ⟨_, _, hb'⟩
    · exact ⟨_, _, h4.fx x e⟩
  · subst hk; exact ⟨_, _, hbh, by decide, by decide, by decide, by decide⟩
  · subst hk; exact ⟨_, _, hbh, by decide, by decide, by decide, g2.1, g2.2⟩
end
/-- what is asked of the turned functions -/
def TF (fs fsn : List (Int × Int × Int × List (Int × Int))) : Prop := fsn.length = fs.length ∧ (∀ f ∈ fsn, f.2.2.2.length ≤ 300000) ∧ (∀ f ∈ fsn, MI f.2.2.2) ∧ ∀ (j : Nat) f f', fs[j]? = some f → fsn[j]? = some f' → f'.2.2.2.length = f.2.2.2.length
theorem TF.turn {fs fsn : List (Int × Int × Int × List (Int × Int))} {k e : Nat} {P L C : Int} {cd : List (Int × Int)} {y : Int × Int} (h : TF fs fsn) (hf : fsn[k]? = some (P, L, C, cd)) (hy : (-9223372036854775808 ≤ y.1 ∧ y.1 ≤ 9223372036854775807) ∧ -9223372036854775808 ≤ y.2 ∧ y.2 ≤ 9223372036854775807) : TF fs (fsn.set k (P, L, C, cd.set e y)) := by
  refine ⟨by rw [List.length_set]; exact h.1, fun f hm => ?_, fun f hm => ?_, fun j f f' z1 z2 => ?_⟩
  · rcases List.mem_or_eq_of_mem_set hm with q | rfl
    · exact h.2.1 f q
    · have := h.2.1 _ (List.mem_of_getElem? hf)
      simp only [List.length_set] at *
      exact this
  · rcases List.mem_or_eq_of_mem_set hm with q | rfl
    · exact h.2.2.1 f q
    · intro z hz
      rcases List.mem_or_eq_of_mem_set hz with q | rfl
      · exact h.2.2.1 _ (List.mem_of_getElem? hf) z q
      · exact hy
  · by_cases hj : k = j
    · subst hj
      rw [List.getElem?_set_self (List.getElem?_eq_some_iff.1 hf).1] at z2
      cases z2
      have := h.2.2.2 k f _ z1 hf
      simp only [List.length_set] at *
      exact this
    · rw [List.getElem?_set_ne hj] at z2
      exact h.2.2.2 j f f' z1 z2
theorem rem_2 {n : Nat} : Int.tmod (n : Int) 2 = ((n % 2 : Nat) : Int) := by
  rw [Int.tmod_eq_emod_of_nonneg (by omega)]; omega
theorem mul_10 {r s : Nat} (h : r ≤ 1) (hs : 10 * r = s) : wrap64 (10 * (r : Int)) = (s : Int) := by unfold wrap64; omega
theorem add_11 {s o : Nat} (h : s ≤ 10) (ho : 11 + s = o) : wrap64 (11 + (s : Int)) = (o : Int) := by unfold wrap64; omega
theorem sub_1X {N e : Nat} (h : e + 1 = N) (hN : N ≤ 1000000) : wrap64 ((N : Int) - 1) = (e : Int) := by unfold wrap64; omega
theorem ms_3 {k : Nat} (h : k < 3) : 3 - (intOf (.int .i64 ((k + 1 : Nat) : Int))).toNat < 3 - (intOf (.int .i64 (k : Int))).toNat := by simp [intOf]; omega
/-- two answers that say the same are one to the law -/
theorem same_an {w : World} {lo l2 : Nat} {A B : An} (hA : A.at w lo) (hB : B.at w l2) (h1 : A.S = B.S) (h2 : A.Ds = B.Ds) : Calls Tryd.prog 34 #[.agg #[A.s, A.d], .agg #[B.s, B.d]] w fun e w' => e = .returned (.bool true) ∧ Out 0 0 w w' := by
  obtain ⟨a1, a2, a3, a4, a5, a6⟩ := hA
  obtain ⟨b1, b2, b3, b4, b5, b6⟩ := hB
  rw [← h1] at b1 b2
  rw [← h2] at b1 b3
  have e1 : B.n = A.n := b2.symm.trans a2
  have e2 : B.m = A.m := b3.symm.trans a3
  unfold An.s An.d at *
  rw [e1, e2] at b1 ⊢
  exact sameck_any a1 b1 a2 a3 (by omega) (fun D hD => by have := a6 D hD; omega)
set_option maxRecDepth 100000 in
set_option maxHeartbeats 4000000 in
theorem told_any {w : World} {B lo bk : Nat} {ra : Option Addr} {rk : Nat} {wa : Option Addr} {wk : Nat} {As Bs : List An} (hT : Ty w) (hB : B ≤ w.heap.size) (x : Int) (ts : List (List Int)) (fs : List (Int × Int × Int × List (Int × Int))) (ta fa : Option Addr) (nt tc nf fc : Nat) (hnt : ts.length = nt) (hnf : fs.length = nf) (hts : TxIn w B ta ts) (hfs : FnIn w B fa fs) (hP : PlQ ts fs) (hlo : lo ≤ w.heap.size) (hn : As.length ≤ 900 ∧ Bs.length ≤ 900 ∧ B ≤ bk ∧ 1 ≤ B) (hK : KC w lo bk ra rk wa wk As Bs) :
    Calls Tryd.prog 15 #[.agg #[.int .i64 x, .slice ta nt tc, .slice fa nf fc], .pointer (some ⟨bk, 0, none⟩)] w (TdQ w lo bk As Bs) := by
  obtain ⟨hl1, hl2, hl3, hM⟩ := hP
  rw [hnt, hnf] at hl1
  obtain ⟨b, hb⟩ : ∃ b, w.heap.size = b := ⟨_, rfl⟩
  have oV : Out 0 0 w (w.alloc (.cells #[.int .i64 x, .slice ta nt tc, .slice fa nf fc] 25)) := (Out.refl 0 0 w).alloc _
  have bV := Bl.new w #[.int .i64 x, .slice ta nt tc, .slice fa nf fc] 25
  rw [hb] at bV
  obtain ⟨V, hV⟩ : ∃ V, w.alloc (.cells #[.int .i64 x, .slice ta nt tc, .slice fa nf fc] 25) = V := ⟨_, rfl⟩
  rw [hV] at oV bV
  have k0 := bV.cell (i := 0) rfl
  have k1 := bV.cell (i := 1) rfl
  have k2 := bV.cell (i := 2) rfl
  have HLe := hid_mk (lent19_any (w := V) (Nat.le_trans hB oV.size) x ts fs ta fa nt tc nf fc hnt hnf (hts.kept (Lo.of_out oV) (Nat.le_refl _)) (hfs.kept (Lo.of_out oV) (Nat.le_refl _)) hl1 hl2 hl3)
  have HH := hid_mk (And.intro hB (And.intro hnt (And.intro hnf (And.intro hts (And.intro hfs (And.intro hl1 (And.intro hl2 (And.intro hl3 (And.intro hM (And.intro hT (And.intro hlo (And.intro hn hK))))))))))))
  have HV : Hid (Out 0 0 w V ∧ Bl V b #[.int .i64 x, .slice ta nt tc, .slice fa nf fc] 25 ∧ w.heap.size = b) := hid_mk ⟨oV, bV, hb⟩
  clear hB hnt hnf hts hfs hl1 hl2 hl3 hM hT hlo hn hK oV bV
  go_enter Tryd.func15, Tryd.ntmps15
  go_wp2_with fail
  (try rw [hV])
  (try rw [hb])
  clear hV hb
  refine HLe.out.mono ?_
  clear HLe
  rintro e w1 ⟨o1, qa, qk, vs, qf, qr, cs, rfl, hL1⟩
  obtain ⟨hB, hnt, hnf, hts, hfs, hl1, hl2, hl3, hM, hT, hlo, hn, hK⟩ := HH.out
  obtain ⟨oV, bV, hb⟩ := HV.out
  rw [hnt, hnf]
  obtain ⟨bq, hbq⟩ : ∃ bq, w1.heap.size = bq := ⟨_, rfl⟩
  obtain ⟨W1, hW1⟩ : ∃ W1, w1.alloc (.cells #[.int .i64 x, .slice qa nt qk, .slice qf nf qr] 25) = W1 := ⟨_, rfl⟩
  have oQ : Out 0 0 w1 W1 := by rw [← hW1]; exact (Out.refl 0 0 w1).alloc _
  have bQ : Bl W1 bq #[.int .i64 x, .slice qa nt qk, .slice qf nf qr] 25 := by rw [← hW1, ← hbq]; exact Bl.new _ _ _
  have oW1 := (oV.trans o1).trans oQ
  have hLQ := hL1.quiet oQ
  have HCh := hid_mk (check_any (w := W1) (hT.out oW1 (.inr rfl)) (Nat.le_refl _) x ts fs qa qf nt qk nf qr hnt hnf hLQ.tx hLQ.fn hM)
  have q0 := bQ.cell (i := 0) rfl
  have q1 := bQ.cell (i := 1) rfl
  have q2 := bQ.cell (i := 2) rfl
  have HL1 := hid_mk hLQ
  have HQ : Hid (Bl W1 bq #[.int .i64 x, .slice qa nt qk, .slice qf nf qr] 25 ∧ Bl W1 b #[.int .i64 x, .slice ta nt tc, .slice fa nf fc] 25 ∧ Out 0 0 w W1 ∧ V.heap.size ≤ bq) := hid_mk ⟨bQ, (bV.kept o1 (.inr (Nat.zero_le _))).kept oQ (.inr (Nat.zero_le _)), oW1, by rw [← hbq]; exact o1.size⟩
  clear hB hnt hnf hts hfs hl1 hl2 hl3 hM hT hlo hn hK oV bV hb hL1 hLQ oQ bQ oW1 o1
  go_wp2_with fail
  (try rw [hW1])
  (try rw [hbq])
  clear hW1 hbq
  refine HCh.out.mono ?_
  clear HCh
  intro e w2 hck
  obtain ⟨o2, A, hAS, hAD, rfl, hA2⟩ := ck_an hck
  obtain ⟨hB, hnt, hnf, hts, hfs, hl1, hl2, hl3, hM, hT, hlo, hn, hK⟩ := HH.out
  obtain ⟨F, hF⟩ : ∃ F, oF (ckV (x, ts, fs)) = F := ⟨_, rfl⟩
  obtain ⟨I, hI⟩ : ∃ I, oI (ckV (x, ts, fs)) = I := ⟨_, rfl⟩
  obtain ⟨E, hE⟩ : ∃ E, oE (ckV (x, ts, fs)) = E := ⟨_, rfl⟩
  rw [hF, hI, hE]
  have HFE := hid_mk (And.intro hF (And.intro hI hE))
  unfold An.s An.d
  obtain ⟨bc, hbc⟩ : ∃ bc, w2.heap.size = bc := ⟨_, rfl⟩
  obtain ⟨W2, hW2⟩ : ∃ W2, w2.alloc (.cells #[.slice A.sa A.n A.sc, .slice A.da A.m A.dc] 71) = W2 := ⟨_, rfl⟩
  have oC : Out 0 0 w2 W2 := by rw [← hW2]; exact (Out.refl 0 0 w2).alloc _
  have bC : Bl W2 bc #[.slice A.sa A.n A.sc, .slice A.da A.m A.dc] 71 := by rw [← hW2, ← hbc]; exact Bl.new _ _ _
  have oWW := o2.trans oC
  have ow2 := HQ.out.2.2.1.trans oWW
  have HRc := hid_mk (rcheck_any (w := W2) x ts fs ta fa nt tc nf fc hnt hnf ((hts.kept (C := B) (Lo.of_out ow2) (Nat.le_refl _)).upK (Nat.le_trans hB ow2.size)) ((hfs.kept (C := B) (Lo.of_out ow2) (Nat.le_refl _)).upK (Nat.le_trans hB ow2.size)) hM (li_ofX (by omega)) (li_ofX (by omega)) (fun t ht => li_ofX (hl3 t ht)) (fun f hf => li_ofX (hl2 f hf)))
  have HQ2 := hid_mk (And.intro (HQ.out.1.kept oWW (.inr (Nat.zero_le _))) (And.intro (HQ.out.2.1.kept oWW (.inr (Nat.zero_le _))) (And.intro ow2 (And.intro HQ.out.2.2.2 (And.intro (hA2.quiet oC) (And.intro bC (And.intro (HL1.out.quiet oWW) (And.intro hAS hAD))))))))
  have k0 := HQ2.out.2.1.cell (i := 0) rfl
  have k1 := HQ2.out.2.1.cell (i := 1) rfl
  have k2 := HQ2.out.2.1.cell (i := 2) rfl
  have HSz : Hid (bq < W1.heap.size ∧ W1.heap.size ≤ W2.heap.size ∧ W1.heap.size ≤ bc ∧ bc < W2.heap.size) := hid_mk ⟨HQ.out.1.lt, oWW.size, by rw [← hbc]; exact o2.size, bC.lt⟩
  clear hB hnt hnf hts hfs hl1 hl2 hl3 hM hT hlo hn hK hck hAS hAD hA2 hF hI hE oC bC oWW ow2 o2 HQ HL1 q0 q1 q2
  go_wp2_with fail
  (try rw [hW2])
  (try rw [hbc])
  clear hW2 hbc
  refine HRc.out.mono ?_
  clear HRc
  intro e w3 hck
  obtain ⟨o3, Z, hZS, hZD, rfl, hZ3⟩ := ck_an hck
  rw [HFE.out.1, HFE.out.2.1, HFE.out.2.2]
  unfold An.s An.d
  obtain ⟨z1, z2, z3, z4, z5, z6, z7, z8, z9⟩ := HQ2.out
  obtain ⟨hB, hnt, hnf, hts, hfs, hl1, hl2, hl3, hM, hT, hlo, hn, hK⟩ := HH.out
  obtain ⟨bd, hbd⟩ : ∃ bd, w3.heap.size = bd := ⟨_, rfl⟩
  obtain ⟨W3, hW3⟩ : ∃ W3, w3.alloc (.cells #[.slice Z.sa Z.n Z.sc, .slice Z.da Z.m Z.dc] 71) = W3 := ⟨_, rfl⟩
  have oC : Out 0 0 w3 W3 := by rw [← hW3]; exact (Out.refl 0 0 w3).alloc _
  have bD : Bl W3 bd #[.slice Z.sa Z.n Z.sc, .slice Z.da Z.m Z.dc] 71 := by rw [← hW3, ← hbd]; exact Bl.new _ _ _
  have oWW := o3.trans oC
  have ow3 := z3.trans oWW
  have hZW := hZ3.quiet oC
  have hAW := z5.quiet oWW
  have hAZ1 : A.S = Z.S := z8.trans hZS.symm
  have hAZ2 : A.Ds = Z.Ds := z9.trans hZD.symm
  have HSa := hid_mk (same_an hAW hZW hAZ1 hAZ2)
  have bQ := z1.kept oWW (.inr (Nat.zero_le _))
  have bP := z2.kept oWW (.inr (Nat.zero_le _))
  have bC := z6.kept oWW (.inr (Nat.zero_le _))
  have u0 := bC.cell (i := 0) rfl
  have u1 := bC.cell (i := 1) rfl
  have v0 := bD.cell (i := 0) rfl
  have v1 := bD.cell (i := 1) rfl
  have HQ3 := hid_mk (And.intro bQ (And.intro bP (And.intro bC (And.intro bD (And.intro ow3 (And.intro hAW (And.intro hZW (And.intro (z7.quiet oWW) (And.intro hAZ1 hAZ2)))))))))
  have HS3 : Hid (W2.heap.size ≤ W3.heap.size ∧ W2.heap.size ≤ bd ∧ V.heap.size ≤ bq) := hid_mk ⟨oWW.size, by rw [← hbd]; exact o3.size, z4⟩
  unfold An.s An.d at HSa
  clear hB hnt hnf hts hfs hl1 hl2 hl3 hM hT hlo hn hK z1 z2 z3 z4 z5 z6 z7 z8 z9 hck hZS hZD hZ3 oC bD oWW ow3 hZW hAW hAZ1 hAZ2 bQ bP bC o3 HQ2 k0 k1 k2
  go_wp2_with fail
  (try rw [hW3])
  (try rw [hbd])
  clear hW3 hbd
  refine HSa.out.mono ?_
  clear HSa u0 u1 v0 v1
  rintro e w4 ⟨rfl, o4⟩
  obtain ⟨bQ, bP, bC, bD, ow3, hAW, hZW, hLt, hAZ⟩ := HQ3.out
  obtain ⟨hB, hnt, hnf, hts, hfs, hl1, hl2, hl3, hM, hT, hlo, hn, hK⟩ := HH.out
  have ow4 := ow3.trans o4
  have HKe := hid_mk (kept19_any (w := w4) (Nat.le_trans hB ow4.size) x ts fs ta fa nt tc nf fc hnt hnf (hts.kept (C := B) (Lo.of_out ow4) (Nat.le_refl _)) (hfs.kept (C := B) (Lo.of_out ow4) (Nat.le_refl _)) hl1 hl2 hl3 (hLt.quiet o4))
  have q0 := (bQ.kept o4 (.inr (Nat.zero_le _))).cell (i := 0) rfl
  have q1 := (bQ.kept o4 (.inr (Nat.zero_le _))).cell (i := 1) rfl
  have q2 := (bQ.kept o4 (.inr (Nat.zero_le _))).cell (i := 2) rfl
  have k0 := (bP.kept o4 (.inr (Nat.zero_le _))).cell (i := 0) rfl
  have k1 := (bP.kept o4 (.inr (Nat.zero_le _))).cell (i := 1) rfl
  have k2 := (bP.kept o4 (.inr (Nat.zero_le _))).cell (i := 2) rfl
  have HO4 := hid_mk o4
  clear hB hnt hnf hts hfs hl1 hl2 hl3 hM hT hlo hn hK bQ bP bC bD ow3 hAW hZW hLt hAZ ow4 o4
  go_wp2_with fail
  refine HKe.out.mono ?_
  clear HKe q0 q1 q2 k0 k1 k2
  rintro e w5 ⟨rfl, o5⟩
  obtain ⟨bQ, bP, bC, bD, ow3, hAW, hZW, hLt, hAZ⟩ := HQ3.out
  obtain ⟨hB, hnt, hnf, hts, hfs, hl1, hl2, hl3, hM, hT, hlo, hn, hK⟩ := HH.out
  obtain ⟨oV, bV, hb⟩ := HV.out
  have o45 := HO4.out.trans o5
  have ow5 := ow3.trans o45
  have hsz : w.heap.size ≤ W1.heap.size := by have := oV.size; have := HS3.out.2.2; have := HSz.out.1; omega
  have HCk := hid_mk (checked_any (w := w5) (N := W1.heap.size) A Z (Nat.le_trans hlo ow5.size) (by omega) (hK.quiet ow5) ((hAW.quiet o45).low (Nat.le_trans hlo hsz)) ((hZW.quiet o45).low (Nat.le_trans (Nat.le_trans hlo hsz) HSz.out.2.1)) (fun X hX k hk => by have := ((hK.2.2.2.1 X hX).ty hk).2.1; omega) (fun k hk => (hAW.ty hk).1))
  have u0 := (bC.kept o45 (.inr (Nat.zero_le _))).cell (i := 0) rfl
  have u1 := (bC.kept o45 (.inr (Nat.zero_le _))).cell (i := 1) rfl
  have v0 := (bD.kept o45 (.inr (Nat.zero_le _))).cell (i := 0) rfl
  have v1 := (bD.kept o45 (.inr (Nat.zero_le _))).cell (i := 1) rfl
  have HQ5 := hid_mk (And.intro (bQ.kept o45 (.inr (Nat.zero_le _))) (And.intro (bP.kept o45 (.inr (Nat.zero_le _))) (And.intro (bC.kept o45 (.inr (Nat.zero_le _))) (And.intro (bD.kept o45 (.inr (Nat.zero_le _))) (And.intro ow5 (And.intro (hLt.quiet o45) hAZ))))))
  unfold An.s An.d at HCk
  clear hB hnt hnf hts hfs hl1 hl2 hl3 hM hT hlo hn hK bQ bP bC bD ow3 hAW hZW hLt hAZ oV bV hb o45 ow5 hsz o5 HQ3 HO4
  go_wp2_with fail
  refine HCk.out.mono ?_
  clear HCk u0 u1 v0 v1
  rintro e w6 ⟨rfl, ra6, rk6, wa6, wk6, hK6, x6, y1, y2⟩
  obtain ⟨bQ, bP, bC, bD, ow5, hLt, hAZ⟩ := HQ5.out
  obtain ⟨hB, hnt, hnf, hts, hfs, hl1, hl2, hl3, hM, hT, hlo, hn, hK⟩ := HH.out
  obtain ⟨oV, bV, hb⟩ := HV.out
  have hVs : b < V.heap.size := bV.lt
  obtain ⟨s1, s2, s3, s4⟩ := HSz.out
  obtain ⟨t1, t2, t3⟩ := HS3.out
  have hS : ∀ k, (k = bk ∨ (Value.slice ra As.length rk).ownBlock = some k ∨ (Value.slice wa Bs.length wk).ownBlock = some k) → (bk ≤ k ∧ k < b) ∧ (lo ≤ k ∨ k = bk) := by
    intro k hk
    have hbl := hK.2.2.2.2.2.2.2
    have hbs := hK.1.lt
    rcases hk with rfl | hk | hk
    · exact ⟨⟨Nat.le_refl _, by omega⟩, .inr rfl⟩
    · have := own_ge hK.2.1 hk; exact ⟨by omega, .inl this.1⟩
    · have := own_ge hK.2.2.1 hk; exact ⟨by omega, .inl this.1⟩
  have L6 : Lo B w w6 := (Fx.of_out ow5).trans (x6.wide fun k _ hk => by have := (hS k hk).1.1; omega)
  have bdl := bD.lt
  have HOB : Hid (∀ k, ((Value.slice ra6 (As ++ [A]).length rk6).ownBlock = some k ∨ (Value.slice wa6 (Bs ++ [Z]).length wk6).ownBlock = some k) → k ≠ bc ∧ k ≠ bd) := hid_mk fun k hk => by
    have : k < b ∨ w5.heap.size ≤ k := by
      rcases hk with hk | hk
      · rcases y1 k hk with q | q
        · exact .inl (hS k (.inr (.inl q))).1.2
        · exact .inr q
      · rcases y2 k hk with q | q
        · exact .inl (hS k (.inr (.inr q))).1.2
        · exact .inr q
    omega
  have HTS : Hid (TS w w6 B lo b bq bc bd bk V.heap.size #[.int .i64 x, .slice ta nt tc, .slice fa nf fc] #[.int .i64 x, .slice qa nt qk, .slice qf nf qr] qa qk vs qf qr cs ts fa fs ra6 rk6 wa6 wk6 (As ++ [A]) (Bs ++ [Z]) fs) := hid_mk ⟨bQ.fx x6 (fun hk => by have := (hS _ hk).1.2; omega), bP.fx x6 (fun hk => by have := (hS _ hk).1.2; omega), ⟨_, _, bC.fx x6 (fun hk => by have := (hS _ hk).1.2; omega)⟩, ⟨_, _, bD.fx x6 (fun hk => by have := (hS _ hk).1.2; omega)⟩, hLt.fx x6 (fun k h1 _ hk => by have := (hS _ hk).1.2; omega), hfs.kept L6 (Nat.le_refl _), hT.lo L6 hn.2.2.2, hK6, (Fx.of_out ow5).trans (x6.wide fun k _ hk => (hS k hk).2)⟩
  have HTF : Hid (TF fs fs) := hid_mk ⟨rfl, hl2, hM, fun j f f' z1 z2 => by rw [z1] at z2; cases z2; rfl⟩
  have HNm : Hid (lo ≤ V.heap.size ∧ B ≤ V.heap.size ∧ V.heap.size ≤ bc ∧ V.heap.size ≤ bd ∧ bc ≠ bd ∧ bq ≠ bc ∧ bq ≠ bd ∧ b < V.heap.size ∧ nt + nf ≤ 300000 ∧ ts.length = nt ∧ fs.length = nf ∧ (∀ t ∈ ts, t.length ≤ 300000) ∧ 1 ≤ V.heap.size) := hid_mk ⟨Nat.le_trans hlo oV.size, Nat.le_trans hB oV.size, by omega, by omega, by omega, by omega, by omega, hVs, hl1, hnt, hnf, hl3, by omega⟩
  have HAZ := hid_mk hAZ
  clear bQ bP bC bD ow5 hLt hAZ hB hnt hnf hts hfs hl1 hl2 hl3 hM hT hlo hn hK oV bV hb hVs s1 s2 s3 s4 t1 t2 t3 hS L6 bdl hK6 x6 y1 y2 HQ5 HH HV
  go_wp2
  go_loopw [14] (fun c wr => ∃ (n : Nat) (fsn : List (Int × Int × Int × List (Int × Int))), c = .int .i64 n ∧ n ≤ 3 ∧ TS w wr B lo b bq bc bd bk V.heap.size #[.int .i64 x, .slice ta nt tc, .slice fa nf fc] #[.int .i64 x, .slice qa nt qk, .slice qf nf qr] qa qk vs qf qr cs ts fa fs ra6 rk6 wa6 wk6 (As ++ [A]) (Bs ++ [Z]) fsn ∧ TF fs fsn) (fun c _ => 3 - (intOf c).toNat)
  case atStart => exact ⟨0, fs, rfl, by omega, HTS.out, HTF.out⟩
  case round =>
    obtain ⟨n, fsn, rfl, hn3, hTS, hTF⟩ := hrel
    have k2 := hTS.2.1.cell (i := 2) rfl
    have HT2 := hid_mk (And.intro hTS hTF)
    by_cases hgo : n < nf
    · obtain ⟨l1, l2⟩ := lt_d hgo
      by_cases hg3 : n < 3
      · have g1 : decide ((n : Int) < 3) = true := by simp; omega
        obtain ⟨⟨P0, L0, C0, cd0⟩, hf0⟩ : ∃ f, fs[n]? = some f := ⟨_, List.getElem?_eq_getElem (by have := HNm.out; omega)⟩
        obtain ⟨g, off, pj, cj, rfl, hg, -, -, -, c3, -⟩ := fn_cell hTS.2.2.2.2.2.1 hf0
        obtain ⟨⟨P, L, C, cd⟩, hf⟩ : ∃ f, fsn[n]? = some f := ⟨_, List.getElem?_eq_getElem (by have := HNm.out; have := hTF.1; omega)⟩
        have hlen := hTF.2.2.2 n _ _ hf0 hf
        simp only [] at c3 hlen
        obtain ⟨m, hm⟩ : ∃ m, cd0.length = m := ⟨_, rfl⟩
        rw [hm] at c3 hlen
        have lmi : (n : Int) < (nf : Int) := by omega
        by_cases hm0 : m = 0
        · have g2 : ((m : Int) == 0) = true := by rw [hm0]; rfl
          have HG : Hid (n < 3) := hid_mk hg3
          clear hTS hTF hn3 hgo hg3 hf0 hg hf hlen hm hm0 HTS HTF
          go_wp2
          exact ⟨⟨n + 1, fsn, up_V (K := 3) HG.out (by omega), HG.out, HT2.out⟩, by rw [up_W (K := 3) HG.out (by omega)]; exact ms_3 HG.out⟩
        · have g2 : ((m : Int) == 0) = false := by simp; omega
          obtain ⟨bQ, bP, ⟨u1, u2, bC⟩, ⟨u3, u4, bD⟩, hLt, hFn, hTy, hKC, hX⟩ := hTS
          obtain ⟨v, hv⟩ : ∃ v, cs[n]? = some v := ⟨_, List.getElem?_eq_getElem (by have := hLt.2.2.2.1; have := HNm.out; have := hTF.1; omega)⟩
          obtain ⟨gc, cc, rfl, hmc, -, -, ycl⟩ := (hLt.2.2.2.2.1 n v _ hv hf).marks2
          simp only [] at hmc ycl
          rw [hlen] at hmc
          have hv' : cs[n]? = some (.slice (some ⟨gc, 0, none⟩) m cc) := by rw [← hlen]; exact hv
          obtain ⟨gq, curq, rfl, -, hclq, -⟩ := own_cellsX hLt.2.2.1 (by have := HNm.out; have := hTF.1; omega)
          have d3 := hclq _ _ (fcl_at hf hv').2.2.2
          obtain ⟨e, he⟩ : ∃ e, e + 1 = m := ⟨m - 1, by omega⟩
          obtain ⟨⟨op, a⟩, hx⟩ : ∃ z, cd[e]? = some z := ⟨_, List.getElem?_eq_getElem (by omega)⟩
          obtain ⟨i0, i1⟩ := ycl e _ hx
          simp only [] at i0 i1
          obtain ⟨r, hr⟩ : ∃ r, n % 2 = r := ⟨_, rfl⟩
          obtain ⟨s', hs'⟩ : ∃ s', 10 * r = s' := ⟨_, rfl⟩
          obtain ⟨o, ho⟩ : ∃ o, 11 + s' = o := ⟨_, rfl⟩
          obtain ⟨hTu, xg, hgl, curc, bG⟩ := hLt.turn (e := e) ((o : Int), 0) hf hv' (by rw [hlen]; omega)
          simp only [] at hTu xg
          have j0 := bG.frozen (e * 2)
          have j1 := bG.frozen (e * 2 + 1)
          have hlt : (e : Int) < (m : Int) := by omega
          have hTF2 := hTF.turn (e := e) (y := ((o : Int), 0)) hf ⟨⟨by simp only []; omega, by simp only []; omega⟩, by simp only []; omega, by simp only []; omega⟩
          obtain ⟨W7, hW7⟩ : ∃ W7, (wr.setCell ⟨gc, e * 2, none⟩ (.int .i64 (o : Int))).setCell ⟨gc, e * 2 + 1, none⟩ (.int .i64 0) = W7 := ⟨_, rfl⟩
          rw [hW7] at hTu xg
          have bGh : wr.heap[gc]? = some (.cells curc 61 (0, 0)) := bG
          have ne : ∀ {k cs'} {E' : TypeId}, Bl wr k cs' E' → E' ≠ 61 → k ≠ gc := fun {k cs' E'} hb hE e => by
            subst e
            have hb' : wr.heap[k]? = some (.cells cs' E' (0, 0)) := hb
            rw [bGh] at hb'
            cases hb'
            exact hE rfl
          have hTS7 : TS w W7 B lo b bq bc bd bk V.heap.size #[.int .i64 x, .slice ta nt tc, .slice (some ⟨g, off, none⟩) nf fc] #[.int .i64 x, .slice qa nt qk, .slice (some ⟨gq, 0, none⟩) nf qr] qa qk vs (some ⟨gq, 0, none⟩) qr cs ts (some ⟨g, off, none⟩) fs ra6 rk6 wa6 wk6 (As ++ [A]) (Bs ++ [Z]) (fsn.set n (P, L, C, cd.set e ((o : Int), 0))) :=
            ⟨bQ.fx xg (ne bQ (by decide)), bP.fx xg (ne bP (by decide)), ⟨_, _, bC.fx xg (ne bC (by decide))⟩, ⟨_, _, bD.fx xg (ne bD (by decide))⟩, hTu, hFn.kept (xg.wide fun k _ hk => by have := HNm.out; omega) (Nat.le_refl _), hTy.lo (B := 1) (xg.wide fun k _ hk => by have := HNm.out; omega) (Nat.le_refl _), hKC.fx xg (fun k hk => by subst hk; exact ⟨_, _, bGh, by decide, by decide, by decide, own_noX hKC.2.1 bGh (by decide), own_noX hKC.2.2.1 bGh (by decide)⟩), hX.trans (xg.wide fun k _ hk => by subst hk; exact .inl (Nat.le_trans HNm.out.1 hgl))⟩
          have hnf2 : (fsn.set n (P, L, C, cd.set e ((o : Int), 0))).length = nf := by rw [hTF2.1]; exact HNm.out.2.2.2.2.2.2.2.2.2.2.1
          have HCh := hid_mk (check_any (w := W7) hTS7.2.2.2.2.2.2.1 (Nat.le_refl _) x ts (fsn.set n (P, L, C, cd.set e ((o : Int), 0))) qa (some ⟨gq, 0, none⟩) nt qk nf qr HNm.out.2.2.2.2.2.2.2.2.2.1 hnf2 hTu.tx hTu.fn hTF2.2.2.1)
          have q2 := bQ.cell (i := 2) rfl
          have HG : Hid (n < 3 ∧ m ≤ 300000) := hid_mk ⟨hg3, by have := hTF.2.1 _ (List.mem_of_getElem? hf); simp only [] at this; omega⟩
          have HT7 := hid_mk (And.intro hTS7 (And.intro hTF2 hnf2))
          have hsub := sub_1X he (by have := HG.out; omega)
          have hrem : Int.tmod (n : Int) 2 = (r : Int) := by rw [rem_2, hr]
          have hmul := mul_10 (r := r) (by omega) hs'
          have hadd := add_11 (s := s') (by omega) ho
          clear bQ bP bC bD hLt hFn hTy hKC hX hv hv' hmc ycl hclq hx hr hs' ho hTu xg hgl bG bGh ne hTS7 hTF2 hnf2 hTF hn3 hgo hg3 hf0 hg hf hlen hm hm0 HTS HTF HT2 he
          go_upto_region 13 with fail
          (try rw [hW7])
          clear hsub hrem hmul hadd j0 j1 i0 i1 d3 c3 q2 k2 hlt hW7
          obtain ⟨hTS7, hTF2, hnf2⟩ := HT7.out
          have q0 := hTS7.1.cell (i := 0) rfl
          have q1 := hTS7.1.cell (i := 1) rfl
          have q2 := hTS7.1.cell (i := 2) rfl
          clear hTS7 hTF2 hnf2
          go_wp2_with fail
          refine HCh.out.mono ?_
          clear HCh q0 q1 q2
          intro e8 w8 hck
          obtain ⟨o8, A8, hAS8, hAD8, rfl, hA8⟩ := ck_an hck
          obtain ⟨F8, hF8⟩ : ∃ F, oF (ckV (x, ts, fsn.set n (P, L, C, cd.set e ((o : Int), 0)))) = F := ⟨_, rfl⟩
          obtain ⟨I8, hI8⟩ : ∃ I, oI (ckV (x, ts, fsn.set n (P, L, C, cd.set e ((o : Int), 0)))) = I := ⟨_, rfl⟩
          obtain ⟨E8, hE8⟩ : ∃ E, oE (ckV (x, ts, fsn.set n (P, L, C, cd.set e ((o : Int), 0)))) = E := ⟨_, rfl⟩
          rw [hF8, hI8, hE8]
          have HFE8 := hid_mk (And.intro hF8 (And.intro hI8 hE8))
          have hTS8 := HT7.out.1.quiet o8
          obtain ⟨y1, y2, bC8⟩ := hTS8.2.2.1
          have c0 := bC8.cell (i := 0) rfl
          have c1 := bC8.cell (i := 1) rfl
          have f0 := bC8.frozen 0
          have f1 := bC8.frozen 1
          obtain ⟨W8, hW8⟩ : ∃ W8, (w8.setCell ⟨bc, 0, none⟩ (.slice A8.sa A8.n A8.sc)).setCell ⟨bc, 1, none⟩ (.slice A8.da A8.m A8.dc) = W8 := ⟨_, rfl⟩
          have x8 : Fx (fun k => k = bc) w8 W8 := by rw [← hW8]; exact ((Fx.refl (fun k => k = bc) _).set (p := ⟨bc, 0, none⟩) (.inl rfl) _).set (p := ⟨bc, 1, none⟩) (.inl rfl) _
          have bC9 : Bl W8 bc #[.slice A8.sa A8.n A8.sc, .slice A8.da A8.m A8.dc] 71 := by rw [← hW8]; exact (bC8.set 0 _).set 1 _
          have hn9 := HNm.out
          have hTS9 := hTS8.put x8 bC8 bC9 ⟨by omega, by omega, by omega, by omega, by omega⟩ ⟨fun q => (HOB.out bc (.inl q)).1 rfl, fun q => (HOB.out bc (.inr q)).1 rfl⟩
          have hA9 := hA8.fx x8 (fun k hk q => by
            subst q
            obtain ⟨-, -, cs', E', b1', b4⟩ := hA8.ty hk
            have b2 : w8.heap[k]? = some (.cells #[y1, y2] 71 (0, 0)) := bC8
            rw [b2] at b1'
            cases b1'
            rcases b4 with e | e <;> exact absurd e (by decide))
          have HRc := hid_mk (rcheck_any (w := W8) x ts (fsn.set n (P, L, C, cd.set e ((o : Int), 0))) qa (some ⟨gq, 0, none⟩) nt qk nf qr hn9.2.2.2.2.2.2.2.2.2.1 HT7.out.2.2 hTS9.2.2.2.2.1.tx hTS9.2.2.2.2.1.fn HT7.out.2.1.2.2.1 (li_ofX (by omega)) (li_ofX (by omega)) (fun t ht => li_ofX (hn9.2.2.2.2.2.2.2.2.2.2.2.1 t ht)) (fun f hf => li_ofX (HT7.out.2.1.2.1 f hf)))
          have HT9 := hid_mk (And.intro hTS9 (And.intro bC9 (And.intro hA9 (And.intro hAS8 hAD8))))
          unfold An.s An.d
          clear hck hAS8 hAD8 hA8 hF8 hI8 hE8 hTS8 bC8 x8 bC9 hn9 hTS9 hA9 o8
          go_upto_region 14 with fail
          (try rw [hW8])
          clear hW8 c0 c1 f0 f1
          have q0 := HT9.out.1.1.cell (i := 0) rfl
          have q1 := HT9.out.1.1.cell (i := 1) rfl
          have q2 := HT9.out.1.1.cell (i := 2) rfl
          go_wp2_with fail
          refine HRc.out.mono ?_
          clear HRc q0 q1 q2
          intro e9 w9 hck
          obtain ⟨o9, Z8, hZS, hZD, rfl, hZ9⟩ := ck_an hck
          rw [HFE8.out.1, HFE8.out.2.1, HFE8.out.2.2]
          have hTSa := HT9.out.1.quiet o9
          obtain ⟨y1, y2, bD9⟩ := hTSa.2.2.2.1
          have c0 := bD9.cell (i := 0) rfl
          have c1 := bD9.cell (i := 1) rfl
          have f0 := bD9.frozen 0
          have f1 := bD9.frozen 1
          obtain ⟨W9, hW9⟩ : ∃ W9, (w9.setCell ⟨bd, 0, none⟩ (.slice Z8.sa Z8.n Z8.sc)).setCell ⟨bd, 1, none⟩ (.slice Z8.da Z8.m Z8.dc) = W9 := ⟨_, rfl⟩
          have x9 : Fx (fun k => k = bd) w9 W9 := by rw [← hW9]; exact ((Fx.refl (fun k => k = bd) _).set (p := ⟨bd, 0, none⟩) (.inl rfl) _).set (p := ⟨bd, 1, none⟩) (.inl rfl) _
          have bDa : Bl W9 bd #[.slice Z8.sa Z8.n Z8.sc, .slice Z8.da Z8.m Z8.dc] 71 := by rw [← hW9]; exact (bD9.set 0 _).set 1 _
          have hn9 := HNm.out
          have hTSb := hTSa.put x9 bD9 bDa ⟨by omega, by omega, by omega, by omega, by omega⟩ ⟨fun q => (HOB.out bd (.inl q)).2 rfl, fun q => (HOB.out bd (.inr q)).2 rfl⟩
          have offb : ∀ {X : An} {l : Nat}, X.at w9 l → X.at W9 l := fun {X l} hX => hX.fx x9 (fun k hk q => by
            subst q
            obtain ⟨-, -, cs', E', b1', b4⟩ := hX.ty hk
            have b2 : w9.heap[k]? = some (.cells #[y1, y2] 71 (0, 0)) := bD9
            rw [b2] at b1'
            cases b1'
            rcases b4 with e | e <;> exact absurd e (by decide))
          have bCb := (HT9.out.2.1.kept o9 (.inr (Nat.zero_le _))).fx x9 (by omega)
          have HSa := hid_mk (same_an (offb (HT9.out.2.2.1.quiet o9)) (offb hZ9) (HT9.out.2.2.2.1.trans hZS.symm) (HT9.out.2.2.2.2.trans hZD.symm))
          have HTb := hid_mk (And.intro hTSb (And.intro bCb bDa))
          unfold An.s An.d at HSa
          unfold An.s An.d
          clear hck hZS hZD hZ9 hTSa bD9 x9 bDa hn9 hTSb offb bCb o9
          go_upto_region 15 with fail
          (try rw [hW9])
          clear hW9 c0 c1 f0 f1
          have u0 := HTb.out.2.1.cell (i := 0) rfl
          have u1x := HTb.out.2.1.cell (i := 1) rfl
          have v0 := HTb.out.2.2.cell (i := 0) rfl
          have v1 := HTb.out.2.2.cell (i := 1) rfl
          go_wp2_with fail
          refine HSa.out.mono ?_
          clear HSa u0 u1x v0 v1
          rintro e10 w10 ⟨rfl, o10⟩
          have HTc := hid_mk (HTb.out.1.quiet o10)
          clear o10
          go_wp2
          exact ⟨⟨n + 1, _, up_V (K := 3) HG.out.1 (by omega), HG.out.1, HTc.out, HT7.out.2.1⟩, by rw [up_W (K := 3) HG.out.1 (by omega)]; exact ms_3 HG.out.1⟩
      · have g1 : decide ((n : Int) < 3) = false := by simp; omega
        clear hTS hTF hn3 hgo hg3 HTS HTF
        go_wp2
        go_ret
        exact ⟨rfl, HT2.out.1.2.2.2.2.2.2.2.2, ra6, rk6, wa6, wk6, A, Z, HT2.out.1.2.2.2.2.2.2.2.1, HAZ.out⟩
    · have l1 : decide ((n : Int) < (nf : Int)) = false := by simp; omega
      have l2 : decide (n < nf) = false := by simp; omega
      clear hTS hTF hn3 hgo HTS HTF
      go_wp2
      go_ret
      exact ⟨rfl, HT2.out.1.2.2.2.2.2.2.2.2, ra6, rk6, wa6, wk6, A, Z, HT2.out.1.2.2.2.2.2.2.2.1, HAZ.out⟩
end Go.Proofs.YtkghabmgofgclaaDoor
