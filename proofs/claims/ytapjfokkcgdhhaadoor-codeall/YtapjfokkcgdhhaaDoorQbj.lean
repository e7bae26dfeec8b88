import Derived.Test.YtapjfokkcgdhhaaDoorQbb
import Derived.Test.YtapjfokkcgdhhaaDoorQbi
import Derived.Test.YtapjfokkcgdhhaaDoorQan
namespace Go.Proofs.YtapjfokkcgdhhaaDoor
open Go.ChangeShapes Go.WideShapes Go.ChangeAt Go.RowKit Go.Deep
set_option linter.unusedVariables false
set_option linter.unusedSimpArgs false

theorem kq_off {w : World} {lo : Nat} {p : (Int × (Option Addr × Nat) × (Option Addr × Nat) × List Value × List Value × List (List Int) × List (Int × Int × Int × List (Int × Int)))} {E : TypeId} {sz n k : Nat} {v : Value} {xs : List Value} (hp : PW w lo p) (h : w.ownsRow lo E sz v n xs) (hE : E = 22) (hk : PB p k) (hT : (gT p).ownBlock ≠ some k) : v.ownBlock ≠ some k := by
  subst hE
  intro e
  obtain ⟨-, -, cs, E, b1, b2⟩ := hp.ty hk
  rcases b2 with ⟨e1, -⟩ | ⟨-, e1⟩ | ⟨-, e1⟩ | ⟨-, e1⟩
  · exact hT e1
  · exact own_no h b1 (by rw [e1]; decide) e
  · exact own_no h b1 (by rw [e1]; decide) e
  · exact own_no h b1 (by rw [e1]; decide) e
theorem writesK_any {w : World} {B lo bk n np : Nat} (hT : Ty w) (hB : B ≤ w.heap.size) (x : Int) (ts : List (List Int)) (fs : List (Int × Int × Int × List (Int × Int))) (ta fa : Option Addr) (nt tc nf fc : Nat) (hnt : ts.length = nt) (hnf : fs.length = nf) (hts : TxIn w B ta ts) (hfs : FnIn w B fa fs) (hP : PlP x ts fs) (hlo : lo ≤ w.heap.size) (hn : n ≤ 1000 ∧ B ≤ bk ∧ 1 ≤ B) (hKP : KP w lo bk n np) :
    Calls Tryd.prog 9 #[.agg #[.int .i64 x, .slice ta nt tc, .slice fa nf fc], .pointer (some ⟨bk, 0, none⟩)] w fun e w' => e = .returned (.bool true) ∧ Fx (fun k => lo ≤ k ∨ k = bk) w w' ∧ KP w' lo bk (n + 1) np := by
  obtain ⟨ra, rk, wa, wk, rvs, wvs, ls, pa, pk, sa, sk, Ps, Qs, hK, hQ, hX, hls⟩ := hKP
  refine (writes_any hT hB x ts fs ta fa nt tc nf fc hnt hnf hts hfs hP hlo hn hK).mono ?_
  rintro e w' ⟨rfl, x1, ra', rk', wa', wk', v, u, t, hK', ht, hv, fR, fW⟩
  have hbl := hK.2.2.2.2.2
  have hR := hK.2.1.1
  have hW := hK.2.2.1
  refine ⟨rfl, x1.wide (fun k _ hk => ?_), ra', rk', wa', wk', rvs ++ [v], wvs ++ [u], ls ++ [t], pa, pk, sa, sk, Ps, Qs, hK', hQ.fx x1 (fun k hk e => ?_) (fun k hk e => ?_) (fun k hk e => ?_) (fun k hk e => ?_), ⟨fun k hk hk' => ?_, fun k hk => ?_⟩, fun l hl => ?_⟩
  · rcases hk with h | h | h
    · exact .inr h
    · exact .inl (own_ge hR h).1
    · exact .inl (own_ge hW h).1
  · rcases e with rfl | e | e
    · have := (own_ge hQ.1 hk).1; omega
    · exact own_apart hQ.1 hR (by decide) hk e
    · exact own_apart hQ.1 hW (by decide) hk e
  · rcases e with rfl | e | e
    · have := (own_ge hQ.2.1 hk).1; omega
    · exact own_apart hQ.2.1 hR (by decide) hk e
    · exact own_apart hQ.2.1 hW (by decide) hk e
  · rcases e with rfl | e | e
    · have := (hQ.qb (.inl hk)).1; omega
    · obtain ⟨i, p, h1, h2⟩ := hk
      exact kq_off (hQ.2.2.2.1 i p h1).1 hR rfl h2 (fun h => (hX.2 k (.inl e)).1 ⟨i, p, h1, h⟩) e
    · obtain ⟨i, p, h1, h2⟩ := hk
      exact kq_off (hQ.2.2.2.1 i p h1).1 hW rfl h2 (fun h => (hX.2 k (.inr e)).1 ⟨i, p, h1, h⟩) e
  · rcases e with rfl | e | e
    · have := (hQ.qb (.inr hk)).1; omega
    · obtain ⟨i, p, h1, h2⟩ := hk
      exact kq_off (hQ.2.2.2.2.1 i p h1) hR rfl h2 (fun h => (hX.2 k (.inl e)).2 ⟨i, p, h1, h⟩) e
    · obtain ⟨i, p, h1, h2⟩ := hk
      exact kq_off (hQ.2.2.2.2.1 i p h1) hW rfl h2 (fun h => (hX.2 k (.inr e)).2 ⟨i, p, h1, h⟩) e
  · obtain ⟨z, h1, h2⟩ := rb_mem.1 hk
    rcases List.mem_append.1 h1 with h1 | h1
    · exact hX.1 k (rb_mem.2 ⟨z, h1, h2⟩) hk'
    · simp at h1
      subst h1
      have h3 := hv k h2
      have h4 := (hQ.qb (.inl (tvs_qb hk'))).2
      omega
  · have hnew : w.heap.size ≤ k → ¬ TB Ps k ∧ ¬ TB Qs k := fun hs => by
      constructor
      · rintro ⟨i, p, h1, h2⟩
        have := (hQ.qb (.inl ⟨i, p, h1, .inl h2⟩)).2
        omega
      · rintro ⟨i, p, h1, h2⟩
        have := (hQ.qb (.inr ⟨i, p, h1, .inl h2⟩)).2
        omega
    rcases hk with hk | hk
    · rcases fR k hk with h | h
      · exact hX.2 k (.inl h)
      · exact hnew h
    · rcases fW k hk with h | h
      · exact hX.2 k (.inr h)
      · exact hnew h
  · rcases List.mem_append.1 hl with h | h
    · exact hls l h
    · simp at h; subst h; exact ht
theorem len4X {l : List Value} (h : l.length = 4) : ∃ a b c d, l = [a, b, c, d] := by
  match l, h with
  | [a, b, c, d], _ => exact ⟨a, b, c, d, rfl⟩
theorem cells_call : Tryd.prog.cellsOf 37 = 4 := by kernel_rfl
theorem cells_progX : Tryd.prog.cellsOf 35 = 3 := by kernel_rfl
theorem bytes_call : Tryd.prog.bytesOf 37 = 80 := by kernel_rfl
/-- calls below a block -/
def CaIn (w : World) (B : Nat) (p : Option Addr) (cs : List ((Int × List (List Int) × List (Int × Int × Int × List (Int × Int))) × List Int)) : Prop :=
  cs = [] ∨ ∃ g off, p = some ⟨g, off, none⟩ ∧ g < B ∧ ∀ (j : Nat) (C : ((Int × List (List Int) × List (Int × Int × Int × List (Int × Int))) × List Int)), cs[j]? = some C → ∃ ta tc fa fc ba bc, w.cell? ⟨g, off + j * 4, none⟩ = some (.int .i64 C.1.1) ∧ w.cell? ⟨g, off + j * 4 + 1, none⟩ = some (.slice ta C.1.2.1.length tc) ∧ w.cell? ⟨g, off + j * 4 + 2, none⟩ = some (.slice fa C.1.2.2.length fc) ∧ w.cell? ⟨g, off + j * 4 + 3, none⟩ = some (.slice ba C.2.length bc) ∧ C.2.length ≤ bc ∧ TxIn w B ta C.1.2.1 ∧ FnIn w B fa C.1.2.2 ∧ ByIn w B ba C.2
def CaOk (C : ((Int × List (List Int) × List (Int × Int × Int × List (Int × Int))) × List Int)) : Prop := (∀ t ∈ C.1.2.1, t.length ≤ 140737488351232) ∧ C.1.2.1.length ≤ 140737488351232 ∧ (∀ f ∈ C.1.2.2, MI f.2.2.2 ∧ f.2.2.2.length ≤ 140737488351232) ∧ C.1.2.2.length ≤ 140737488351232 ∧ C.2.length ≤ 140737488351232
theorem open_calls {H : Type} {enc : TypeId × Value → H} {W : World} {fuel : Nat} {cs : List Value} {x : DataW H × List MemPlace} (h : DataW.trod enc Tryd.prog W 0 (fun _ => true) true fuel 31 cs = some x) (hw : ∀ n ∈ x.1.weights Tryd.prog 31, n ≤ reachBytes) :
    ∃ (p : Option Addr) (ps : List ((Int × List (List Int) × List (Int × Int × Int × List (Int × Int))) × List Int)) (cap : Nat), cs = [.slice p ps.length cap] ∧ CaIn W W.heap.size p ps ∧ (∀ P ∈ ps, CaOk P) ∧ ps.length ≤ 140737488351232 := by
  rcases open_slice Tryd.underlying31 h with h0 | ⟨a, len, cap, m, n, D, Pl, rfl, hb, hl, hm, hmm, rfl, hx⟩
  · exact ⟨none, [], 0, h0.1, .inl rfl, (fun t ht => by cases ht), by simp⟩
  simp only [if_true] at hmm
  subst hmm
  have each : ∀ i, i < len → ∃ q : ((Int × List (List Int) × List (Int × Int × Int × List (Int × Int))) × List Int) × (Option Addr × Nat) × (Option Addr × Nat) × Option Addr × Nat, W.cell? (a.add (i * 4)) = some (.int .i64 q.1.1.1) ∧ W.cell? (a.add (i * 4 + 1)) = some (.slice q.2.1.1 q.1.1.2.1.length q.2.1.2) ∧ W.cell? (a.add (i * 4 + 2)) = some (.slice q.2.2.1.1 q.1.1.2.2.length q.2.2.1.2) ∧ W.cell? (a.add (i * 4 + 3)) = some (.slice q.2.2.2.1 q.1.2.length q.2.2.2.2) ∧ q.1.2.length ≤ q.2.2.2.2 ∧ TxIn W W.heap.size q.2.1.1 q.1.1.2.1 ∧ FnIn W W.heap.size q.2.2.1.1 q.1.1.2.2 ∧ ByIn W W.heap.size q.2.2.2.1 q.1.2 ∧ CaOk q.1 := by
    intro i hi
    obtain ⟨cs', h1, h2⟩ := hx i (by omega)
    rw [cells_call] at h1
    obtain ⟨_, hlen, hcell⟩ := World.cells?_some h1
    obtain ⟨yP, yB, n', hxy, hl2, gP, gB⟩ := trod_struct2 Tryd.underlying37 h2
    obtain ⟨v0, v1, v2, v3, rfl⟩ := len4X hlen
    simp [cells_progX, cells_bytes] at gP gB
    obtain ⟨y0, y1, y2, n3, hxy3, hl3, g0, g1, g2⟩ := trod_struct3 Tryd.underlying35 gP
    simp [cells_int, cells_texts, cells_funcs] at g0 g1 g2
    have wk : ∀ k, k ∈ (D i).weights Tryd.prog 37 → k ≤ reachBytes := fun k hk => hw k (by
      simp only [DataW.weights, Tryd.underlying31, List.mem_cons, List.mem_append]
      exact .inr (.inl (weightsAll_in (d := D i) hk (List.mem_map.2 ⟨i, List.mem_range.2 hi, rfl⟩))))
    have hD : D i = _ := congrArg Prod.fst hxy
    rw [hD] at wk
    have wP : ∀ k, k ∈ yP.1.weights Tryd.prog 35 → k ≤ reachBytes := fun k hk => wk k (by simp [DataW.weights, DataW.weightsEach, Tryd.underlying37, hk])
    have hDP : yP.1 = _ := congrArg Prod.fst hxy3
    rw [hDP] at wP
    obtain ⟨z0, e0, _, w0⟩ := DataW.trod_int Tryd.underlying3 g0
    obtain ⟨p1, ts, c1, e1, k1, k2, k3⟩ := open_texts g1 (fun k hk => wP k (by simp [DataW.weights, DataW.weightsEach, Tryd.underlying35, hk]))
    obtain ⟨p2, fs, c2, e2, m1, m2, m3⟩ := open_funcs g2 (fun k hk => wP k (by simp [DataW.weights, DataW.weightsEach, Tryd.underlying35, hk]))
    obtain ⟨p3, bs, c3, e3, b1, b2, b3⟩ := open_bytes gB (fun k hk => wk k (by simp [DataW.weights, DataW.weightsEach, Tryd.underlying37, hk]))
    simp only [List.cons.injEq, and_true] at e0 e1 e2 e3
    have f0 := hcell 0 (by omega)
    have f1 := hcell 1 (by omega)
    have f2 := hcell 2 (by omega)
    have f3 := hcell 3 (by omega)
    rw [add_add] at f0 f1 f2 f3
    exact ⟨(((z0, ts, fs), bs), (p1, c1), (p2, c2), p3, c3), by simpa [e0] using f0, by simpa [e1] using f1, by simpa [e2] using f2, by simpa [e3] using f3, b3, k1, m1, b1, k2, k3, m2, m3, b2⟩
  obtain ⟨q, hq⟩ := choose_lt each
  have hlen : ((List.range len).map fun i => (q i).1).length = len := by simp
  have hle : len ≤ 140737488351232 := by
    have := hw ((len + (m - len)) * 80) (by simp [DataW.weights, Tryd.underlying31, bytes_call])
    unfold reachBytes at this
    omega
  refine ⟨some a, (List.range len).map fun i => (q i).1, _, by rw [hlen], ?_, fun t ht => ?_, by rw [hlen]; exact hle⟩
  rotate_left
  · obtain ⟨i, hi, rfl⟩ := List.mem_map.1 ht
    exact (hq i (by simpa using hi)).2.2.2.2.2.2.2.2
  by_cases h0 : len = 0
  · left; subst h0; rfl
  · right
    obtain ⟨b, off, spot⟩ := a
    have hspot : spot = none := by
      have := (hq 0 (by omega)).1
      simpa [Addr.add] using World.cell?_spot this
    subst hspot
    refine ⟨b, off, rfl, ?_, fun j t hj => ?_⟩
    · have := cell_in (hq 0 (by omega)).1
      simpa [Addr.add] using this
    · have hj' : j < len := by have := (List.getElem?_eq_some_iff.1 hj).1; simpa using this
      have e : t = (q j).1 := by rw [List.getElem?_map, List.getElem?_range hj'] at hj; simpa using hj.symm
      subst e
      obtain ⟨k1, k2, k3, k4, k5, k6, k7, k8, _⟩ := hq j hj'
      rw [add_plain] at k1 k2 k3 k4
      exact ⟨(q j).2.1.1, (q j).2.1.2, (q j).2.2.1.1, (q j).2.2.1.2, (q j).2.2.2.1, (q j).2.2.2.2, k1, by rw [Nat.add_assoc]; exact k2, by rw [Nat.add_assoc]; exact k3, by rw [Nat.add_assoc]; exact k4, k5, k6, k7, k8⟩
end Go.Proofs.YtapjfokkcgdhhaaDoor
