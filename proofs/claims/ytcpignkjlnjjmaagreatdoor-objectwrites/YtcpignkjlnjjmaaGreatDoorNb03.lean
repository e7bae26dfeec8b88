import Derived.Test.YtcpignkjlnjjmaaGreatDoorNa30
namespace Go.Proofs.YtcpignkjlnjjmaaGreatDoor
open Go.RowKit
set_option linter.unusedVariables false
set_option linter.unusedSimpArgs false

/-- may the value be set there? -/
def stB (n : Nat) (st : Sp) (q : Nat) (i xk xn : Int) : Bool := fieldB (roleV (st.O q).1 (st.O q).2.1 i) && validB_v xk xn && rgB (rawOf n st) q (st.O q) (roleV (st.O q).1 (st.O q).2.1 i) (xn * 8 + (xk - 1))
def stE (n : Nat) (st : Sp) (q : Nat) (i xk xn : Int) : Int := if stB n st q i xk xn then 0 else if fieldB (roleV (st.O q).1 (st.O q).2.1 i) then 33 else 32
def stS (n : Nat) (st : Sp) (q : Nat) (i xk xn : Int) : Sp := if stB n st q i xk xn then wSpO st (pokeW n st.W ((q : Int) + i) (xn * 8 + (xk - 1))) else st
theorem Set_st {w : World} {lo hi hb n cap q : Nat} {s : Nat → Nat} {st : Sp} (h : SpAt w lo hi s n cap st) (hR : Rt n st) (hH : w.cell? ⟨hb, 0, none⟩ = some (.pointer (some ⟨s 14, 0, none⟩))) (hout : hi ≤ hb) (ha : hasB (st.O q) = true) (i xk xn : Int) {e0 : Int} {st' : Sp} (he : stE n st q i xk xn = e0) (hs : stS n st q i xk xn = st') :
    Calls Tryz.prog 16 #[.pointer (some ⟨hb, 0, none⟩), .agg #[.int .i64 2, .int .i64 (q : Int)], .int .i64 i, .agg #[.int .i64 xk, .int .i64 xn]] w fun e w' => e = .returned (.agg #[.int .i64 e0, .int .i64 0]) ∧ SpAt w' lo hi s n cap st' ∧ Out lo hi w w' := by
  have hM := raw_at (n := n) ha
  have h0 := op_right hR ha
  subst he hs
  unfold stE stS stB
  generalize st.O q = b at *
  obtain ⟨t1, t2, t3, t4⟩ := b
  dsimp only
  cases hf : fieldB (roleV t1 t2 i)
  · simp only [Bool.false_and, Bool.false_eq_true, if_false]
    exact (Set_field h.1 (arenaO h.2) hH 2 q i xk xn hM h0 hf).mono fun e w' ⟨e1, e2⟩ => ⟨e1, h.quiet e2, e2.any lo hi⟩
  · cases hx : validB_v xk xn
    · simp only [Bool.and_false, Bool.false_and, Bool.false_eq_true, if_false, if_true]
      exact (Set_novalue h.1 (arenaO h.2) hH 2 q i xk xn hM h0 hf hx).mono fun e w' ⟨e1, e2⟩ => ⟨e1, h.quiet e2, e2.any lo hi⟩
    · cases hg : rgB (rawOf n st) q (t1, t2, t3, t4) (roleV t1 t2 i) (xn * 8 + (xk - 1))
      · simp only [Bool.and_false, Bool.false_eq_true, if_false, if_true]
        exact (Set_wrong h.1 (arenaO h.2) hH 2 q i xk xn hM h0 hf hx hg).mono fun e w' ⟨e1, e2⟩ => ⟨e1, h.quiet e2, e2.any lo hi⟩
      · simp only [Bool.and_self, if_true]
        exact Set_yesS h hH (.inr hout) 2 q i xk xn hM h0 hf hx hg
theorem st_facts {n q : Nat} {st : Sp} {i xk xn : Int} (h : stB n st q i xk xn = true) : ∃ j : Nat, i = j ∧ 1 ≤ j ∧ (j : Int) < (st.O q).2.1 ∧ validB_v xk xn = true ∧ rgB (rawOf n st) q (st.O q) (roleV (st.O q).1 (st.O q).2.1 i) (xn * 8 + (xk - 1)) = true := by
  unfold stB at h
  rw [Bool.and_eq_true, Bool.and_eq_true] at h
  obtain ⟨⟨h1, h2⟩, h3⟩ := h
  have := role_in h1
  exact ⟨i.toNat, by omega, by omega, by omega, h2, h3⟩
/-- what a Set leaves right -/
theorem st_right {n q : Nat} {st : Sp} {i xk xn : Int} (hi : Inv n st) (hR : Rt n st) (ha : hasB (st.O q) = true) : Rt n (stS n st q i xk xn) ∧ (stS n st q i xk xn).O = st.O := by
  unfold stS
  cases h : stB n st q i xk xn
  · exact ⟨by simpa using hR, by simp⟩
  · obtain ⟨j, rfl, j1, j2, _⟩ := st_facts h
    simp only [if_true]
    exact ⟨rt_room hi hR ha fun k hk => poke_far (by omega), rfl⟩
/-- a word that a Set has turned: it is the one that was named, it is right, and it is the value's -/
theorem st_word {n q k : Nat} {st : Sp} {i xk xn : Int} (hk : k < 64 * n) (ha : hasB (st.O q) = true) (hne : st.W k ≠ (stS n st q i xk xn).W k) :
    stE n st q i xk xn = 0 ∧ (k : Int) = (q : Int) + i ∧ rightB (rawOf n (stS n st q i xk xn)) q i ((stS n st q i xk xn).W k) = true ∧ validB_v xk xn = true ∧ (stS n st q i xk xn).W k = xn * 8 + xk - 1 := by
  unfold stS at hne ⊢
  unfold stE
  cases h : stB n st q i xk xn
  · rw [h] at hne; simp at hne
  · rw [h] at hne
    obtain ⟨j, rfl, j1, j2, j3, j4⟩ := st_facts h
    simp only [if_true] at hne ⊢
    have hkq : (k : Int) = (q : Int) + (j : Int) := by
      by_cases c : (k : Int) = (q : Int) + (j : Int)
      · exact c
      · exact absurd (poke_far (n := n) (W := st.W) (v := xn * 8 + (xk - 1)) c).symm hne
    have hW : (wSpO st (pokeW n st.W ((q : Int) + (j : Int)) (xn * 8 + (xk - 1)))).W k = xn * 8 + (xk - 1) := by
      show pokeW n st.W ((q : Int) + (j : Int)) (xn * 8 + (xk - 1)) k = _
      rw [← hkq]
      exact poke_at hk
    refine ⟨trivial, hkq, ?_, j3, by rw [hW]; omega⟩
    rw [hW]
    unfold rightB
    rw [show (rawOf n (wSpO st (pokeW n st.W ((q : Int) + (j : Int)) (xn * 8 + (xk - 1))))).M (q : Int) = some (st.O q) from raw_at (n := n) ha]
    exact j4
end Go.Proofs.YtcpignkjlnjjmaaGreatDoor
namespace Go.Proofs.YtcpignkjlnjjmaaGreatDoor
open Go.ChangeShapes Go.WideShapes Go.ChangeAt Go.RowKit Go.Deep
set_option linter.unusedVariables false
set_option linter.unusedSimpArgs false

/-- puts: the object, the word, the value's kind and number -/
def PutsAt (w : World) (b : Nat) (p : Option Addr) (os : List (Int × Int × Int × Int)) : Prop :=
  (∀ o ∈ os, (-9223372036854775808 ≤ o.1 ∧ o.1 ≤ 9223372036854775807) ∧ (-9223372036854775808 ≤ o.2.1 ∧ o.2.1 ≤ 9223372036854775807) ∧ (-9223372036854775808 ≤ o.2.2.2 ∧ o.2.2.2 ≤ 9223372036854775807)) ∧
  (os = [] ∨ ∃ g off, p = some ⟨g, off, none⟩ ∧ g < b ∧ ∀ j o, os[j]? = some o → w.cell? ⟨g, off + j * 4, none⟩ = some (.int .i64 o.1) ∧ w.cell? ⟨g, off + j * 4 + 1, none⟩ = some (.int .i64 o.2.1) ∧ w.cell? ⟨g, off + j * 4 + 2, none⟩ = some (.int .i64 o.2.2.1) ∧ w.cell? ⟨g, off + j * 4 + 3, none⟩ = some (.int .i64 o.2.2.2))
theorem PutsAt.kept {w w' : World} {b x y : Nat} {p : Option Addr} {L : List (Int × Int × Int × Int)} (h : PutsAt w b p L) (o : Out x y w w') (hx : b ≤ x ∨ y = 0) : PutsAt w' b p L := by
  refine ⟨h.1, ?_⟩
  rcases h.2 with h | ⟨g, off, h1, h2, h3⟩
  · exact .inl h
  · refine .inr ⟨g, off, h1, h2, fun j q hj => ?_⟩
    obtain ⟨a, b, c, d⟩ := h3 j q hj
    exact ⟨o.cell a (by omega), o.cell b (by omega), o.cell c (by omega), o.cell d (by omega)⟩
theorem cells_put : Tryz.prog.cellsOf 60 = 4 := by kernel_rfl
theorem cells_val2 : Tryz.prog.cellsOf 31 = 2 := by kernel_rfl
theorem trod_s3 {H : Type} {enc : TypeId × Value → H} {P : Program} {w : World} {base : Nat} {spare : Nat → Bool} {held : Bool} {t : TypeId} {f0 f1 f2 : Field} {fuel : Nat} {cs : List Value} {x : DataW H × List MemPlace} (ht : P.underlying t = some (.struct #[f0, f1, f2])) (h : DataW.trod enc P w base spare held fuel t cs = some x) :
    ∃ (y0 y1 y2 : DataW H × List MemPlace) (n : Nat), DataW.trod enc P w base spare held n f0.type ((cs.drop f0.offset).take (P.cellsOf f0.type)) = some y0 ∧ DataW.trod enc P w base spare held n f1.type ((cs.drop f1.offset).take (P.cellsOf f1.type)) = some y1 ∧ DataW.trod enc P w base spare held n f2.type ((cs.drop f2.offset).take (P.cellsOf f2.type)) = some y2 := by
  obtain ⟨xs, n, _, rfl, hl, hlen, hf⟩ := DataW.trod_struct ht h
  match xs, hlen with
  | [y0, y1, y2], _ => exact ⟨y0, y1, y2, n, by simpa using hf 0 f0 rfl, by simpa using hf 1 f1 rfl, by simpa using hf 2 f2 rfl⟩
theorem trod_s2 {H : Type} {enc : TypeId × Value → H} {P : Program} {w : World} {base : Nat} {spare : Nat → Bool} {held : Bool} {t : TypeId} {f0 f1 : Field} {fuel : Nat} {cs : List Value} {x : DataW H × List MemPlace} (ht : P.underlying t = some (.struct #[f0, f1])) (h : DataW.trod enc P w base spare held fuel t cs = some x) :
    ∃ (y0 y1 : DataW H × List MemPlace) (n : Nat), DataW.trod enc P w base spare held n f0.type ((cs.drop f0.offset).take (P.cellsOf f0.type)) = some y0 ∧ DataW.trod enc P w base spare held n f1.type ((cs.drop f1.offset).take (P.cellsOf f1.type)) = some y1 := by
  obtain ⟨xs, n, _, rfl, hl, hlen, hf⟩ := DataW.trod_struct ht h
  match xs, hlen with
  | [y0, y1], _ => exact ⟨y0, y1, n, by simpa using hf 0 f0 rfl, by simpa using hf 1 f1 rfl⟩
set_option maxRecDepth 100000 in
set_option maxHeartbeats 1000000 in
theorem open_puts {H : Type} {enc : TypeId × Value → H} {W : World} {fuel : Nat} {cs : List Value} {x : DataW H × List MemPlace} (h : DataW.trod enc Tryz.prog W 0 (fun _ => true) true fuel 58 cs = some x) :
    ∃ (p : Option Addr) (os : List (Int × Int × Int × Int)) (cap : Nat), cs = [.slice p os.length cap] ∧ PutsAt W W.heap.size p os := by
  rcases open_slice Tryz.underlying58 h with h0 | ⟨a, len, cap, m, n, D, Pl, rfl, hb, hl, hm, hmm, rfl, hx⟩
  · exact ⟨none, [], 0, h0.1, ⟨(fun x hx => by cases hx), .inl rfl⟩⟩
  simp only [if_true] at hmm
  subst hmm
  have each : ∀ i, i < len → ∃ q : Int × Int × Int × Int, W.cell? (a.add (i * 4)) = some (.int .i64 q.1) ∧ W.cell? (a.add (i * 4 + 1)) = some (.int .i64 q.2.1) ∧ W.cell? (a.add (i * 4 + 2)) = some (.int .i64 q.2.2.1) ∧ W.cell? (a.add (i * 4 + 3)) = some (.int .i64 q.2.2.2) ∧ (-9223372036854775808 ≤ q.1 ∧ q.1 ≤ 9223372036854775807) ∧ (-9223372036854775808 ≤ q.2.1 ∧ q.2.1 ≤ 9223372036854775807) ∧ (-9223372036854775808 ≤ q.2.2.2 ∧ q.2.2.2 ≤ 9223372036854775807) := by
    intro i hi
    obtain ⟨cs', h1, h2⟩ := hx i (by omega)
    rw [cells_put] at h1
    obtain ⟨_, hlen, hcell⟩ := World.cells?_some h1
    obtain ⟨y0, y1, y2, n', g0, g1, g2⟩ := trod_s3 Tryz.underlying60 h2
    match cs', hlen with
    | [v0, v1, v2, v3], _ =>
      simp [cells_int, cells_val2] at g0 g1 g2
      obtain ⟨z0, e0, _, w0⟩ := DataW.trod_int Tryz.underlying3 g0
      obtain ⟨z1, e1, _, w1⟩ := DataW.trod_int Tryz.underlying3 g1
      obtain ⟨y3, y4, n'', g3, g4⟩ := trod_s2 Tryz.underlying31 g2
      simp [cells_int] at g3 g4
      obtain ⟨z2, e2, _, w2⟩ := DataW.trod_int Tryz.underlying3 g3
      obtain ⟨z3, e3, _, w3⟩ := DataW.trod_int Tryz.underlying3 g4
      simp only [List.cons.injEq, and_true] at e0 e1 e2 e3
      have f0 := hcell 0 (by omega)
      have f1 := hcell 1 (by omega)
      have f2 := hcell 2 (by omega)
      have f3 := hcell 3 (by omega)
      rw [add_add] at f0 f1 f2 f3
      exact ⟨(z0, z1, z2, z3), by simpa [e0] using f0, by simpa [e1] using f1, by simpa [e2] using f2, by simpa [e3] using f3, i64_bounds w0, i64_bounds w1, i64_bounds w3⟩
  obtain ⟨q, hq⟩ := choose_lt each
  have hlen : ((List.range len).map q).length = len := by simp
  refine ⟨some a, (List.range len).map q, _, by rw [hlen], ⟨fun o ho => ?_, ?_⟩⟩
  · obtain ⟨i, hi, rfl⟩ := List.mem_map.1 ho
    exact (hq i (by simpa using hi)).2.2.2.2
  · by_cases h0 : len = 0
    · left; subst h0; rfl
    · right
      obtain ⟨b, off, spot⟩ := a
      have hspot : spot = none := by
        have := (hq 0 (by omega)).1
        simpa [Addr.add] using World.cell?_spot this
      subst hspot
      refine ⟨b, off, rfl, ?_, fun j o hj => ?_⟩
      · have := cell_in (hq 0 (by omega)).1
        simpa [Addr.add] using this
      · have hj' : j < len := by have := (List.getElem?_eq_some_iff.1 hj).1; simpa using this
        have e : o = q j := by rw [List.getElem?_map, List.getElem?_range hj'] at hj; simpa using hj.symm
        rw [e]
        obtain ⟨c0, c1, c2, c3, _⟩ := hq j hj'
        rw [add_plain] at c0 c1 c2 c3
        exact ⟨c0, by simpa [Nat.add_assoc] using c1, by simpa [Nat.add_assoc] using c2, by simpa [Nat.add_assoc] using c3⟩
end Go.Proofs.YtcpignkjlnjjmaaGreatDoor
