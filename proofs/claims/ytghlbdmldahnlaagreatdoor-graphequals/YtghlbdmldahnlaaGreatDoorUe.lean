/- programs as bytes: whole programs -/
import Derived.Test.YtghlbdmldahnlaaGreatDoorUd
namespace Go.Proofs.YtghlbdmldahnlaaGreatDoor
set_option linter.unusedVariables false
set_option linter.unusedSimpArgs false

theorem Comp.txt : Comp txtR okT encT := by
  intro bs a t post hok hat
  unfold encT at hat ⊢
  rw [List.append_assoc] at hat
  unfold txtR
  rw [bnd_ok (Comp.num (lo := 0) (hi := 4096) (by decide) bs a t.length _ ⟨Nat.zero_le _, hok⟩ hat), Comp.take hat.next rfl, List.length_append, Nat.add_assoc]
theorem Snd.txt : Snd txtR okT encT := by
  intro bs a t e hB ha h
  rcases bnd_inv h with ⟨x, _, hx⟩ | ⟨n, e1, h1, h2⟩
  · cases hx
  obtain ⟨g1, g2, post, g3⟩ := Snd.num bs a n e1 hB ha h1
  subst g2
  obtain ⟨k1, k2, post2, k3⟩ := Snd.take g3.next.1 h2
  subst k1
  refine ⟨g1.2, ?_, post2, ?_⟩
  · unfold encT; rw [List.length_append]; omega
  · unfold encT; rw [List.append_assoc]; exact g3.join k3
theorem Comp.fun_ : Comp funR okF encF := by
  intro bs a f post hok hat
  obtain ⟨x, y, z, l⟩ := f
  obtain ⟨⟨x1, x2⟩, ⟨y1, y2⟩, ⟨z1, z2⟩, l1, l2⟩ := hok
  dsimp only at x1 x2 y1 y2 z1 z2 l1 l2
  unfold encF at hat ⊢
  dsimp only at hat ⊢
  simp only [List.append_assoc] at hat
  simp only [List.length_append]
  have a2 := hat.next
  have a3 := a2.next
  have a4 := a3.next
  have a5 := a4.next
  unfold funR
  rw [bnd_ok (Comp.num (lo := 0) (hi := 8) (by decide) bs a x.toNat _ (by omega) hat), bnd_ok (Comp.num (lo := 0) (hi := 64) (by decide) bs _ y.toNat _ (by omega) a2), bnd_ok (Comp.num (lo := 0) (hi := 64) (by decide) bs _ z.toNat _ (by omega) a3),
    bnd_ok (Comp.num (lo := 0) (hi := 4096) (by decide) bs _ l.length _ (by omega) a4), bnd_ok (Comp.rep Comp.ins l bs _ post l2 a5)]
  show Sum.inr (((x.toNat : Int), (y.toNat : Int), (z.toNat : Int), l), _) = _
  rw [Int.toNat_of_nonneg x1, Int.toNat_of_nonneg y1, Int.toNat_of_nonneg z1]
  simp only [Nat.add_assoc]
theorem Snd.fun_ : Snd funR okF encF := by
  intro bs a f e hB ha h
  rcases bnd_inv h with ⟨x, _, hx⟩ | ⟨x, e1, h1, h⟩
  · cases hx
  rcases bnd_inv h with ⟨x, _, hx⟩ | ⟨y, e2, h2, h⟩
  · cases hx
  rcases bnd_inv h with ⟨x, _, hx⟩ | ⟨z, e3, h3, h⟩
  · cases hx
  rcases bnd_inv h with ⟨x, _, hx⟩ | ⟨n, e4, h4, h⟩
  · cases hx
  rcases bnd_inv h with ⟨x, _, hx⟩ | ⟨l, e5, h5, h⟩
  · cases hx
  cases h
  obtain ⟨p1, q1, r1, s1⟩ := Snd.num bs a x e1 hB ha h1
  subst q1
  obtain ⟨p2, q2, r2, s2⟩ := Snd.num bs _ y e2 hB s1.next.1 h2
  subst q2
  obtain ⟨p3, q3, r3, s3⟩ := Snd.num bs _ z e3 hB s2.next.1 h3
  subst q3
  obtain ⟨p4, q4, r4, s4⟩ := Snd.num bs _ n e4 hB s3.next.1 h4
  subst q4
  obtain ⟨p5, p6, q5, r5, s5⟩ := Snd.rep Snd.ins n bs _ l e hB s4.next.1 h5
  subst p5
  refine ⟨⟨by dsimp only; omega, by dsimp only; omega, by dsimp only; omega, p4.2, p6⟩, ?_, r5, ?_⟩
  · unfold encF; dsimp only; simp only [List.length_append, Int.toNat_natCast]; omega
  · unfold encF; dsimp only; simp only [List.append_assoc, Int.toNat_natCast]
    exact s1.join (s2.join (s3.join (s4.join s5)))
theorem Comp.mag : ∀ (l bs : List Int) (a : Nat) (post : List Int), At bs a (l ++ post) → magR l bs a = .inr ((), a + l.length)
  | [], bs, a, post, h => rfl
  | c :: l, bs, a, post, h => by
    have h' : At bs a ([c] ++ (l ++ post)) := h
    have h0 : takeR 1 bs a = .inr ([c], a + 1) := Comp.take h' rfl
    have h1 : chkR (takeR 1) (· = [c]) bs a = .inr ([c], a + 1) := chk_ok h0 rfl
    show bndR _ _ bs a = _
    rw [bnd_ok h1, Comp.mag l bs (a + 1) post h'.next, List.length_cons]
    congr 2; omega
theorem Snd.mag : ∀ (l bs : List Int) (a e : Nat) (u : Unit), a ≤ bs.length → magR l bs a = .inr (u, e) → e = a + l.length ∧ ∃ post, At bs a (l ++ post)
  | [], bs, a, e, u, ha, h => by cases h; exact ⟨rfl, _, ha, rfl⟩
  | c :: l, bs, a, e, u, ha, h => by
    rcases bnd_inv h with ⟨x, _, hx⟩ | ⟨x, e1, h1, h⟩
    · cases hx
    rcases chk_inv h1 with ⟨y, _, hx⟩ | ⟨l', e0', h5, hok, hx⟩ | ⟨l', e0', _, _, hx⟩
    · cases hx
    · cases hx
      subst hok
      obtain ⟨k1, k2, post, k3⟩ := Snd.take ha h5
      subst k2
      obtain ⟨g1, post2, g2⟩ := Snd.mag l bs _ e u k3.next.1 h
      refine ⟨by rw [g1]; simp only [List.length_cons, List.length_nil]; omega, post2, ?_⟩
      exact k3.join g2
    · cases hx
theorem Comp.prg : Comp prgR okP encP := by
  intro bs a p post hok hat
  obtain ⟨g, ts, fs⟩ := p
  obtain ⟨⟨x1, x2⟩, t1, t2, ⟨f1, f2⟩, f3⟩ := hok
  dsimp only at x1 x2 t1 t2 f1 f2 f3
  unfold encP at hat ⊢
  dsimp only at hat ⊢
  simp only [List.append_assoc] at hat
  simp only [List.length_append]
  have a2 := hat.next
  have a3 := a2.next
  have a4 := a3.next
  have a5 := a4.next
  have a6 := a5.next
  unfold prgR
  rw [bnd_ok (Comp.mag [104, 116, 104, 1] bs a _ hat), bnd_ok (Comp.num (lo := 0) (hi := 64) (by decide) bs _ g.toNat _ (by omega) a2), bnd_ok (Comp.num (lo := 0) (hi := 64) (by decide) bs _ ts.length _ (by omega) a3),
    bnd_ok (Comp.rep Comp.txt ts bs _ _ t2 a4), bnd_ok (Comp.num (lo := 1) (hi := 64) (by decide) bs _ fs.length _ (by omega) a5), bnd_ok (Comp.rep Comp.fun_ fs bs _ post f3 a6)]
  show Sum.inr (((g.toNat : Int), ts, fs), _) = _
  rw [Int.toNat_of_nonneg x1]
  simp only [Nat.add_assoc]
theorem Snd.prg : Snd prgR okP encP := by
  intro bs a p e hB ha h
  rcases bnd_inv h with ⟨x, _, hx⟩ | ⟨u, e0, h0, h⟩
  · cases hx
  rcases bnd_inv h with ⟨x, _, hx⟩ | ⟨g, e1, h1, h⟩
  · cases hx
  rcases bnd_inv h with ⟨x, _, hx⟩ | ⟨n, e2, h2, h⟩
  · cases hx
  rcases bnd_inv h with ⟨x, _, hx⟩ | ⟨ts, e3, h3, h⟩
  · cases hx
  rcases bnd_inv h with ⟨x, _, hx⟩ | ⟨m, e4, h4, h⟩
  · cases hx
  rcases bnd_inv h with ⟨x, _, hx⟩ | ⟨fs, e5, h5, h⟩
  · cases hx
  cases h
  obtain ⟨q0, r0, s0⟩ := Snd.mag _ bs a e0 u ha h0
  subst q0
  obtain ⟨p1, q1, r1, s1⟩ := Snd.num bs _ g e1 hB s0.next.1 h1
  subst q1
  obtain ⟨p2, q2, r2, s2⟩ := Snd.num bs _ n e2 hB s1.next.1 h2
  subst q2
  obtain ⟨p3, p3', q3, r3, s3⟩ := Snd.rep Snd.txt n bs _ ts e3 hB s2.next.1 h3
  subst p3
  subst q3
  obtain ⟨p4, q4, r4, s4⟩ := Snd.num bs _ m e4 hB s3.next.1 h4
  subst q4
  obtain ⟨p5, p6, q5, r5, s5⟩ := Snd.rep Snd.fun_ m bs _ fs e hB s4.next.1 h5
  subst p5
  refine ⟨⟨by dsimp only; omega, p2.2, p3', p4, p6⟩, ?_, r5, ?_⟩
  · unfold encP; dsimp only; simp only [List.length_append, Int.toNat_natCast]; omega
  · unfold encP; dsimp only; simp only [List.append_assoc, Int.toNat_natCast]
    exact s0.join (s1.join (s2.join (s3.join (s4.join s5))))
/-- a whole row: nothing is left behind the program -/
noncomputable def wholeR (bs : List Int) : Sum (Int × Nat) (Int × List (List Int) × List (Int × Int × Int × List (Int × Int))) := match prgR bs 0 with
  | .inl e => .inl e
  | .inr p => if p.2 = bs.length then .inr p.1 else .inl (60, p.2)
theorem whole_err {bs : List Int} {x : Int × Nat} (h : prgR bs 0 = .inl x) : wholeR bs = .inl x := by unfold wholeR; rw [h]
theorem whole_ok {bs : List Int} {p : Int × List (List Int) × List (Int × Int × Int × List (Int × Int))} (h : prgR bs 0 = .inr (p, bs.length)) : wholeR bs = .inr p := by unfold wholeR; rw [h]; exact if_pos rfl
theorem whole_left {bs : List Int} {p : Int × List (List Int) × List (Int × Int × Int × List (Int × Int))} {e : Nat} (h : prgR bs 0 = .inr (p, e)) (he : e ≠ bs.length) : wholeR bs = .inl (60, e) := by unfold wholeR; rw [h]; exact if_neg he
theorem at_self (l post : List Int) : At (l ++ post) 0 (l ++ post) := ⟨Nat.zero_le _, rfl⟩
theorem prg_enc {p : Int × List (List Int) × List (Int × Int × Int × List (Int × Int))} (h : okP p) (post : List Int) : prgR (encP p ++ post) 0 = .inr (p, (encP p).length) := by
  have := Comp.prg (encP p ++ post) 0 p post h (at_self _ _)
  rwa [Nat.zero_add] at this
theorem rd_wr {p : Int × List (List Int) × List (Int × Int × Int × List (Int × Int))} (h : okP p) : wholeR (encP p) = .inr p := by
  have := prg_enc h []
  rw [List.append_nil] at this
  exact whole_ok this
theorem wr_rd {bs : List Int} {p : Int × List (List Int) × List (Int × Int × Int × List (Int × Int))} (hB : Byt bs) (h : wholeR bs = .inr p) : okP p ∧ encP p = bs := by
  rcases hp : prgR bs 0 with x | ⟨q, e⟩
  · rw [whole_err hp] at h; cases h
  by_cases he : e = bs.length
  · subst he
    rw [whole_ok hp] at h
    cases h
    obtain ⟨g1, g2, post, g3⟩ := Snd.prg bs 0 p _ hB (Nat.zero_le _) hp
    have h4 := g3.2
    rw [List.drop_zero] at h4
    have hl := congrArg List.length h4
    rw [List.length_append] at hl
    have : post = [] := List.eq_nil_of_length_eq_zero (by omega)
    rw [this, List.append_nil] at h4
    exact ⟨g1, h4.symm⟩
  · rw [whole_left hp he] at h; cases h
theorem enc_inj {p q : Int × List (List Int) × List (Int × Int × Int × List (Int × Int))} (h : okP p) (g : okP q) (e : encP p = encP q) : p = q := by
  have a := rd_wr h
  rw [e, rd_wr g] at a
  cases a; rfl
theorem whole_cut {p : Int × List (List Int) × List (Int × Int × Int × List (Int × Int))} (h : okP p) {n : Nat} (hn : n < (encP p).length) : wholeR ((encP p).take n) = .inl (61, n) := by
  have hp := prg_enc h []
  rw [List.append_nil] at hp
  exact whole_err (((Good.prg (encP p) 0 (Nat.zero_le _)).1 _ _ hp).2.2.2 n (Nat.zero_le _) hn)
theorem whole_more {p : Int × List (List Int) × List (Int × Int × Int × List (Int × Int))} (h : okP p) {m : List Int} (hm : m ≠ []) : wholeR (encP p ++ m) = .inl (60, (encP p).length) := by
  refine whole_left (prg_enc h m) ?_
  rw [List.length_append]
  have := List.length_pos_iff.2 hm
  omega
theorem whole_ends {bs : List Int} {x : Int} {q : Nat} (h : wholeR bs = .inl (x, q)) : (x = 61 ∧ q = bs.length) ∨ (x = 60 ∧ q < bs.length ∧ (wholeR (bs.take q) = .inl (61, q) ∨ ∃ p, wholeR (bs.take q) = .inr p)) := by
  have hG := Good.prg bs 0 (Nat.zero_le _)
  rcases hp : prgR bs 0 with ⟨y, q'⟩ | ⟨p, e⟩
  · rw [whole_err hp] at h
    cases h
    rcases hG.2 x q hp with c | ⟨c1, c2, c3, c4, c5⟩
    · exact .inl c
    · exact .inr ⟨c1, c3, .inl (whole_err c4)⟩
  · by_cases he : e = bs.length
    · subst he; rw [whole_ok hp] at h; cases h
    · rw [whole_left hp he] at h
      cases h
      obtain ⟨a1, a2, a3, a4⟩ := hG.1 p q hp
      refine .inr ⟨rfl, by omega, .inr ⟨p, ?_⟩⟩
      have hl : (bs.take q).length = q := by rw [List.length_take]; omega
      have := a3 (bs.take q) (by omega) (by rw [List.take_take, Nat.min_self])
      exact whole_ok (by rw [hl]; exact this)
theorem whole_turned {p : Int × List (List Int) × List (Int × Int × Int × List (Int × Int))} (h : okP p) {k : Nat} (hk : k < (encP p).length) (t : Int) {x : Int} {q : Nat} (he : wholeR ((encP p).set k t) = .inl (x, q)) : k ≤ q + 8 := by
  rcases Nat.lt_or_ge (q + 8) k with hlt | hge
  · exfalso
    have hset : ∀ j, j ≤ k → ((encP p).set k t).take j = (encP p).take j := fun j hj => by
      rw [List.take_set_of_le hj]
    have hG := Good.prg ((encP p).set k t) 0 (Nat.zero_le _)
    have hc := prg_enc h []
    rw [List.append_nil] at hc
    rcases hp : prgR ((encP p).set k t) 0 with ⟨y, q'⟩ | ⟨p', e⟩
    · rw [whole_err hp] at he
      cases he
      rcases hG.2 x q hp with c | ⟨c1, c2, c3, c4, c5⟩
      · rw [List.length_set] at c; omega
      · have := c5 (encP p) (by rw [List.length_set]) ((hset _ (by omega)).symm)
        rw [hc] at this; cases this
    · by_cases h2 : e = ((encP p).set k t).length
      · subst h2; rw [whole_ok hp] at he; cases he
      · rw [whole_left hp h2] at he
        cases he
        obtain ⟨a1, a2, a3, a4⟩ := hG.1 p' q hp
        have := a3 (encP p) (by omega) ((hset _ (by omega)).symm)
        rw [hc] at this
        cases this
        omega
  · exact hge
end Go.Proofs.YtghlbdmldahnlaaGreatDoor
