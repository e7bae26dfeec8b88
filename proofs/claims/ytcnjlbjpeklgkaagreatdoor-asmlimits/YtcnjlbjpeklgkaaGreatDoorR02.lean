import Derived.Test.YtcnjlbjpeklgkaaGreatDoorR01
import Derived.WalkKit
import Derived.Carry
import Derived.OwnWalk
import Derived.Deep.RegionHeld3
import Derived.Deep.OwnRows
import Derived.Test.YtcnjlbjpeklgkaaGreatDoorRows
import Derived.Test.YtcnjlbjpeklgkaaGreatDoorChecked
import Derived.Lib.TrailingZeros
namespace Go.Proofs.YtcnjlbjpeklgkaaGreatDoor
set_option linter.unusedVariables false
set_option linter.unusedSimpArgs false

theorem Comp.txt : Comp txtR okT encT := by
  intro bs a t post hok hat
  unfold encT at hat ⊢
  rw [List.append_assoc] at hat
  unfold txtR
  rw [bnd_ok (Comp.num (lo := 0) (hi := 4096) (by decide) bs a t.length _ ⟨Nat.zero_le _, hok⟩ hat), Comp.take hat.next rfl, List.length_append, Nat.add_assoc]
theorem Snd.txt : Snd txtR okT encT := by
  intro bs a t e hB ha h
  rcases bnd_inv h with ⟨x, _, hx⟩ | ⟨n, e1, h1, h2⟩
  · cases hx
  obtain ⟨g1, g2, post, g3⟩ := Snd.num bs a n e1 hB ha h1
  subst g2
  obtain ⟨k1, k2, post2, k3⟩ := Snd.take g3.next.1 h2
  subst k1
  refine ⟨g1.2, ?_, post2, ?_⟩
  · unfold encT; rw [List.length_append]; omega
  · unfold encT; rw [List.append_assoc]; exact g3.join k3
theorem Comp.fun_ : Comp funR okF encF := by
  intro bs a f post hok hat
  obtain ⟨x, y, z, l⟩ := f
  obtain ⟨⟨x1, x2⟩, ⟨y1, y2⟩, ⟨z1, z2⟩, l1, l2⟩ := hok
  dsimp only at x1 x2 y1 y2 z1 z2 l1 l2
  unfold encF at hat ⊢
  dsimp only at hat ⊢
  simp only [List.append_assoc] at hat
  simp only [List.length_append]
  have a2 := hat.next
  have a3 := a2.next
  have a4 := a3.next
  have a5 := a4.next
  unfold funR
  rw [bnd_ok (Comp.num (lo := 0) (hi := 8) (by decide) bs a x.toNat _ (by omega) hat), bnd_ok (Comp.num (lo := 0) (hi := 64) (by decide) bs _ y.toNat _ (by omega) a2), bnd_ok (Comp.num (lo := 0) (hi := 64) (by decide) bs _ z.toNat _ (by omega) a3),
    bnd_ok (Comp.num (lo := 0) (hi := 4096) (by decide) bs _ l.length _ (by omega) a4), bnd_ok (Comp.rep Comp.ins l bs _ post l2 a5)]
  show Sum.inr (((x.toNat : Int), (y.toNat : Int), (z.toNat : Int), l), _) = _
  rw [Int.toNat_of_nonneg x1, Int.toNat_of_nonneg y1, Int.toNat_of_nonneg z1]
  simp only [Nat.add_assoc]
theorem Snd.fun_ : Snd funR okF encF := by
  intro bs a f e hB ha h
  rcases bnd_inv h with ⟨x, _, hx⟩ | ⟨x, e1, h1, h⟩
  · cases hx
  rcases bnd_inv h with ⟨x, _, hx⟩ | ⟨y, e2, h2, h⟩
  · cases hx
  rcases bnd_inv h with ⟨x, _, hx⟩ | ⟨z, e3, h3, h⟩
  · cases hx
  rcases bnd_inv h with ⟨x, _, hx⟩ | ⟨n, e4, h4, h⟩
  · cases hx
  rcases bnd_inv h with ⟨x, _, hx⟩ | ⟨l, e5, h5, h⟩
  · cases hx
  cases h
  obtain ⟨p1, q1, r1, s1⟩ := Snd.num bs a x e1 hB ha h1
  subst q1
  obtain ⟨p2, q2, r2, s2⟩ := Snd.num bs _ y e2 hB s1.next.1 h2
  subst q2
  obtain ⟨p3, q3, r3, s3⟩ := Snd.num bs _ z e3 hB s2.next.1 h3
  subst q3
  obtain ⟨p4, q4, r4, s4⟩ := Snd.num bs _ n e4 hB s3.next.1 h4
  subst q4
  obtain ⟨p5, p6, q5, r5, s5⟩ := Snd.rep Snd.ins n bs _ l e hB s4.next.1 h5
  subst p5
  refine ⟨⟨by dsimp only; omega, by dsimp only; omega, by dsimp only; omega, p4.2, p6⟩, ?_, r5, ?_⟩
  · unfold encF; dsimp only; simp only [List.length_append, Int.toNat_natCast]; omega
  · unfold encF; dsimp only; simp only [List.append_assoc, Int.toNat_natCast]
    exact s1.join (s2.join (s3.join (s4.join s5)))
theorem Comp.mag : ∀ (l bs : List Int) (a : Nat) (post : List Int), At bs a (l ++ post) → magR l bs a = .inr ((), a + l.length)
  | [], bs, a, post, h => rfl
  | c :: l, bs, a, post, h => by
    have h' : At bs a ([c] ++ (l ++ post)) := h
    have h0 : takeR 1 bs a = .inr ([c], a + 1) := Comp.take h' rfl
    have h1 : chkR (takeR 1) (· = [c]) bs a = .inr ([c], a + 1) := chk_ok h0 rfl
    show bndR _ _ bs a = _
    rw [bnd_ok h1, Comp.mag l bs (a + 1) post h'.next, List.length_cons]
    congr 2; omega
theorem Snd.mag : ∀ (l bs : List Int) (a e : Nat) (u : Unit), a ≤ bs.length → magR l bs a = .inr (u, e) → e = a + l.length ∧ ∃ post, At bs a (l ++ post)
  | [], bs, a, e, u, ha, h => by cases h; exact ⟨rfl, _, ha, rfl⟩
  | c :: l, bs, a, e, u, ha, h => by
    rcases bnd_inv h with ⟨x, _, hx⟩ | ⟨x, e1, h1, h⟩
    · cases hx
    rcases chk_inv h1 with ⟨y, _, hx⟩ | ⟨l', e0', h5, hok, hx⟩ | ⟨l', e0', _, _, hx⟩
    · cases hx
    · cases hx
      subst hok
      obtain ⟨k1, k2, post, k3⟩ := Snd.take ha h5
      subst k2
      obtain ⟨g1, post2, g2⟩ := Snd.mag l bs _ e u k3.next.1 h
      refine ⟨by rw [g1]; simp only [List.length_cons, List.length_nil]; omega, post2, ?_⟩
      exact k3.join g2
    · cases hx
theorem Comp.prg : Comp prgR okP encP := by
  intro bs a p post hok hat
  obtain ⟨g, ts, fs⟩ := p
  obtain ⟨⟨x1, x2⟩, t1, t2, ⟨f1, f2⟩, f3⟩ := hok
  dsimp only at x1 x2 t1 t2 f1 f2 f3
  unfold encP at hat ⊢
  dsimp only at hat ⊢
  simp only [List.append_assoc] at hat
  simp only [List.length_append]
  have a2 := hat.next
  have a3 := a2.next
  have a4 := a3.next
  have a5 := a4.next
  have a6 := a5.next
  unfold prgR
  rw [bnd_ok (Comp.mag [104, 116, 104, 1] bs a _ hat), bnd_ok (Comp.num (lo := 0) (hi := 64) (by decide) bs _ g.toNat _ (by omega) a2), bnd_ok (Comp.num (lo := 0) (hi := 64) (by decide) bs _ ts.length _ (by omega) a3),
    bnd_ok (Comp.rep Comp.txt ts bs _ _ t2 a4), bnd_ok (Comp.num (lo := 1) (hi := 64) (by decide) bs _ fs.length _ (by omega) a5), bnd_ok (Comp.rep Comp.fun_ fs bs _ post f3 a6)]
  show Sum.inr (((g.toNat : Int), ts, fs), _) = _
  rw [Int.toNat_of_nonneg x1]
  simp only [Nat.add_assoc]
theorem Snd.prg : Snd prgR okP encP := by
  intro bs a p e hB ha h
  rcases bnd_inv h with ⟨x, _, hx⟩ | ⟨u, e0, h0, h⟩
  · cases hx
  rcases bnd_inv h with ⟨x, _, hx⟩ | ⟨g, e1, h1, h⟩
  · cases hx
  rcases bnd_inv h with ⟨x, _, hx⟩ | ⟨n, e2, h2, h⟩
  · cases hx
  rcases bnd_inv h with ⟨x, _, hx⟩ | ⟨ts, e3, h3, h⟩
  · cases hx
  rcases bnd_inv h with ⟨x, _, hx⟩ | ⟨m, e4, h4, h⟩
  · cases hx
  rcases bnd_inv h with ⟨x, _, hx⟩ | ⟨fs, e5, h5, h⟩
  · cases hx
  cases h
  obtain ⟨q0, r0, s0⟩ := Snd.mag _ bs a e0 u ha h0
  subst q0
  obtain ⟨p1, q1, r1, s1⟩ := Snd.num bs _ g e1 hB s0.next.1 h1
  subst q1
  obtain ⟨p2, q2, r2, s2⟩ := Snd.num bs _ n e2 hB s1.next.1 h2
  subst q2
  obtain ⟨p3, p3', q3, r3, s3⟩ := Snd.rep Snd.txt n bs _ ts e3 hB s2.next.1 h3
  subst p3
  subst q3
  obtain ⟨p4, q4, r4, s4⟩ := Snd.num bs _ m e4 hB s3.next.1 h4
  subst q4
  obtain ⟨p5, p6, q5, r5, s5⟩ := Snd.rep Snd.fun_ m bs _ fs e hB s4.next.1 h5
  subst p5
  refine ⟨⟨by dsimp only; omega, p2.2, p3', p4, p6⟩, ?_, r5, ?_⟩
  · unfold encP; dsimp only; simp only [List.length_append, Int.toNat_natCast]; omega
  · unfold encP; dsimp only; simp only [List.append_assoc, Int.toNat_natCast]
    exact s0.join (s1.join (s2.join (s3.join (s4.join s5))))
/-- a whole row: nothing is left behind the program -/
noncomputable def wholeR (bs : List Int) : Sum (Int × Nat) (Int × List (List Int) × List (Int × Int × Int × List (Int × Int))) := match prgR bs 0 with
  | .inl e => .inl e
  | .inr p => if p.2 = bs.length then .inr p.1 else .inl (60, p.2)
theorem whole_err {bs : List Int} {x : Int × Nat} (h : prgR bs 0 = .inl x) : wholeR bs = .inl x := by unfold wholeR; rw [h]
theorem whole_ok {bs : List Int} {p : Int × List (List Int) × List (Int × Int × Int × List (Int × Int))} (h : prgR bs 0 = .inr (p, bs.length)) : wholeR bs = .inr p := by unfold wholeR; rw [h]; exact if_pos rfl
theorem whole_left {bs : List Int} {p : Int × List (List Int) × List (Int × Int × Int × List (Int × Int))} {e : Nat} (h : prgR bs 0 = .inr (p, e)) (he : e ≠ bs.length) : wholeR bs = .inl (60, e) := by unfold wholeR; rw [h]; exact if_neg he
theorem at_self (l post : List Int) : At (l ++ post) 0 (l ++ post) := ⟨Nat.zero_le _, rfl⟩
theorem prg_enc {p : Int × List (List Int) × List (Int × Int × Int × List (Int × Int))} (h : okP p) (post : List Int) : prgR (encP p ++ post) 0 = .inr (p, (encP p).length) := by
  have := Comp.prg (encP p ++ post) 0 p post h (at_self _ _)
  rwa [Nat.zero_add] at this
theorem rd_wr {p : Int × List (List Int) × List (Int × Int × Int × List (Int × Int))} (h : okP p) : wholeR (encP p) = .inr p := by
  have := prg_enc h []
  rw [List.append_nil] at this
  exact whole_ok this
theorem wr_rd {bs : List Int} {p : Int × List (List Int) × List (Int × Int × Int × List (Int × Int))} (hB : Byt bs) (h : wholeR bs = .inr p) : okP p ∧ encP p = bs := by
  rcases hp : prgR bs 0 with x | ⟨q, e⟩
  · rw [whole_err hp] at h; cases h
  by_cases he : e = bs.length
  · subst he
    rw [whole_ok hp] at h
    cases h
    obtain ⟨g1, g2, post, g3⟩ := Snd.prg bs 0 p _ hB (Nat.zero_le _) hp
    have h4 := g3.2
    rw [List.drop_zero] at h4
    have hl := congrArg List.length h4
    rw [List.length_append] at hl
    have : post = [] := List.eq_nil_of_length_eq_zero (by omega)
    rw [this, List.append_nil] at h4
    exact ⟨g1, h4.symm⟩
  · rw [whole_left hp he] at h; cases h
theorem enc_inj {p q : Int × List (List Int) × List (Int × Int × Int × List (Int × Int))} (h : okP p) (g : okP q) (e : encP p = encP q) : p = q := by
  have a := rd_wr h
  rw [e, rd_wr g] at a
  cases a; rfl
theorem whole_cut {p : Int × List (List Int) × List (Int × Int × Int × List (Int × Int))} (h : okP p) {n : Nat} (hn : n < (encP p).length) : wholeR ((encP p).take n) = .inl (61, n) := by
  have hp := prg_enc h []
  rw [List.append_nil] at hp
  exact whole_err (((Good.prg (encP p) 0 (Nat.zero_le _)).1 _ _ hp).2.2.2 n (Nat.zero_le _) hn)
theorem whole_more {p : Int × List (List Int) × List (Int × Int × Int × List (Int × Int))} (h : okP p) {m : List Int} (hm : m ≠ []) : wholeR (encP p ++ m) = .inl (60, (encP p).length) := by
  refine whole_left (prg_enc h m) ?_
  rw [List.length_append]
  have := List.length_pos_iff.2 hm
  omega
theorem whole_ends {bs : List Int} {x : Int} {q : Nat} (h : wholeR bs = .inl (x, q)) : (x = 61 ∧ q = bs.length) ∨ (x = 60 ∧ q < bs.length ∧ (wholeR (bs.take q) = .inl (61, q) ∨ ∃ p, wholeR (bs.take q) = .inr p)) := by
  have hG := Good.prg bs 0 (Nat.zero_le _)
  rcases hp : prgR bs 0 with ⟨y, q'⟩ | ⟨p, e⟩
  · rw [whole_err hp] at h
    cases h
    rcases hG.2 x q hp with c | ⟨c1, c2, c3, c4, c5⟩
    · exact .inl c
    · exact .inr ⟨c1, c3, .inl (whole_err c4)⟩
  · by_cases he : e = bs.length
    · subst he; rw [whole_ok hp] at h; cases h
    · rw [whole_left hp he] at h
      cases h
      obtain ⟨a1, a2, a3, a4⟩ := hG.1 p q hp
      refine .inr ⟨rfl, by omega, .inr ⟨p, ?_⟩⟩
      have hl : (bs.take q).length = q := by rw [List.length_take]; omega
      have := a3 (bs.take q) (by omega) (by rw [List.take_take, Nat.min_self])
      exact whole_ok (by rw [hl]; exact this)
theorem whole_turned {p : Int × List (List Int) × List (Int × Int × Int × List (Int × Int))} (h : okP p) {k : Nat} (hk : k < (encP p).length) (t : Int) {x : Int} {q : Nat} (he : wholeR ((encP p).set k t) = .inl (x, q)) : k ≤ q + 8 := by
  rcases Nat.lt_or_ge (q + 8) k with hlt | hge
  · exfalso
    have hset : ∀ j, j ≤ k → ((encP p).set k t).take j = (encP p).take j := fun j hj => by
      rw [List.take_set_of_le hj]
    have hG := Good.prg ((encP p).set k t) 0 (Nat.zero_le _)
    have hc := prg_enc h []
    rw [List.append_nil] at hc
    rcases hp : prgR ((encP p).set k t) 0 with ⟨y, q'⟩ | ⟨p', e⟩
    · rw [whole_err hp] at he
      cases he
      rcases hG.2 x q hp with c | ⟨c1, c2, c3, c4, c5⟩
      · rw [List.length_set] at c; omega
      · have := c5 (encP p) (by rw [List.length_set]) ((hset _ (by omega)).symm)
        rw [hc] at this; cases this
    · by_cases h2 : e = ((encP p).set k t).length
      · subst h2; rw [whole_ok hp] at he; cases he
      · rw [whole_left hp h2] at he
        cases he
        obtain ⟨a1, a2, a3, a4⟩ := hG.1 p' q hp
        have := a3 (encP p) (by omega) ((hset _ (by omega)).symm)
        rw [hc] at this
        cases this
        omega
  · exact hge
end Go.Proofs.YtcnjlbjpeklgkaaGreatDoor
namespace Go.Proofs.YtcnjlbjpeklgkaaGreatDoor
open Go.RowKit
set_option linter.unusedVariables false
set_option linter.unusedSimpArgs false

theorem xa {α : Type} {l : List α} {i : Nat} (h : i < l.toArray.size) : l.toArray[i] = l[i]'(by simpa using h) := by simp
theorem xb {α : Type} (a : α) (ys : List α) (h : 0 < (a :: ys).length) : (a :: ys)[0] = a := rfl
theorem xc {α : Type} (a : α) (ys : List α) (i : Nat) (h : i + 1 < (a :: ys).length) : (a :: ys)[i + 1] = ys[i]'(Nat.lt_of_succ_lt_succ h) := rfl
theorem xd {α : Type} {l : List α} {i : Nat} {a : α} : l.toArray.setIfInBounds i a = (l.set i a).toArray := by simp
theorem xe {α : Type} {x : α} {xs : List α} {a : α} : (x :: xs).set 0 a = a :: xs := rfl
theorem xf {α : Type} {x : α} {xs : List α} {n : Nat} {a : α} : (x :: xs).set (n + 1) a = x :: xs.set n a := rfl
/-- one operation is taken first -/
theorem tk (i : Nat) {P : Program} {md : Region.Mode} {ops : Array Oper} {Q : Exit → Act → World → Prop} {S : World → Prop} {oi : Oper} {v : Value} {fuel : Nat} {listed l' : Array Bool} {a a' : Act} {w : World}
    (h : wpAnyH P md ops Q S fuel l' a' w) (hi : ops[i]? = some oi := by exact rfl) (hs : Region.noSelect ops = true := by kernel_rfl) (hf : Region.free md ops listed i = true := by kernel_rfl) (hr : (Region.ready md ops listed).contains i = true := by kernel_rfl)
    (hw : Region.wanted oi (yielded ops a.tmps) = true := by rfl)
    (hy : ∀ w, S w → (execOp a.eval oi).run P w = .ok (.value v) w := by intro w hSw; (try dsimp only at hSw); simp only [List.getElem_toArray, List.getElem_cons_zero, List.getElem_cons_succ]; go_simp; (try with_reducible rfl))
    (hS : S w := by assumption)
    (hl : listed.setIfInBounds i true = l' := by (try simp only [List.setIfInBounds_toArray, List.set_cons_zero, List.set_cons_succ]); exact rfl)
    (ha : a.put oi.dst v = a' := by (try simp only [Act.put, List.getElem_toArray, List.getElem_cons_zero, List.getElem_cons_succ, List.setIfInBounds_toArray, List.set_cons_zero, List.set_cons_succ]); exact rfl)
    (hQ : ∀ c a w, Q (.panic c) (a.put oi.dst v) w → Q (.panic c) a w := by exact fun _ _ _ h => h) : wpAnyH P md ops Q S (fuel + 1) listed a w := by
  subst hl ha
  exact wpAnyH_take hi hs hf hr hQ (Or.inl ⟨hw, hy⟩) hS h
/-- one that is not wanted is passed by -/
theorem sk (i : Nat) {P : Program} {md : Region.Mode} {ops : Array Oper} {Q : Exit → Act → World → Prop} {S : World → Prop} {oi : Oper} {fuel : Nat} {listed l' : Array Bool} {a a' : Act} {w : World}
    (h : wpAnyH P md ops Q S fuel l' a' w) (hi : ops[i]? = some oi := by exact rfl) (hs : Region.noSelect ops = true := by kernel_rfl) (hf : Region.free md ops listed i = true := by kernel_rfl) (hr : (Region.ready md ops listed).contains i = true := by kernel_rfl)
    (hw : Region.wanted oi (yielded ops a.tmps) = false := by rfl) (hS : S w := by assumption)
    (hl : listed.setIfInBounds i true = l' := by (try simp only [List.setIfInBounds_toArray, List.set_cons_zero, List.set_cons_succ]); exact rfl)
    (ha : a.put oi.dst undef = a' := by (try simp only [Act.put, List.getElem_toArray, List.getElem_cons_zero, List.getElem_cons_succ, List.setIfInBounds_toArray, List.set_cons_zero, List.set_cons_succ]); exact rfl)
    (hQ : ∀ c a w, Q (.panic c) (a.put oi.dst undef) w → Q (.panic c) a w := by exact fun _ _ _ h => h) : wpAnyH P md ops Q S (fuel + 1) listed a w := by
  subst hl ha
  exact wpAnyH_take hi hs hf hr hQ (Or.inr ⟨hw, rfl⟩) hS h
end Go.Proofs.YtcnjlbjpeklgkaaGreatDoor
namespace Go.Proofs.YtcnjlbjpeklgkaaGreatDoor
open Go.RowKit
set_option linter.unusedVariables false
set_option linter.unusedSimpArgs false

theorem hid_mk {p : Prop} (h : p) : Hid p := h
theorem ret_int {k : IntKind} {a b : Int} (h : a = b) : Ending.returned (.int k a) = .returned (.int k b) := by rw [h]
theorem ret_bool {a b : Bool} (h : a = b) : Ending.returned (.bool a) = .returned (.bool b) := by rw [h]
theorem ret_ib {k : IntKind} {a b : Int} {p q : Bool} (h : a = b) (g : p = q) : Ending.returned (.tuple #[.int k a, .bool p]) = .returned (.tuple #[.int k b, .bool q]) := by rw [h, g]
theorem calls_same {f : FuncId} {args : Array Value} {v : Value} {w : World} {Q : Ending → World → Prop} (h : Calls Tryz.prog f args w (fun e w' => e = .returned v ∧ w' = w)) (hq : Q (.returned v) w) : Calls Tryz.prog f args w Q :=
  h.mono fun _ _ ⟨he, hw⟩ => by rw [he, hw]; exact hq
theorem i64_bounds {n : Int} (h : (Lit.int .i64 n).wf = true) : -9223372036854775808 ≤ n ∧ n ≤ 9223372036854775807 := by
  simpa [Lit.wf, IntKind.min, IntKind.max, IntKind.signed, IntKind.bits] using h

/-- all blocks that were there are as they were, those from lo on below hi aside -/
def Out (lo hi : Nat) (w w' : World) : Prop :=
  w'.os = w.os ∧ w'.tape = w.tape ∧ w'.output = w.output ∧ w.heap.size ≤ w'.heap.size ∧ ∀ k, k < w.heap.size → (k < lo ∨ hi ≤ k) → w'.heap[k]? = w.heap[k]?
theorem Out.refl (lo hi : Nat) (w : World) : Out lo hi w w := ⟨rfl, rfl, rfl, Nat.le_refl _, fun _ _ _ => rfl⟩
theorem Out.size {lo hi : Nat} {w w' : World} (h : Out lo hi w w') : w.heap.size ≤ w'.heap.size := h.2.2.2.1
theorem Out.block {lo hi : Nat} {w w' : World} (h : Out lo hi w w') {k : Nat} (h1 : k < w.heap.size) (h2 : k < lo ∨ hi ≤ k) : w'.heap[k]? = w.heap[k]? := h.2.2.2.2 k h1 h2
theorem Out.trans {lo hi : Nat} {a b c : World} (h : Out lo hi a b) (g : Out lo hi b c) : Out lo hi a c :=
  ⟨g.1.trans h.1, g.2.1.trans h.2.1, g.2.2.1.trans h.2.2.1, Nat.le_trans h.size g.size, fun k h1 h2 => (g.block (Nat.lt_of_lt_of_le h1 h.size) h2).trans (h.block h1 h2)⟩
theorem Out.wide {lo hi lo' hi' : Nat} {w w' : World} (h : Out lo hi w w') (h1 : lo' ≤ lo) (h2 : hi ≤ hi') : Out lo' hi' w w' :=
  ⟨h.1, h.2.1, h.2.2.1, h.size, fun k a b => h.block a (by omega)⟩
/-- what lies beyond the first world's end counts for nothing -/
theorem Out.cut {lo hi : Nat} {w w' : World} (h : Out lo hi w w') (hl : w.heap.size ≤ lo) (a b : Nat) : Out a b w w' :=
  ⟨h.1, h.2.1, h.2.2.1, h.size, fun k h1 _ => h.block h1 (by omega)⟩
theorem Out.past {x y lo hi : Nat} {a b c : World} (h : Out x y a b) (g : Out lo hi b c) (hl : a.heap.size ≤ lo) : Out x y a c :=
  ⟨g.1.trans h.1, g.2.1.trans h.2.1, g.2.2.1.trans h.2.2.1, Nat.le_trans h.size g.size, fun k h1 h2 => (g.block (Nat.lt_of_lt_of_le h1 h.size) (.inl (by omega))).trans (h.block h1 h2)⟩
theorem Out.any {w w' : World} (h : Out 0 0 w w') (lo hi : Nat) : Out lo hi w w' :=
  ⟨h.1, h.2.1, h.2.2.1, h.size, fun k h1 _ => h.block h1 (by omega)⟩
theorem Out.of_below {w w' : World} (h : Below w.heap.size w w') (lo hi : Nat) : Out lo hi w w' := ⟨h.os, h.tape, h.output, h.size, fun k h1 _ => h.block k h1⟩
theorem Out.below {lo hi B : Nat} {w w' : World} (h : Out lo hi w w') (h1 : B ≤ lo) (h2 : B ≤ w.heap.size) : Below B w w' := ⟨h.1, h.2.1, h.2.2.1, h.size, fun k hk => h.block (by omega) (by omega)⟩
theorem Out.all {w w' : World} (h : Out 0 0 w w') : Below w.heap.size w w' := ⟨h.1, h.2.1, h.2.2.1, h.size, fun k hk => h.block hk (by omega)⟩
theorem Out.drew {lo hi : Nat} {a w : World} (h : Out lo hi a w) : Out lo hi a w.drew := ⟨h.1, h.2.1, h.2.2.1, h.size, h.2.2.2.2⟩
theorem Out.alloc {lo hi : Nat} {a w : World} (h : Out lo hi a w) (o : Obj) : Out lo hi a (w.alloc o) :=
  h.trans ⟨rfl, rfl, rfl, by simp, fun k h1 _ => Below.heap_alloc _ _ _ h1⟩
theorem Out.setCell {lo hi : Nat} {a w : World} (h : Out lo hi a w) {p : Addr} (hp : (lo ≤ p.block ∧ p.block < hi) ∨ a.heap.size ≤ p.block) (u : Value) : Out lo hi a (w.setCell p u) := by
  refine ⟨h.1, h.2.1, h.2.2.1, by have := h.size; simpa [World.setCell] using this, fun k h1 h2 => ?_⟩
  rw [Below.heap_setCell _ _ _ _ (by omega)]
  exact h.block h1 h2
theorem Out.cell {lo hi : Nat} {w w' : World} (h : Out lo hi w w') {b o : Nat} {v : Value} (hc : w.cell? ⟨b, o, none⟩ = some v) (h2 : b < lo ∨ hi ≤ b) : w'.cell? ⟨b, o, none⟩ = some v := by
  have hb : b < w.heap.size := by
    by_cases hb : b < w.heap.size
    · exact hb
    · have : w.heap[b]? = none := by simp; omega
      simp [World.cell?, this] at hc
  rw [World.cell?_of_block (w := w) (a := ⟨b, o, none⟩) (h.block hb h2)]
  exact hc
theorem heap_lt {w : World} {b : Nat} {o : Obj} (h : w.heap[b]? = some o) : b < w.heap.size := (Array.getElem?_eq_some_iff.1 h).1
theorem Out.heap {lo hi : Nat} {w w' : World} (h : Out lo hi w w') {b : Nat} {o : Obj} (hc : w.heap[b]? = some o) (h2 : b < lo ∨ hi ≤ b) : w'.heap[b]? = some o :=
  (h.block (heap_lt hc) h2).trans hc

/-- block b begins with k cells of type T, cell i holding 'f i', none frozen -/
def Row (w : World) (b : Nat) (T : TypeId) (k : Nat) (f : Nat → Value) : Prop :=
  ∃ c : Array Value, w.heap[b]? = some (.cells c T (0, 0)) ∧ k ≤ c.size ∧ ∀ i, i < k → c[i]? = some (f i)
theorem Row.cell {w : World} {b k : Nat} {T : TypeId} {f : Nat → Value} (h : Row w b T k f) {i : Nat} (hi : i < k) : w.cell? ⟨b, i, none⟩ = some (f i) := by
  obtain ⟨c, hb, _, hc⟩ := h
  simp [World.cell?, hb, hc i hi]
theorem Row.frozen {w : World} {b k : Nat} {T : TypeId} {f : Nat → Value} (h : Row w b T k f) (i : Nat) : w.frozen? ⟨b, i, none⟩ = false := by
  obtain ⟨c, hb, _, _⟩ := h
  simp [World.frozen?, hb]
theorem Row.lt {w : World} {b k : Nat} {T : TypeId} {f : Nat → Value} (h : Row w b T k f) : b < w.heap.size := by
  obtain ⟨c, hb, _, _⟩ := h
  exact heap_lt hb
theorem Row.of_block {w w' : World} {b k : Nat} {T : TypeId} {f : Nat → Value} (h : Row w b T k f) (e : w'.heap[b]? = w.heap[b]?) : Row w' b T k f := by
  obtain ⟨c, hb, hn, hc⟩ := h
  exact ⟨c, e.trans hb, hn, hc⟩
theorem Row.kept {w w' : World} {b k lo hi : Nat} {T : TypeId} {f : Nat → Value} (h : Row w b T k f) (g : Out lo hi w w') (h2 : b < lo ∨ hi ≤ b) : Row w' b T k f := h.of_block (g.block h.lt h2)
theorem Row.congr {w : World} {b k : Nat} {T : TypeId} {f g : Nat → Value} (h : Row w b T k f) (e : ∀ i, i < k → f i = g i) : Row w b T k g := by
  obtain ⟨c, hb, hn, hc⟩ := h
  exact ⟨c, hb, hn, fun i hi => by rw [hc i hi, e i hi]⟩
theorem Row.set {w : World} {b k : Nat} {T : TypeId} {f : Nat → Value} (h : Row w b T k f) (i : Nat) (v : Value) : Row (w.setCell ⟨b, i, none⟩ v) b T k (fun j => if j = i then v else f j) := by
  obtain ⟨c, hb, hn, hc⟩ := h
  refine ⟨c.setIfInBounds i v, ?_, by simpa using hn, fun j hj => ?_⟩
  · simp [World.setCell, Array.getElem?_modify, hb]
  · rw [Array.getElem?_setIfInBounds]
    by_cases e : j = i
    · subst e
      have : j < c.size := by omega
      simp [this]
    · rw [if_neg (fun h => e h.symm)]
      show c[j]? = some (if j = i then v else f j)
      rw [if_neg e]
      exact hc j hj

theorem below_seq {a b c : World} (h : Below a.heap.size a b) (g : Below b.heap.size b c) : Below a.heap.size a c := h.trans (g.mono h.size)
theorem calls_rel {P : Program} {f : FuncId} {args : Array Value} {w w0 : World} {post : Ending → Prop} (h : Calls P f args w (fun e w' => post e ∧ Below w.heap.size w w')) (h0 : Below w0.heap.size w0 w) :
    Calls P f args w (fun e w' => post e ∧ Below w0.heap.size w0 w') := h.mono fun _ _ ⟨he, hb⟩ => ⟨he, below_seq h0 hb⟩
/-- the words of an object of a kind that has no parts, and the most parts -/
theorem cell_lt {w : World} {b o : Nat} {v : Value} (hc : w.cell? ⟨b, o, none⟩ = some v) : b < w.heap.size := by
  by_cases hb : b < w.heap.size
  · exact hb
  · have : w.heap[b]? = none := by simp; omega
    simp [World.cell?, this] at hc
end Go.Proofs.YtcnjlbjpeklgkaaGreatDoor
