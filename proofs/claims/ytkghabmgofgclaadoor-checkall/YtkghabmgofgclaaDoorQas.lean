import Derived.Test.YtkghabmgofgclaaDoorQaq
import Derived.Deep.Cut
import Derived.Test.YtkghabmgofgclaaDoorQar
namespace Go.Proofs.YtkghabmgofgclaaDoor
open Go.RowKit
set_option linter.unusedVariables false
set_option linter.unusedSimpArgs false

theorem ints_same {w : World} (a : List Int) (pa pb : Option Addr) (n ca cb : Nat) (ha : a.length = n) (h1 : IvIn w pa a) (h2 : IvIn w pb a) (hn : n ≤ 300000) :
    Calls Tryd.prog 31 #[.slice pa n ca, .slice pb n cb] w fun e w' => e = .returned (.bool true) ∧ Out 0 0 w w' :=
  (same_any a a pa pb n n ca cb ha ha h1 h2 hn).mono fun e w' h => ⟨by have := h.1; simpa using this, h.2⟩
theorem iv_ownX {w : World} {lo n c : Nat} {a : Option Addr} {l : List Int} (h : w.ownsRow lo 3 1 (.slice a n c) n (ivs l)) : IvIn w a l := IvIn.of_own h
set_option maxRecDepth 100000 in
set_option maxHeartbeats 4000000 in
theorem sameck_any {w : World} {lo l2 : Nat} {sa da ua va : Option Addr} {n m sc dc uc vc : Nat} {S : List Int} {Ds : List (List Int)} {dgs dhs : List Nat} (h : CkAt w lo (.slice sa n sc) (.slice da m dc) S Ds dgs) (h' : CkAt w l2 (.slice ua n uc) (.slice va m vc) S Ds dhs) (hS : S.length = n) (hD : Ds.length = m) (hn : n ≤ 1000 ∧ m ≤ 1000) (hl : ∀ D ∈ Ds, D.length ≤ 300000) :
    Calls Tryd.prog 34 #[.agg #[.slice sa n sc, .slice da m dc], .agg #[.slice ua n uc, .slice va m vc]] w fun e w' => e = .returned (.bool true) ∧ Out 0 0 w w' := by
  obtain ⟨b, hb⟩ : ∃ b, w.heap.size = b := ⟨_, rfl⟩
  obtain ⟨V, hV⟩ : ∃ V, (w.alloc (.cells #[.slice sa n sc, .slice da m dc] 71)).alloc (.cells #[.slice ua n uc, .slice va m vc] 71) = V := ⟨_, rfl⟩
  have oV : Out 0 0 w V := by rw [← hV]; exact ((Out.refl 0 0 w).alloc _).alloc _
  have b0 : Bl V b #[.slice sa n sc, .slice da m dc] 71 := by rw [← hV, ← hb]; exact (Bl.new _ _ _).alloc _
  have b1 : Bl V (b + 1) #[.slice ua n uc, .slice va m vc] 71 := by
    rw [← hV, ← hb]
    have := Bl.new (w.alloc (.cells #[.slice sa n sc, .slice da m dc] 71)) #[.slice ua n uc, .slice va m vc] 71
    rwa [size_alloc] at this
  have hV1 := h.quiet oV
  have hV2 := h'.quiet oV
  have HSm := hid_mk (ints_same (w := V) S sa ua n sc uc hS (iv_ownX (by have := hV1.1; rwa [hS] at this)) (iv_ownX (by have := hV2.1; rwa [hS] at this)) (by omega))
  have HH : Hid (CkAt V lo (.slice sa n sc) (.slice da m dc) S Ds dgs ∧ CkAt V l2 (.slice ua n uc) (.slice va m vc) S Ds dhs ∧ Ds.length = m ∧ (n ≤ 1000 ∧ m ≤ 1000) ∧ (∀ D ∈ Ds, D.length ≤ 300000) ∧ Bl V b #[.slice sa n sc, .slice da m dc] 71 ∧ Bl V (b + 1) #[.slice ua n uc, .slice va m vc] 71 ∧ Out 0 0 w V) := hid_mk ⟨hV1, hV2, hD, hn, hl, b0, b1, oV⟩
  have c0 := b0.cell (i := 0) rfl
  have c1 := b0.cell (i := 1) rfl
  have c2 := b1.cell (i := 0) rfl
  have c3 := b1.cell (i := 1) rfl
  clear h h' hS hD hn hl oV b0 b1 hV1 hV2
  go_enter Tryd.func34, Tryd.ntmps34
  go_wp2_with fail
  (try rw [hV])
  (try rw [hb])
  clear hV hb
  refine HSm.out.mono ?_
  clear HSm
  rintro e w1 ⟨rfl, o1⟩
  replace c1 := o1.cell c1 (.inr (Nat.zero_le _))
  replace c3 := o1.cell c3 (.inr (Nat.zero_le _))
  have HO := hid_mk o1
  clear c0 c2 o1
  go_wp2
  go_loopw [5] (fun c wr => ∃ i : Nat, c = .int .i64 i ∧ i ≤ m ∧ Out 0 0 V wr) (fun c _ => m - (intOf c).toNat)
  case atStart => exact ⟨0, rfl, Nat.zero_le _, HO.out⟩
  case round =>
    obtain ⟨i, rfl, him, hO⟩ := hrel
    obtain ⟨hV1, hV2, hD, hn, hl, b0, b1, oV⟩ := HH.out
    replace c1 := (b0.kept hO (.inr (Nat.zero_le _))).cell (i := 1) rfl
    replace c3 := (b1.kept hO (.inr (Nat.zero_le _))).cell (i := 1) rfl
    by_cases hgo : i < m
    · obtain ⟨l1, l2x⟩ := lt_dec hgo
      obtain ⟨D, hDi⟩ : ∃ D, Ds[i]? = some D := ⟨_, List.getElem?_eq_getElem (by omega)⟩
      have hk : ∀ {W : World} {lo : Nat} {da : Option Addr} {dc : Nat} {sv : Value} {dgs : List Nat}, CkAt W lo sv (.slice da m dc) S Ds dgs → ∃ gd dg, da = some ⟨gd, 0, none⟩ ∧ W.cell? ⟨gd, i, none⟩ = some (.slice (some ⟨dg, 0, none⟩) D.length D.length) ∧ Bl W dg (ivs D).toArray 3 := by
        intro W lo da dc sv dgs hc
        obtain ⟨dg, hdg⟩ : ∃ dg, dgs[i]? = some dg := ⟨_, List.getElem?_eq_getElem (by have := hc.2.2.1; omega)⟩
        have h2 := hc.2.1
        rw [hD] at h2
        obtain ⟨gd, cap, e, -, -⟩ := h2.form (by omega)
        cases e
        rcases h2.2 with ⟨h0, _⟩ | ⟨g, c, cur, h0, _, h3, h4, h5, h6, h7⟩
        · cases h0
        · cases h0
          have hB : Bl W gd cur 68 := h3
          refine ⟨gd, dg, rfl, ?_, (hc.2.2.2.1 i dg D hdg hDi).2⟩
          have := dvs_at hdg hDi
          rw [← h7, List.getElem?_take_of_lt (by omega)] at this
          exact hB.cell (by simpa using this)
      obtain ⟨gd, dg, rfl, x1, y1⟩ := hk (hV1.quiet hO)
      obtain ⟨ge, dh, rfl, x2, y2⟩ := hk (hV2.quiet hO)
      have hDl := hl D (List.mem_of_getElem? hDi)
      obtain ⟨K, hK⟩ : ∃ K, D.length = K := ⟨_, rfl⟩
      rw [hK] at x1 x2 hDl
      have oD : Out 0 0 wr wr.drew := (Out.refl 0 0 wr).drew
      have HS2 := hid_mk (ints_same (w := wr.drew) D (some ⟨dg, 0, none⟩) (some ⟨dh, 0, none⟩) K K K hK (IvIn.of_bl (y1.kept oD (.inr (Nat.zero_le _)))) (IvIn.of_bl (y2.kept oD (.inr (Nat.zero_le _)))) hDl)
      have lmi : (i : Int) < (m : Int) := by omega
      have HI : Hid (i < m ∧ m ≤ 1000 ∧ Out 0 0 V wr) := hid_mk ⟨hgo, hn.2, hO⟩
      clear hV1 hV2 hD hn hl b0 b1 oV hk y1 y2 hDl hK hDi him hgo hO oD
      go_wp2_with fail
      obtain ⟨V3, hV3⟩ : ∃ V3, wr.drew = V3 := ⟨_, rfl⟩
      rw [hV3] at HS2
      refine wp_region_held_drew (S := fun w' => w'.cell? ⟨b, 1, none⟩ = some (.slice (some ⟨gd, 0, none⟩) m dc) ∧ w'.cell? ⟨b + 1, 1, none⟩ = some (.slice (some ⟨ge, 0, none⟩) m vc) ∧ w'.cell? ⟨gd, i, none⟩ = some (.slice (some ⟨dg, 0, none⟩) K K) ∧ w'.cell? ⟨ge, i, none⟩ = some (.slice (some ⟨dh, 0, none⟩) K K)) (by kernel_rfl) ?hS1 (fun hHeld => ?rest1)
      case hS1 => exact ⟨c1, c3, x1, x2⟩
      refine tk 0 ?_
      refine tk 1 ?_
      refine tk 2 ?_
      refine tk 3 ?_
      refine tk 4 ?_
      refine tk 5 ?_
      refine tk 6 ?_
      refine tk 7 ?_
      refine tk 8 ?_
      refine tk 9 ?_
      refine wpAnyH_ready (rs := [10]) (by kernel_rfl) (by simp) ?_
      refine AllReadyH.cons rfl (fun KK hK => ?_) AllReadyH.nil
      simp only [xa, xb, xc]
      go_simp
      refine HS2.out.mono ?_
      rintro e w4 ⟨rfl, o4⟩
      have o9 : Out 0 0 wr w4 := (by rw [← hV3] at o4; exact ((Out.refl 0 0 wr).drew).trans o4)
      refine hK.out _ _ ?hS12 (fun hHeld2 => ?rest12)
      case hS12 => exact ⟨o9.cell c1 (.inr (Nat.zero_le _)), o9.cell c3 (.inr (Nat.zero_le _)), o9.cell x1 (.inr (Nat.zero_le _)), o9.cell x2 (.inr (Nat.zero_le _))⟩
      clear hK KK
      (try clear hHeld)
      have hHeld := hHeld2
      clear hHeld2
      (try simp only [Act.put, xa, xb, xc, xd, xe, xf])
      refine tk 11 ?_
      refine wpAnyH_done (by kernel_rfl) ?_ _
      have HO9 := hid_mk (HI.out.2.2.trans o9)
      clear o4 o9 hHeld hV3 HS2 c1 c3 x1 x2
      go_wp2
      exact ⟨⟨i + 1, up_v HI.out.1 (by have := HI.out; omega), HI.out.1, HO9.out⟩, by rw [up_w HI.out.1 (by have := HI.out; omega)]; exact ms_n HI.out.1⟩
    · obtain rfl : m = i := by omega
      have l1 : decide ((m : Int) < (m : Int)) = false := by simp
      have HO2 := hid_mk (oV.trans hO)
      clear hgo him hV1 hV2 hD hn hl b0 b1 oV hO
      go_wp2
      go_ret
      exact ⟨rfl, HO2.out⟩
end Go.Proofs.YtkghabmgofgclaaDoor
namespace Go.Proofs.YtkghabmgofgclaaDoor
open Go.RowKit
set_option linter.unusedVariables false
set_option linter.unusedSimpArgs false

/-- one answer: its slices, what it says, its blocks -/
structure An where
  sa : Option Addr
  n : Nat
  sc : Nat
  da : Option Addr
  m : Nat
  dc : Nat
  S : List Int
  Ds : List (List Int)
  dgs : List Nat
def An.s (A : An) : Value := .slice A.sa A.n A.sc
def An.d (A : An) : Value := .slice A.da A.m A.dc
/-- the answer lies so, and is no greater than answers are -/
def An.at (A : An) (w : World) (lo : Nat) : Prop := CkAt w lo A.s A.d A.S A.Ds A.dgs ∧ A.S.length = A.n ∧ A.Ds.length = A.m ∧ A.n ≤ 64 ∧ A.m ≤ 64 ∧ ∀ D ∈ A.Ds, D.length ≤ 4096
/-- answers as cells -/
def acl : List An → List Value
  | [] => []
  | A :: l => A.s :: A.d :: acl l
theorem acl_len : ∀ (l : List An), (acl l).length = l.length * 2
  | [] => rfl
  | A :: l => by simp only [acl, List.length_cons, acl_len l]; omega
theorem acl_app : ∀ (l m : List An), acl (l ++ m) = acl l ++ acl m
  | [], m => rfl
  | A :: l, m => by simp only [List.cons_append, acl, acl_app l m]
theorem acl_at : ∀ {l : List An} {j : Nat} {A : An}, l[j]? = some A → (acl l)[j * 2]? = some A.s ∧ (acl l)[j * 2 + 1]? = some A.d
  | [], j, A, h => by simp at h
  | y :: l, 0, A, h => by
    simp at h
    subst h
    exact ⟨rfl, rfl⟩
  | y :: l, j + 1, A, h => by
    have := acl_at (l := l) (j := j) (A := A) (by simpa using h)
    rw [show (j + 1) * 2 = j * 2 + 1 + 1 by omega]
    exact this
/-- the blocks of an answer -/
def An.bl (A : An) (k : Nat) : Prop := A.s.ownBlock = some k ∨ A.d.ownBlock = some k ∨ k ∈ A.dgs
theorem CkAt.fxb {w w2 : World} {lo : Nat} {sv dv : Value} {S : List Int} {Ds : List (List Int)} {dgs : List Nat} {Q : Nat → Prop} (h : CkAt w lo sv dv S Ds dgs) (x : Fx Q w w2) (h1 : ∀ z, sv.ownBlock = some z → ¬ Q z) (h2 : ∀ z, dv.ownBlock = some z → ¬ Q z) (h3 : ∀ z, z ∈ dgs → ¬ Q z) : CkAt w2 lo sv dv S Ds dgs := by
  obtain ⟨q1, q2, q3, q4, q5⟩ := h
  refine ⟨own_fx q1 x h1, own_fx q2 x h2, q3, fun j dg D z1 z2 => ?_, q5⟩
  obtain ⟨y1, y2⟩ := q4 j dg D z1 z2
  exact ⟨y1, y2.fx x (h3 dg (List.mem_of_getElem? z1))⟩
theorem An.at.fx {A : An} {w w2 : World} {lo : Nat} {Q : Nat → Prop} (h : A.at w lo) (x : Fx Q w w2) (hQ : ∀ k, A.bl k → ¬ Q k) : A.at w2 lo := ⟨h.1.fxb x (fun z hz => hQ z (.inl hz)) (fun z hz => hQ z (.inr (.inl hz))) (fun z hz => hQ z (.inr (.inr hz))), h.2⟩
theorem An.at.quiet {A : An} {w w2 : World} {lo : Nat} (h : A.at w lo) (o : Out 0 0 w w2) : A.at w2 lo := h.fx (Q := fun _ => False) (Fx.of_out o) (fun _ _ q => q)
theorem own_noX {w : World} {E E' : TypeId} {base sz n k : Nat} {v : Value} {xs : List Value} {cs : Array Value} {fr : Nat × Nat} (h : w.ownsRow base E sz v n xs) (hb : w.heap[k]? = some (.cells cs E' fr)) (hE : E' ≠ E) : v.ownBlock ≠ some k := by
  intro e
  rcases h.2 with ⟨rfl, _⟩ | ⟨q, cap2, cur, rfl, hg1, hg2, _⟩
  · cases e
  · cases e
    rw [hg2] at hb
    cases hb
    exact hE rfl
/-- what the blocks of an answer are of -/
theorem An.at.ty {A : An} {w : World} {lo k : Nat} (h : A.at w lo) (hk : A.bl k) : lo ≤ k ∧ k < w.heap.size ∧ ∃ cs E, w.heap[k]? = some (.cells cs E (0, 0)) ∧ (E = 3 ∨ E = 68) := by
  have key : ∀ {E : TypeId} {n : Nat} {v : Value} {xs : List Value}, w.ownsRow lo E 1 v n xs → v.ownBlock = some k → ∃ cs, w.heap[k]? = some (.cells cs E (0, 0)) := by
    intro E n v xs hr e
    rcases hr.2 with ⟨rfl, _⟩ | ⟨q, cap2, cur, rfl, hg1, hg2, _⟩
    · cases e
    · cases e; exact ⟨cur, hg2⟩
  rcases hk with hk | hk | hk
  · obtain ⟨cs, hc⟩ := key h.1.1 hk
    exact ⟨(own_ge h.1.1 hk).1, (own_ge h.1.1 hk).2, cs, _, hc, .inl rfl⟩
  · obtain ⟨cs, hc⟩ := key h.1.2.1 hk
    exact ⟨(own_ge h.1.2.1 hk).1, (own_ge h.1.2.1 hk).2, cs, _, hc, .inr rfl⟩
  · obtain ⟨j, hj⟩ := List.getElem?_of_mem hk
    obtain ⟨D, hD⟩ : ∃ D, A.Ds[j]? = some D := ⟨_, List.getElem?_eq_getElem (by have := (List.getElem?_eq_some_iff.1 hj).1; have := h.1.2.2.1; omega)⟩
    obtain ⟨y1, y2⟩ := h.1.2.2.2.1 j k D hj hD
    exact ⟨y1, y2.lt, _, _, y2, .inl rfl⟩
theorem An.at.off {A : An} {w : World} {lo b2 s2 n' k : Nat} {v' : Value} {E : TypeId} {xs : List Value} (h : A.at w lo) (h' : w.ownsRow b2 E s2 v' n' xs) (hE : E ≠ 3 ∧ E ≠ 68) (hk : A.bl k) : v'.ownBlock ≠ some k := by
  obtain ⟨-, -, cs, E', hc, hE'⟩ := h.ty hk
  rcases hE' with rfl | rfl
  · exact own_noX h' hc (Ne.symm hE.1)
  · exact own_noX h' hc (Ne.symm hE.2)
/-- what is kept: the answers, and what they were -/
def KC (w : World) (lo bk : Nat) (ra : Option Addr) (rk : Nat) (wa : Option Addr) (wk : Nat) (As Bs : List An) : Prop :=
  Bl w bk #[.slice ra As.length rk, .slice wa Bs.length wk] 46 ∧ w.ownsRow lo 71 2 (.slice ra As.length rk) As.length (acl As) ∧ w.ownsRow lo 71 2 (.slice wa Bs.length wk) Bs.length (acl Bs) ∧ (∀ A ∈ As, A.at w lo) ∧ (∀ B ∈ Bs, B.at w lo) ∧ (∀ (i j : Nat) A B k, i ≠ j → As[i]? = some A → As[j]? = some B → A.bl k → ¬ B.bl k) ∧ (∀ k, (Value.slice ra As.length rk).ownBlock = some k → (Value.slice wa Bs.length wk).ownBlock ≠ some k) ∧ bk < lo
section
variable {w w' w6 : World} {lo bk : Nat} {ra : Option Addr} {rk : Nat} {wa : Option Addr} {wk : Nat} {As Bs : List An} {A : An} {g cap' : Nat}
theorem KC.quiet (h : KC w lo bk ra rk wa wk As Bs) (o : Out 0 0 w w') : KC w' lo bk ra rk wa wk As Bs := ⟨h.1.kept o (.inr (Nat.zero_le _)), own_fx (S := fun _ => False) h.2.1 (Fx.of_out o) (fun _ _ q => q), own_fx (S := fun _ => False) h.2.2.1 (Fx.of_out o) (fun _ _ q => q), fun A hA => (h.2.2.2.1 A hA).quiet o, fun B hB => (h.2.2.2.2.1 B hB).quiet o, h.2.2.2.2.2⟩
theorem KC.fx {Q : Nat → Prop} (h : KC w lo bk ra rk wa wk As Bs) (x : Fx Q w w') (hQ : ∀ k, Q k → ∃ cs E, w.heap[k]? = some (.cells cs E (0, 0)) ∧ E ≠ 3 ∧ E ≠ 68 ∧ E ≠ 46 ∧ (Value.slice ra As.length rk).ownBlock ≠ some k ∧ (Value.slice wa Bs.length wk).ownBlock ≠ some k) : KC w' lo bk ra rk wa wk As Bs := by
  obtain ⟨h1, h2, h3, h4, h5, h6⟩ := h
  have keep : ∀ {B : An}, B.at w lo → B.at w' lo := fun {B} hB => hB.fx x (fun k hk q => by
    obtain ⟨cs, E, b1, b2, b3, -⟩ := hQ k q
    obtain ⟨-, -, cs', E', b1', b4⟩ := hB.ty hk
    rw [b1] at b1'
    cases b1'
    rcases b4 with e | e
    · exact b2 e
    · exact b3 e)
  refine ⟨h1.fx x (fun q => ?_), own_fx h2 x (fun k hk q => (hQ k q).choose_spec.choose_spec.2.2.2.2.1 hk), own_fx h3 x (fun k hk q => (hQ k q).choose_spec.choose_spec.2.2.2.2.2 hk), fun A hA => keep (h4 A hA), fun B hB => keep (h5 B hB), h6⟩
  obtain ⟨cs, E, b1, b2, b3, b4, -⟩ := hQ bk q
  have h1' : w.heap[bk]? = some (.cells _ _ (0, 0)) := h1
  rw [h1'] at b1
  cases b1
  exact b4 rfl
theorem KC.pushG {N : Nat} (h : KC w lo bk ra rk wa wk As Bs) (hA : A.at w lo) (hN : ∀ B ∈ As, ∀ k, B.bl k → k < N) (hn : ∀ k, A.bl k → N ≤ k) (q1 : w6.ownsRow lo 71 2 (.slice (some ⟨g, 0, none⟩) (As.length + 1) cap') (As.length + 1) (acl As ++ [A.s, A.d])) (q2 : Fx (fun k => (Value.slice ra As.length rk).ownBlock = some k) w w6) (q3 : (Value.slice ra As.length rk).ownBlock = some g ∨ w.heap.size ≤ g) :
    KC (w6.setCell ⟨bk, 0, none⟩ (.slice (some ⟨g, 0, none⟩) (As.length + 1) cap')) lo bk (some ⟨g, 0, none⟩) cap' wa wk (As ++ [A]) Bs := by
  obtain ⟨h1, h2, h3, h4, h5, h6, h7, h8⟩ := h
  have hlen : (As ++ [A]).length = As.length + 1 := by simp
  have hs : Fx (fun k => k = bk) w6 (w6.setCell ⟨bk, 0, none⟩ (.slice (some ⟨g, 0, none⟩) (As.length + 1) cap')) := (Fx.refl (fun k => k = bk) _).set (p := ⟨bk, 0, none⟩) (.inl rfl) _
  have hlo : ∀ k, (Value.slice ra As.length rk).ownBlock = some k → lo ≤ k := fun k hk => (own_ge h2 hk).1
  have g3 := own_fx h3 q2 (fun k hk e => h7 k e hk)
  have keep : ∀ {B : An}, B.at w lo → B.at (w6.setCell ⟨bk, 0, none⟩ (.slice (some ⟨g, 0, none⟩) (As.length + 1) cap')) lo := fun {B} hB => (hB.fx q2 (fun k hk e => hB.off h2 (by decide) hk e)).fx hs (fun k hk e => by have := (hB.ty hk).1; omega)
  refine ⟨by rw [hlen]; exact (h1.fx q2 (fun e => by have := hlo bk e; omega)).set 0 _, by rw [hlen, acl_app]; exact own_fx q1 hs (fun k hk e => by have := (own_ge q1 hk).1; omega), own_fx g3 hs (fun k hk e => by have := (own_ge g3 hk).1; omega), fun B hB => ?_, fun B hB => keep (h5 B hB), ?_, ?_, h8⟩
  · rcases List.mem_append.1 hB with q | q
    · exact keep (h4 B q)
    · simp at q; subst q; exact keep hA
  · have key : ∀ (j : Nat) B, (As ++ [A])[j]? = some B → (As[j]? = some B) ∨ (j = As.length ∧ B = A) := by
      intro j B q
      by_cases hj : j < As.length
      · rw [List.getElem?_append_left hj] at q; exact .inl q
      · have hlt := (List.getElem?_eq_some_iff.1 q).1
        simp at hlt
        obtain rfl : j = As.length := by omega
        simp at q
        exact .inr ⟨rfl, q.symm⟩
    intro i j X Y k hij z1 z2 z3 z4
    rcases key i X z1 with y1 | ⟨y1, rfl⟩ <;> rcases key j Y z2 with y2 | ⟨y2, rfl⟩
    · exact h6 i j X Y k hij y1 y2 z3 z4
    · have := hN X (List.mem_of_getElem? y1) k z3; have := hn k z4; omega
    · have := hN Y (List.mem_of_getElem? y2) k z4; have := hn k z3; omega
    · exact hij (y1.trans y2.symm)
  · intro k hk hk'
    rw [hlen] at hk
    cases hk
    rcases q3 with q | q
    · exact h7 _ q hk'
    · exact absurd (own_ge h3 hk').2 (Nat.not_lt.2 q)
theorem KC.pushW (h : KC w lo bk ra rk wa wk As Bs) (hA : A.at w lo) (q1 : w6.ownsRow lo 71 2 (.slice (some ⟨g, 0, none⟩) (Bs.length + 1) cap') (Bs.length + 1) (acl Bs ++ [A.s, A.d])) (q2 : Fx (fun k => (Value.slice wa Bs.length wk).ownBlock = some k) w w6) (q3 : (Value.slice wa Bs.length wk).ownBlock = some g ∨ w.heap.size ≤ g) :
    KC (w6.setCell ⟨bk, 1, none⟩ (.slice (some ⟨g, 0, none⟩) (Bs.length + 1) cap')) lo bk ra rk (some ⟨g, 0, none⟩) cap' As (Bs ++ [A]) := by
  obtain ⟨h1, h2, h3, h4, h5, h6, h7, h8⟩ := h
  have hlen : (Bs ++ [A]).length = Bs.length + 1 := by simp
  have hs : Fx (fun k => k = bk) w6 (w6.setCell ⟨bk, 1, none⟩ (.slice (some ⟨g, 0, none⟩) (Bs.length + 1) cap')) := (Fx.refl (fun k => k = bk) _).set (p := ⟨bk, 1, none⟩) (.inl rfl) _
  have hlo : ∀ k, (Value.slice wa Bs.length wk).ownBlock = some k → lo ≤ k := fun k hk => (own_ge h3 hk).1
  have g2 := own_fx h2 q2 (fun k hk e => h7 k hk e)
  have keep : ∀ {B : An}, B.at w lo → B.at (w6.setCell ⟨bk, 1, none⟩ (.slice (some ⟨g, 0, none⟩) (Bs.length + 1) cap')) lo := fun {B} hB => (hB.fx q2 (fun k hk e => hB.off h3 (by decide) hk e)).fx hs (fun k hk e => by have := (hB.ty hk).1; omega)
  refine ⟨by rw [hlen]; exact (h1.fx q2 (fun e => by have := hlo bk e; omega)).set 1 _, own_fx g2 hs (fun k hk e => by have := (own_ge g2 hk).1; omega), by rw [hlen, acl_app]; exact own_fx q1 hs (fun k hk e => by have := (own_ge q1 hk).1; omega), fun B hB => keep (h4 B hB), fun B hB => ?_, h6, ?_, h8⟩
  · rcases List.mem_append.1 hB with q | q
    · exact keep (h5 B q)
    · simp at q; subst q; exact keep hA
  · intro k hk hk'
    rw [hlen] at hk'
    cases hk'
    rcases q3 with q | q
    · exact h7 _ hk q
    · exact absurd (own_ge h2 hk).2 (Nat.not_lt.2 q)
end
end Go.Proofs.YtkghabmgofgclaaDoor
namespace Go.Proofs.YtkghabmgofgclaaDoor
open Go.RowKit
set_option linter.unusedVariables false
set_option linter.unusedSimpArgs false

theorem mk_apX {T E : TypeId} {z : Value} {sz by_ : Nat} (hT : Tryd.prog.underlying T = some (.slice E)) (hinf : (Tryd.prog.info? E).map (fun i => (i.zero, i.size, i.bytes)) = some (some z, sz, by_)) (hz : z.cells.size = sz) (hsz : 0 < sz) (hby : by_ ≤ 1000) {w : World} {base K cap m c p : Nat} {ta : Option Addr} {xs zs : List Value} (hown : w.ownsRow base E sz (.slice ta K cap) K xs) (hbase : base ≤ w.heap.size) (hp : Bl w p zs.toArray E) (hl : zs.length = m * sz) (h1 : ∀ u ∈ zs, u.oneCell' = true) (hK : K ≤ 2000000) (hm : 0 < m) (hm2 : m ≤ 2000000) (ty : TypeId) :
    ∃ g cap' w', (Builtin.append_ #[T, T] ty #[.slice ta K cap, .slice (some ⟨p, 0, none⟩) m c]).run Tryd.prog w = .ok (.slice (some ⟨g, 0, none⟩) (K + m) cap') w' ∧ w'.ownsRow base E sz (.slice (some ⟨g, 0, none⟩) (K + m) cap') (K + m) (xs ++ zs) ∧ Fx (fun k => (Value.slice ta K cap).ownBlock = some k) w w' ∧ ((Value.slice ta K cap).ownBlock = some g ∨ w.heap.size ≤ g) := by
  obtain ⟨a', cap', w', q1, q2, q3, q4⟩ := app_at hT hinf hz hsz hby (c := c) hown hbase (bl_src hp m) hl h1 hK hm2 ty
  obtain ⟨g, cap2, h, _⟩ := q2.form (by omega)
  cases h
  refine ⟨g, cap', w', q1, q2, q3, ?_⟩
  rcases q4 with q4 | q4
  · exact .inl q4.symm
  · exact .inr (by cases q4; exact Nat.le_refl _)
theorem info_ckX : (Tryd.prog.info? 71).map (fun i => (i.zero, i.size, i.bytes)) = some (some (.agg #[.slice none 0 0, .slice none 0 0]), 2, 48) := by kernel_rfl
set_option maxRecDepth 100000 in
set_option maxHeartbeats 4000000 in
theorem checked_any {w : World} {lo bk N : Nat} {ra : Option Addr} {rk : Nat} {wa : Option Addr} {wk : Nat} {As Bs : List An} (A B : An) (hlo : lo ≤ w.heap.size) (hn : As.length ≤ 1000 ∧ Bs.length ≤ 1000) (h : KC w lo bk ra rk wa wk As Bs) (hA : A.at w lo) (hB : B.at w lo) (hN : ∀ X ∈ As, ∀ k, X.bl k → k < N) (hN2 : ∀ k, A.bl k → N ≤ k) :
    Calls Tryd.prog 36 #[.pointer (some ⟨bk, 0, none⟩), .agg #[A.s, A.d], .agg #[B.s, B.d]] w fun e w' => e = .returned (.tuple #[]) ∧ ∃ ra' rk' wa' wk', KC w' lo bk ra' rk' wa' wk' (As ++ [A]) (Bs ++ [B]) ∧ Fx (fun k => k = bk ∨ (Value.slice ra As.length rk).ownBlock = some k ∨ (Value.slice wa Bs.length wk).ownBlock = some k) w w' ∧ (∀ k, (Value.slice ra' (As ++ [A]).length rk').ownBlock = some k → (Value.slice ra As.length rk).ownBlock = some k ∨ w.heap.size ≤ k) ∧ ∀ k, (Value.slice wa' (Bs ++ [B]).length wk').ownBlock = some k → (Value.slice wa Bs.length wk).ownBlock = some k ∨ w.heap.size ≤ k := by
  obtain ⟨b, hb⟩ : ∃ b, w.heap.size = b := ⟨_, rfl⟩
  obtain ⟨V, hV⟩ : ∃ V, (w.alloc (.cells #[.slice A.sa A.n A.sc, .slice A.da A.m A.dc] 71)).alloc (.cells #[.slice B.sa B.n B.sc, .slice B.da B.m B.dc] 71) = V := ⟨_, rfl⟩
  have oV : Out 0 0 w V := by rw [← hV]; exact ((Out.refl 0 0 w).alloc _).alloc _
  have b0 : Bl V b #[.slice A.sa A.n A.sc, .slice A.da A.m A.dc] 71 := by rw [← hV, ← hb]; exact (Bl.new _ _ _).alloc _
  have b1 : Bl V (b + 1) #[.slice B.sa B.n B.sc, .slice B.da B.m B.dc] 71 := by
    rw [← hV, ← hb]
    have := Bl.new (w.alloc (.cells #[.slice A.sa A.n A.sc, .slice A.da A.m A.dc] 71)) #[.slice B.sa B.n B.sc, .slice B.da B.m B.dc] 71
    rwa [size_alloc] at this
  have hKV := h.quiet oV
  have HH := hid_mk (And.intro hlo (And.intro hn (And.intro hN (And.intro hN2 (And.intro oV (And.intro hKV (And.intro (hA.quiet oV) (And.intro (hB.quiet oV) (And.intro b1 hb)))))))))
  have HS : Hid (∀ k, (k = bk ∨ (Value.slice ra As.length rk).ownBlock = some k ∨ (Value.slice wa Bs.length wk).ownBlock = some k) → k < b) := hid_mk fun k hk => by
    have h1 := h.1.lt
    rcases hk with rfl | hk | hk
    · omega
    · have := (own_ge h.2.1 hk).2; omega
    · have := (own_ge h.2.2.1 hk).2; omega
  have d0 := hKV.1.cell (i := 0) rfl
  have d1 := b0.cell (i := 0) rfl
  have d2 := b0.cell (i := 1) rfl
  show Calls Tryd.prog 36 #[.pointer (some ⟨bk, 0, none⟩), .agg #[.slice A.sa A.n A.sc, .slice A.da A.m A.dc], .agg #[.slice B.sa B.n B.sc, .slice B.da B.m B.dc]] w _
  clear hlo hn h hA hB hN hN2 oV b0 b1 hKV
  go_enter Tryd.func36, Tryd.ntmps36
  go_wp2_with fail
  (try rw [hV])
  (try rw [hb])
  clear hV hb
  obtain ⟨V3, hV3⟩ : ∃ V3, V.drew = V3 := ⟨_, rfl⟩
  refine wp_region_T (S := fun w' => w'.cell? ⟨bk, 0, none⟩ = some (.slice ra As.length rk) ∧ w'.cell? ⟨b, 0, none⟩ = some (.slice A.sa A.n A.sc) ∧ w'.cell? ⟨b, 1, none⟩ = some (.slice A.da A.m A.dc)) (z := 10) (by kernel_rfl) ?hS1 (fun hHeld => ?rest1)
  case hS1 => exact ⟨d0, d1, d2⟩
  refine tkT 0 ?_
  refine tkT 1 ?_
  refine tkT 2 ?_
  refine tkT 3 ?_
  refine tkT 4 ?_
  refine tkT 5 ?_
  refine wpAnyT_one (i := 6) (by kernel_rfl) rfl (fun KK hK => ?_)
  simp only [xa, xb, xc]
  go_simp
  obtain ⟨X1, hX1⟩ : ∃ X1, V3.alloc (.cells #[.slice A.sa A.n A.sc, .slice A.da A.m A.dc] 71) = X1 := ⟨_, rfl⟩
  obtain ⟨t1, ht1⟩ : ∃ t1, V3.heap.size = t1 := ⟨_, rfl⟩
  rw [hX1, ht1]
  have o9 : Out 0 0 V X1 := by rw [← hX1, ← hV3]; exact ((Out.refl 0 0 V).drew).alloc _
  have HX1 : Hid (Bl X1 t1 #[.slice A.sa A.n A.sc, .slice A.da A.m A.dc] 71) := hid_mk (by rw [← hX1, ← ht1]; exact Bl.new _ _ _)
  clear hX1 ht1
  refine hK.out _ _ ?hS8 (fun hHeld2 => ?rest8)
  case hS8 => exact ⟨o9.cell d0 (.inr (Nat.zero_le _)), o9.cell d1 (.inr (Nat.zero_le _)), o9.cell d2 (.inr (Nat.zero_le _))⟩
  clear hK KK
  (try clear hHeld)
  have hHeld := hHeld2
  clear hHeld2
  (try simp only [Act.put, xa, xb, xc, xd, xe, xf])
  refine wpAnyT_one (i := 7) (by kernel_rfl) rfl (fun KK hK => ?_)
  simp only [xa, xb, xc]
  obtain ⟨g4, cap4, w6, hr, z1, z2, z3⟩ := mk_apX (m := 1) (c := 1) (zs := [.slice A.sa A.n A.sc, .slice A.da A.m A.dc]) Tryd.underlying44 info_ckX rfl (by decide) (by decide) (HH.out.2.2.2.2.2.1.quiet o9).2.1 (Nat.le_trans HH.out.1 (HH.out.2.2.2.2.1.trans o9).size) HX1.out rfl (by intro u hu; simp at hu; rcases hu with rfl | rfl <;> rfl) (by have := HH.out.2.1; omega) (by decide) (by decide) 44
  refine app_sr X1 _ _ _ _ rfl _ _ rfl rfl hr ?_
  refine hK.out _ _ ?hS9 (fun hHeld2 => ?rest9)
  case hS9 => exact ⟨((HH.out.2.2.2.2.2.1.quiet o9).1.fx z2 (fun e => by have h1 := (own_ge HH.out.2.2.2.2.2.1.2.1 e).1; have h2 := HH.out.2.2.2.2.2.1.2.2.2.2.2.2.2; omega)).cell (i := 0) rfl, z2.cell (o9.cell d1 (.inr (Nat.zero_le _))) (fun e => by have := HS.out _ (.inr (.inl e)); omega), z2.cell (o9.cell d2 (.inr (Nat.zero_le _))) (fun e => by have := HS.out _ (.inr (.inl e)); omega)⟩
  clear hK KK
  (try clear hHeld)
  have hHeld := hHeld2
  clear hHeld2
  (try simp only [Act.put, xa, xb, xc, xd, xe, xf])
  refine wpAnyT_one (i := 8) (by kernel_rfl) rfl (fun KK hK => ?_)
  simp only [xa, xb, xc]
  go_simp
  refine hK.out _ _ ?hS10 (fun hHeld2 => ?rest10)
  case hS10 => exact hHeld
  clear hK KK
  (try clear hHeld)
  have hHeld := hHeld2
  clear hHeld2
  (try simp only [Act.put, xa, xb, xc, xd, xe, xf])
  refine tkT 9 ?_
  refine wpAnyT_last (by kernel_rfl) rfl (fun KK hK => ?_)
  simp only [xa, xb, xc]
  have s9 := hHeld.1
  have z9 := ((HH.out.2.2.2.2.2.1.quiet o9).1.fx z2 (fun e => by have h1 := (own_ge HH.out.2.2.2.2.2.1.2.1 e).1; have h2 := HH.out.2.2.2.2.2.1.2.2.2.2.2.2.2; omega)).frozen 0
  go_simp
  refine hK.out _ _ ?_
  clear hK KK
  (try simp only [Act.put, xa, xb, xc, xd, xe, xf])
  refine wpAnyT_done (by kernel_rfl) ?_ _
  obtain ⟨hlo, hn, hN, hN2, oV, hKV, hA, hB, b1, hb⟩ := HH.out
  have hG := (hKV.quiet o9).pushG (A := A) (hA.quiet o9) hN hN2 z1 z2 z3
  have b6 := (b1.kept o9 (.inr (Nat.zero_le _))).fx z2 (fun e => by have := HS.out _ (.inr (.inl e)); omega)
  have hB6 := (hB.quiet o9).fx z2 (fun k hk e => (hB.quiet o9).off (hKV.quiet o9).2.1 (by decide) hk e)
  obtain ⟨W6, hW6⟩ : ∃ W6, w6.setCell ⟨bk, 0, none⟩ (.slice (some ⟨g4, 0, none⟩) (As.length + 1) cap4) = W6 := ⟨_, rfl⟩
  have x6 : Fx (fun k => k = bk) w6 W6 := by rw [← hW6]; exact (Fx.refl (fun k => k = bk) _).set (p := ⟨bk, 0, none⟩) (.inl rfl) _
  rw [hW6] at hG
  have X6 : Fx (fun k => k = bk ∨ (Value.slice ra As.length rk).ownBlock = some k ∨ (Value.slice wa Bs.length wk).ownBlock = some k) w W6 := ((Fx.of_out (oV.trans o9)).trans (z2.wide fun k _ hk => .inr (.inl hk))).trans (x6.wide fun k _ hk => .inl hk)
  have b7 := b6.fx x6 (fun e => by have := HS.out bk (.inl rfl); omega)
  have hB7 := hB6.fx x6 (fun k hk e => by have := (hB6.ty hk).1; have := hKV.2.2.2.2.2.2.2; omega)
  have d0 := hG.1.cell (i := 1) rfl
  have d1 := b7.cell (i := 0) rfl
  have d2 := b7.cell (i := 1) rfl
  have HG := hid_mk (And.intro hG (And.intro X6 (And.intro hB7 b7)))
  have HZ3 : Hid ((Value.slice ra As.length rk).ownBlock = some g4 ∨ w.heap.size ≤ g4) := hid_mk (z3.imp_right fun q => Nat.le_trans (oV.trans o9).size q)
  rw [hW6]
  clear hlo hn hN hN2 oV hKV hA hB b1 hb hG b6 hB6 hW6 x6 X6 b7 hB7 hr z1 z2 z3 o9 HX1 hHeld hV3
  go_wp2_with fail
  obtain ⟨V4, hV4⟩ : ∃ V4, W6.drew = V4 := ⟨_, rfl⟩
  refine wp_region_T (S := fun w' => w'.cell? ⟨bk, 1, none⟩ = some (.slice wa Bs.length wk) ∧ w'.cell? ⟨b + 1, 0, none⟩ = some (.slice B.sa B.n B.sc) ∧ w'.cell? ⟨b + 1, 1, none⟩ = some (.slice B.da B.m B.dc)) (z := 10) (by kernel_rfl) ?hS12 (fun hHeld => ?rest12)
  case hS12 => exact ⟨d0, d1, d2⟩
  refine tkT 0 ?_
  refine tkT 1 ?_
  refine tkT 2 ?_
  refine tkT 3 ?_
  refine tkT 4 ?_
  refine tkT 5 ?_
  refine wpAnyT_one (i := 6) (by kernel_rfl) rfl (fun KK hK => ?_)
  simp only [xa, xb, xc]
  go_simp
  obtain ⟨X2, hX2⟩ : ∃ X2, V4.alloc (.cells #[.slice B.sa B.n B.sc, .slice B.da B.m B.dc] 71) = X2 := ⟨_, rfl⟩
  obtain ⟨t2, ht2⟩ : ∃ t2, V4.heap.size = t2 := ⟨_, rfl⟩
  rw [hX2, ht2]
  have o8 : Out 0 0 W6 X2 := by rw [← hX2, ← hV4]; exact ((Out.refl 0 0 W6).drew).alloc _
  have HX2 : Hid (Bl X2 t2 #[.slice B.sa B.n B.sc, .slice B.da B.m B.dc] 71) := hid_mk (by rw [← hX2, ← ht2]; exact Bl.new _ _ _)
  clear hX2 ht2
  refine hK.out _ _ ?hS19 (fun hHeld2 => ?rest19)
  case hS19 => exact ⟨o8.cell d0 (.inr (Nat.zero_le _)), o8.cell d1 (.inr (Nat.zero_le _)), o8.cell d2 (.inr (Nat.zero_le _))⟩
  clear hK KK
  (try clear hHeld)
  have hHeld := hHeld2
  clear hHeld2
  (try simp only [Act.put, xa, xb, xc, xd, xe, xf])
  refine wpAnyT_one (i := 7) (by kernel_rfl) rfl (fun KK hK => ?_)
  simp only [xa, xb, xc]
  obtain ⟨g5, cap5, w8, hr, z1, z2, z3⟩ := mk_apX (m := 1) (c := 1) (zs := [.slice B.sa B.n B.sc, .slice B.da B.m B.dc]) Tryd.underlying44 info_ckX rfl (by decide) (by decide) (HG.out.1.quiet o8).2.2.1 (Nat.le_trans HH.out.1 (Nat.le_trans HG.out.2.1.size o8.size)) HX2.out rfl (by intro u hu; simp at hu; rcases hu with rfl | rfl <;> rfl) (by have := HH.out.2.1; omega) (by decide) (by decide) 44
  refine app_sr X2 _ _ _ _ rfl _ _ rfl rfl hr ?_
  refine hK.out _ _ ?hS20 (fun hHeld2 => ?rest20)
  case hS20 => exact ⟨((HG.out.1.quiet o8).1.fx z2 (fun e => by have h1 := (own_ge HG.out.1.2.2.1 e).1; have h2 := HG.out.1.2.2.2.2.2.2.2; omega)).cell (i := 1) rfl, z2.cell (o8.cell d1 (.inr (Nat.zero_le _))) (fun e => by have := HS.out _ (.inr (.inr e)); omega), z2.cell (o8.cell d2 (.inr (Nat.zero_le _))) (fun e => by have := HS.out _ (.inr (.inr e)); omega)⟩
  clear hK KK
  (try clear hHeld)
  have hHeld := hHeld2
  clear hHeld2
  (try simp only [Act.put, xa, xb, xc, xd, xe, xf])
  refine wpAnyT_one (i := 8) (by kernel_rfl) rfl (fun KK hK => ?_)
  simp only [xa, xb, xc]
  go_simp
  refine hK.out _ _ ?hS21 (fun hHeld2 => ?rest21)
  case hS21 => exact hHeld
  clear hK KK
  (try clear hHeld)
  have hHeld := hHeld2
  clear hHeld2
  (try simp only [Act.put, xa, xb, xc, xd, xe, xf])
  refine tkT 9 ?_
  refine wpAnyT_last (by kernel_rfl) rfl (fun KK hK => ?_)
  simp only [xa, xb, xc]
  have s9 := hHeld.1
  have z9 := ((HG.out.1.quiet o8).1.fx z2 (fun e => by have h1 := (own_ge HG.out.1.2.2.1 e).1; have h2 := HG.out.1.2.2.2.2.2.2.2; omega)).frozen 1
  go_simp
  refine hK.out _ _ ?_
  clear hK KK
  (try simp only [Act.put, xa, xb, xc, xd, xe, xf])
  refine wpAnyT_done (by kernel_rfl) ?_ _
  have hD := (HG.out.1.quiet o8).pushW (A := B) (HG.out.2.2.1.quiet o8) z1 z2 z3
  have X8 : Fx (fun k => k = bk ∨ (Value.slice ra As.length rk).ownBlock = some k ∨ (Value.slice wa Bs.length wk).ownBlock = some k) w (w8.setCell ⟨bk, 1, none⟩ (.slice (some ⟨g5, 0, none⟩) (Bs.length + 1) cap5)) := ((HG.out.2.1.trans (Fx.of_out o8)).trans (z2.wide fun k _ hk => .inr (.inr hk))).set (p := ⟨bk, 1, none⟩) (.inl (.inl rfl)) _
  exact bodyPost_end (results_none Tryd.results36 _ _ _) rfl ⟨rfl, _, _, _, _, hD, X8, fun k hk => by cases hk; exact HZ3.out, fun k hk => by cases hk; exact z3.imp_right fun q => Nat.le_trans (Nat.le_trans HG.out.2.1.size o8.size) q⟩
end Go.Proofs.YtkghabmgofgclaaDoor
