import Derived.Test.YtapjfokkcgdhhaaDoorQag
import Derived.Test.YtapjfokkcgdhhaaDoorQae
namespace Go.Proofs.YtapjfokkcgdhhaaDoor
open Go.RowKit
set_option linter.unusedVariables false
set_option linter.unusedSimpArgs false

/-- the document's reader: its bytes, and how far it is, or the first thing wrong -/
def RQ (w : World) (p B : Nat) (ba : Option Addr) (n c : Nat) (bs : List Int) (s : Sum (Int × Nat) Nat) : Prop :=
  ByIn w B ba bs ∧ bs.length = n ∧ B ≤ p ∧ n ≤ c ∧ n ≤ 65536 ∧
  match s with
  | .inr a => a ≤ n ∧ Bl w p #[.slice ba n c, .int .i64 a, .int .i64 0, .int .i64 0] 72
  | .inl x => x.1 ≠ 0 ∧ ∃ a : Nat, a ≤ n ∧ Bl w p #[.slice ba n c, .int .i64 a, .int .i64 (x.2 : Nat), .int .i64 x.1] 72
section
variable {w w' : World} {p B : Nat} {ba : Option Addr} {n c : Nat} {bs : List Int} {s : Sum (Int × Nat) Nat} {a : Nat} {x : Int × Nat}
theorem RQ.quiet (h : RQ w p B ba n c bs s) (o : Out 0 0 w w') : RQ w' p B ba n c bs s := by
  obtain ⟨h1, h2, h3, h4, h5, h6⟩ := h
  refine ⟨h1.kept (Lo.of_out o) (Nat.le_refl _), h2, h3, h4, h5, ?_⟩
  cases s with
  | inr a => exact ⟨h6.1, h6.2.kept o (.inr (Nat.zero_le _))⟩
  | inl x => obtain ⟨e, a, h7, h8⟩ := h6; exact ⟨e, a, h7, h8.kept o (.inr (Nat.zero_le _))⟩
theorem RQ.fx {Q : Nat → Prop} (h : RQ w p B ba n c bs s) (o : Fx Q w w') (hQ : ∀ k, Q k → B ≤ k ∧ k ≠ p) : RQ w' p B ba n c bs s := by
  obtain ⟨h1, h2, h3, h4, h5, h6⟩ := h
  refine ⟨h1.kept (C := B) (o.wide fun k _ hk => (hQ k hk).1) (Nat.le_refl _), h2, h3, h4, h5, ?_⟩
  have hp : ¬ Q p := fun q => (hQ p q).2 rfl
  cases s with
  | inr a => exact ⟨h6.1, h6.2.fx o hp⟩
  | inl x => obtain ⟨e, a, h7, h8⟩ := h6; exact ⟨e, a, h7, h8.fx o hp⟩
set_option maxRecDepth 100000 in
theorem rbad_ok (h : RQ w p B ba n c bs (.inr a)) (e : Int) (he : e ≠ 0) (q : Nat) :
    Calls Tryd.prog 30 #[.pointer (some ⟨p, 0, none⟩), .int .i64 e, .int .i64 q] w fun r w' => r = .returned (.tuple #[]) ∧ RQ w' p B ba n c bs (.inl (e, q)) ∧ Fx (fun k => k = p) w w' := by
  obtain ⟨h1, h2, h3, h4, h5, h6, h7⟩ := h
  have k3 := h7.cell (i := 3) rfl
  have f3 := h7.frozen 3
  have b1 := h7.set 3 (.int .i64 e)
  have f2 := b1.frozen 2
  have k2 := b1.cell (i := 2) rfl
  have b2 := b1.set 2 (.int .i64 q)
  have x2 : Fx (fun k => k = p) w _ := ((Fx.refl (fun k => k = p) w).set (p := ⟨p, 3, none⟩) (.inl rfl) (.int .i64 e)).set (p := ⟨p, 2, none⟩) (.inl rfl) (.int .i64 q)
  have HE := hid_mk (And.intro b2 (And.intro x2 (And.intro h1 (And.intro h2 (And.intro h3 (And.intro h4 (And.intro h5 (And.intro h6 he))))))))
  clear h1 h2 h3 h4 h5 h6 h7 b1 b2 x2 he
  go_enter Tryd.func30, Tryd.ntmps30
  go_wp2
  obtain ⟨b2, x2, h1, h2, h3, h4, h5, h6, he⟩ := HE.out
  exact bodyPost_end (results_none Tryd.results30 _ _ _) rfl ⟨rfl, ⟨h1.kept (C := B) (x2.wide fun k _ hk => by subst hk; exact h3) (Nat.le_refl _), h2, h3, h4, h5, he, a, h6, b2⟩, x2⟩
set_option maxRecDepth 100000 in
theorem rbad_no (h : RQ w p B ba n c bs (.inl x)) (e : Int) (q : Nat) :
    Calls Tryd.prog 30 #[.pointer (some ⟨p, 0, none⟩), .int .i64 e, .int .i64 q] w fun r w' => r = .returned (.tuple #[]) ∧ RQ w' p B ba n c bs (.inl x) ∧ Fx (fun k => k = p) w w' := by
  have HE := hid_mk h
  obtain ⟨h1, h2, h3, h4, h5, h6, a, h7, h8⟩ := h
  have k3 := h8.cell (i := 3) rfl
  have e0 : (x.1 == 0) = false := by simpa using h6
  have e1 : decide (x.1 = 0) = false := by simpa using h6
  clear h1 h2 h3 h4 h5 h6 h7 h8
  go_enter Tryd.func30, Tryd.ntmps30
  go_wp2
  exact bodyPost_end (results_none Tryd.results30 _ _ _) rfl ⟨rfl, HE.out, Fx.refl _ _⟩
set_option maxRecDepth 100000 in
theorem rpart_bad (h : RQ w p B ba n c bs (.inl x)) (k : Nat) :
    Calls Tryd.prog 29 #[.pointer (some ⟨p, 0, none⟩), .int .i64 k] w fun r w' => r = .returned (.slice none 0 0) ∧ w' = w := by
  obtain ⟨h1, h2, h3, h4, h5, h6, a, h7, h8⟩ := h
  have k3 := h8.cell (i := 3) rfl
  have e0 : (x.1 == 0) = false := by simpa using h6
  have e1 : decide (x.1 = 0) = false := by simpa using h6
  have e2 : (x.1 != 0) = true := by simpa using h6
  clear h1 h2 h3 h4 h5 h6 h7 h8
  go_enter Tryd.func29, Tryd.ntmps29
  go_wp2
  go_ret
  exact ⟨rfl, rfl⟩
set_option maxRecDepth 100000 in
set_option maxHeartbeats 1000000 in
theorem rpart_end (h : RQ w p B ba n c bs (.inr a)) (k : Nat) (hk : n < a + k) :
    Calls Tryd.prog 29 #[.pointer (some ⟨p, 0, none⟩), .int .i64 k] w fun r w' => r = .returned (.slice none 0 0) ∧ RQ w' p B ba n c bs (.inl (61, n)) ∧ Fx (fun k => k = p) w w' := by
  have hq := h.quiet ((Out.refl 0 0 w).drew)
  obtain ⟨h1, h2, h3, h4, h5, h6, h7⟩ := h
  have k0 := h7.cell (i := 0) rfl
  have k1 := h7.cell (i := 1) rfl
  have k3 := h7.cell (i := 3) rfl
  have hd : decide ((n : Int) - (a : Int) < (k : Int)) = true := by simp; omega
  have hw := wrap_sub h5 (Nat.le_trans h6 h5)
  obtain ⟨V, hV⟩ : ∃ V, w.drew = V := ⟨_, rfl⟩
  rw [hV] at hq
  have HB := hid_mk (rbad_ok hq 61 (by decide) n)
  have oV : Out 0 0 w V := by rw [← hV]; exact (Out.refl 0 0 w).drew
  have j0 := oV.cell k0 (.inr (Nat.zero_le _))
  have HO := hid_mk oV
  clear h1 h2 h3 h4 h5 h6 h7 hk hq oV
  go_enter Tryd.func29, Tryd.ntmps29
  go_wp2
  refine wp_region_held_drew (S := fun w' => w'.cell? ⟨p, 0, none⟩ = some (.slice ba n c) ∧ w'.cell? ⟨p, 1, none⟩ = some (.int .i64 a)) (by kernel_rfl) ?hS1 (fun hHeld => ?rest1)
  case hS1 => exact ⟨k0, k1⟩
  refine tk 0 ?_
  refine tk 1 ?_
  refine tk 2 ?_
  refine tk 3 ?_
  refine tk 4 ?_
  refine tk 5 ?_
  refine tk 6 ?_
  refine tk 7 ?_
  refine tk 8 ?_
  refine tk 9 ?_
  refine tk 10 ?_
  refine tk 11 ?_
  refine wpAnyH_done (by kernel_rfl) ?_ _
  (try rw [hV])
  go_wp2_with (go_at_call 30; refine HB.out.mono ?_; rintro r w2 ⟨rfl, h2, x2⟩; have HE := hid_mk (And.intro h2 x2); clear h2 x2)
  go_ret
  exact ⟨rfl, HE.out.1, (Fx.of_out HO.out).trans HE.out.2⟩
set_option maxRecDepth 100000 in
set_option maxHeartbeats 1000000 in
theorem rpart_go (h : RQ w p B ba n c bs (.inr a)) (k : Nat) (hk : a + k ≤ n) :
    Calls Tryd.prog 29 #[.pointer (some ⟨p, 0, none⟩), .int .i64 k] w fun r w' => ∃ A' C', r = .returned (.slice A' k C') ∧ k ≤ C' ∧ ByIn w' B A' ((bs.drop a).take k) ∧ RQ w' p B ba n c bs (.inr (a + k)) ∧ Fx (fun k => k = p) w w' := by
  obtain ⟨h1, h2, h3, h4, h5, h6, h7⟩ := h
  have k0 := h7.cell (i := 0) rfl
  have k1 := h7.cell (i := 1) rfl
  have k3 := h7.cell (i := 3) rfl
  have hd : decide ((n : Int) - (a : Int) < (k : Int)) = false := by simp; omega
  have hw := wrap_sub h5 (Nat.le_trans h6 h5)
  have hw2 : IntKind.i64.wrap ((a : Int) + (k : Int)) = ((a + k : Nat) : Int) := by simp [IntKind.wrap, IntKind.signed, IntKind.bits]; omega
  have hw3 : IntKind.i64.wrap (((a + k : Nat) : Int) - (k : Int)) = (a : Int) := by simp [IntKind.wrap, IntKind.signed, IntKind.bits]; omega
  obtain ⟨V, hV⟩ : ∃ V, w.drew = V := ⟨_, rfl⟩
  have oV : Out 0 0 w V := by rw [← hV]; exact (Out.refl 0 0 w).drew
  have bV := h7.kept oV (.inr (Nat.zero_le _))
  have j1 := bV.cell (i := 1) rfl
  have f1 := bV.frozen 1
  have b2 := bV.set 1 (.int .i64 ((a + k : Nat) : Int))
  have x2 : Fx (fun k => k = p) V _ := (Fx.refl (fun k => k = p) V).set (p := ⟨p, 1, none⟩) (.inl rfl) (.int .i64 ((a + k : Nat) : Int))
  obtain ⟨A', C', hsl, hC, hA⟩ := slice_run ba n c a k (by omega)
  obtain ⟨V2, hV2⟩ : ∃ V2, V.setCell ⟨p, 1, none⟩ (.int .i64 ((a + k : Nat) : Int)) = V2 := ⟨_, rfl⟩
  rw [hV2] at b2 x2
  have e0 := b2.cell (i := 0) rfl
  have e1 := b2.cell (i := 1) rfl
  have oD : Out 0 0 V2 V2.drew := (Out.refl 0 0 V2).drew
  have x3 := ((Fx.of_out (S := fun k => k = p) oV).trans x2).trans (Fx.of_out oD)
  have hin := h1.kept (C := B) (x3.wide fun k _ hk => by subst hk; exact h3) (Nat.le_refl _)
  have HE : Hid (k ≤ C' ∧ ByIn V2.drew B A' ((bs.drop a).take k) ∧ RQ V2.drew p B ba n c bs (.inr (a + k)) ∧ Fx (fun k => k = p) w V2.drew) := hid_mk ⟨hC, piece_in hin h2 hk h4 hA, ⟨hin, h2, h3, h4, h5, hk, b2.kept oD (.inr (Nat.zero_le _))⟩, x3⟩
  obtain ⟨ak, hak⟩ : ∃ ak, a + k = ak := ⟨_, rfl⟩
  have hsl2 : ∀ W, (Instr.sliceAt 22 (.slice ba n c) (some (.int .i64 (a : Int))) (some (.int .i64 (ak : Int))) none).run Tryd.prog W = .ok (.slice A' k C') W := by
    intro W
    have := hsl W
    rw [← hak]
    exact this
  rw [hak] at hw2 hw3 hV2 e1
  clear h1 h2 h3 h4 h5 h6 h7 hk bV b2 x2 hsl hC hA oD x3 hin oV hak
  go_enter Tryd.func29, Tryd.ntmps29
  go_wp2
  refine wp_region_held_drew (S := fun w' => w'.cell? ⟨p, 0, none⟩ = some (.slice ba n c) ∧ w'.cell? ⟨p, 1, none⟩ = some (.int .i64 a)) (by kernel_rfl) ?hS14 (fun hHeld => ?rest14)
  case hS14 => exact ⟨k0, k1⟩
  refine tk 0 ?_
  refine tk 1 ?_
  refine tk 2 ?_
  refine tk 3 ?_
  refine tk 4 ?_
  refine tk 5 ?_
  refine tk 6 ?_
  refine tk 7 ?_
  refine tk 8 ?_
  refine tk 9 ?_
  refine tk 10 ?_
  refine tk 11 ?_
  refine wpAnyH_done (by kernel_rfl) ?_ _
  (try rw [hV])
  go_wp2
  (try rw [hV2])
  refine wp_region_held_drew (S := fun w' => w'.cell? ⟨p, 0, none⟩ = some (.slice ba n c) ∧ w'.cell? ⟨p, 1, none⟩ = some (.int .i64 ak)) (by kernel_rfl) ?hS27 (fun hHeld => ?rest27)
  case hS27 => exact ⟨e0, e1⟩
  refine tk 0 ?_
  refine tk 1 ?_
  refine tk 2 ?_
  refine tk 3 ?_
  refine tk 4 ?_
  refine tk 5 ?_
  refine tk 6 ?_
  refine tk 7 ?_
  refine tk 8 ?_
  refine tk 9 ?_
  refine tk 10 ?_
  refine tk 11 ?_
  refine tk 12 ?_
  refine tk 13 ?_
  refine tk 14 ?_
  refine tk 15 ?_
  refine wpAnyH_done (by kernel_rfl) ?_ _
  go_wp2
  go_ret
  exact ⟨A', C', rfl, HE.out⟩
end
end Go.Proofs.YtapjfokkcgdhhaaDoor
namespace Go.Proofs.YtapjfokkcgdhhaaDoor
open Go.RowKit
set_option linter.unusedVariables false
set_option linter.unusedSimpArgs false

/-- the row of bytes that grows: what a step leaves -/
def RS (w : World) (o : Option Nat) (w' : World) (o' : Option Nat) : Prop := Fx (fun k => o = some k) w w' ∧ (o' = o ∨ ∃ g, o' = some g ∧ w.heap.size ≤ g)
theorem RS.trans {a b c : World} {o p q : Option Nat} (h : RS a o b p) (g : RS b p c q) : RS a o c q := by
  obtain ⟨h1, h2⟩ := h
  obtain ⟨g1, g2⟩ := g
  refine ⟨h1.then g1 fun k hk e => ?_, ?_⟩
  · rcases h2 with r | ⟨x, r, hx⟩
    · rw [← r]; exact e
    · rw [r] at e; cases e; omega
  · rcases g2 with r | ⟨x, r, hx⟩
    · rw [r]
      rcases h2 with s | ⟨y, s, hy⟩
      · exact .inl s
      · exact .inr ⟨y, s, hy⟩
    · exact .inr ⟨x, r, Nat.le_trans h1.size hx⟩
theorem RS.out {a w w' : World} {o o' : Option Nat} (h : RS w o w' o') (g : Out 0 0 a w) (ho : ∀ k, o = some k → a.heap.size ≤ k) : Out 0 0 a w' :=
  ⟨h.1.1.trans g.1, h.1.2.1.trans g.2.1, h.1.2.2.1.trans g.2.2.1, Nat.le_trans g.size h.1.size, fun k h1 h2 => (h.1.2.2.2.2 k (Nat.lt_of_lt_of_le h1 g.size) (fun e => by have := ho k e; omega)).trans (g.block h1 h2)⟩
theorem RS.of_out {w w' : World} (o : Option Nat) (h : Out 0 0 w w') : RS w o w' o := ⟨Fx.of_out h, .inl rfl⟩
/-- a row of bytes of one's own; its block -/
def BO (w : World) (base : Nat) (a : Option Addr) (K c : Nat) (bs : List Int) : Prop := bs.length = K ∧ w.ownsRow base 5 1 (.slice a K c) K (bvs bs)
def ob (a : Option Addr) (K c : Nat) : Option Nat := (Value.slice a K c).ownBlock
theorem BO.kept {w w' : World} {base K c : Nat} {a : Option Addr} {bs : List Int} (h : BO w base a K c bs) (o : Out 0 0 w w') : BO w' base a K c bs := ⟨h.1, own_fx (S := fun _ => False) h.2 (Fx.of_out o) (fun _ _ z => z)⟩
theorem BO.ge {w : World} {base K c : Nat} {a : Option Addr} {bs : List Int} (h : BO w base a K c bs) : ∀ k, ob a K c = some k → base ≤ k ∧ k < w.heap.size := fun k hk => own_ge h.2 hk
theorem BO.nil (w : World) (base : Nat) : BO w base none 0 0 [] := ⟨rfl, World.ownsRow_nil _ _ _ 1⟩
theorem app_run2 {w : World} {base K n cap c : Nat} {ta ra : Option Addr} {bs x : List Int} (ty : TypeId) (hown : w.ownsRow base 5 1 (.slice ta K cap) K (bvs bs)) (hbs : base ≤ w.heap.size) (hx : BytesAt w ra x) (hn : x.length = n) (hK : K ≤ 10000000) (hn2 : n ≤ 1000000) :
    ∃ a' cap' w', (Builtin.append_ #[22, 22] ty #[.slice ta K cap, .slice ra n c]).run Tryd.prog w = .ok (.slice a' (K + n) cap') w' ∧ w'.ownsRow base 5 1 (.slice a' (K + n) cap') (K + n) (bvs (bs ++ x)) ∧ Fx (fun k => (Value.slice ta K cap).ownBlock = some k) w w' ∧
      ((Value.slice a' (K + n) cap').ownBlock = (Value.slice ta K cap).ownBlock ∨ ∃ g, (Value.slice a' (K + n) cap').ownBlock = some g ∧ w.heap.size ≤ g) := by
  rcases hx.2 with rfl | ⟨g, off, rfl, hc⟩
  · have : n = 0 := hn.symm
    subst this
    refine ⟨ta, cap, w, run_none w ty ta ra K cap c ?_, by rw [List.append_nil]; exact hown, Fx.refl _ _, .inl rfl⟩
    rcases hown.2 with ⟨h1, h2⟩ | ⟨g, c2, cur, h1, _, _, h4, _⟩
    · omega
    · cases h1; exact h4
  · by_cases h0 : n = 0
    · subst h0
      have : x = [] := List.eq_nil_of_length_eq_zero hn
      subst this
      refine ⟨ta, cap, w, run_none w ty ta _ K cap c ?_, by rw [List.append_nil]; exact hown, Fx.refl _ _, .inl rfl⟩
      rcases hown.2 with ⟨h1, h2⟩ | ⟨g, c2, cur, h1, _, _, h4, _⟩
      · omega
      · cases h1; exact h4
    · obtain ⟨i0, hi0, hz0, hz1, hz2⟩ := info_p info_u8
      obtain ⟨g4, cap', w', hrun, hown', hgrow, hat, _⟩ := run_append_lies (P := Tryd.prog) w 22 ty base 5 i0 (.int .u8 0) 1 1 Tryd.underlying22 hi0 hz0 hz1 hz2 rfl (by decide) (.slice ta K cap) K (bvs bs) hown ⟨g, off, none⟩ n c (bvs x) (by rw [bvs_len, hn, Nat.mul_one]) (by
          intro j u hj
          unfold bvs at hj
          rw [List.getElem?_map] at hj
          obtain ⟨y, hy1, rfl⟩ := Option.map_eq_some_iff.1 hj
          rw [Addr.add_lit]
          exact hc j y hy1) (by intro u hu; unfold bvs at hu; obtain ⟨y, _, rfl⟩ := List.mem_map.1 hu; rfl) (by omega) (by unfold maxLen; omega) (by omega) hbs w.heap.size rfl
      refine ⟨some ⟨g4, 0, none⟩, cap', w', hrun, by rw [bvs_app]; exact hown', ⟨hgrow.os, hgrow.tape, hgrow.output, hgrow.size, fun k h1 h2 => hgrow.block k h1 (fun e => h2 e.symm)⟩, ?_⟩
      rcases hat with h | h
      · exact .inl h.symm
      · exact .inr ⟨g4, rfl, Nat.le_of_eq h.symm⟩
theorem app_step2 {ops : Array Oper} {rest : List Oper} {o : Oper} {ac : Go.Act} {w : World} {Q : Exit → Go.Act → World → Prop} (hgd : o.guard = none) (sx xx : Operand)
    (ho : o.op = .call { callee := .builtin .append, args := #[sx, xx], argTypes := #[22, 22] }) {base K n cap c : Nat} {ta ra : Option Addr} {bs x : List Int} (hs : ac.eval sx = .slice ta K cap) (hxx : ac.eval xx = .slice ra n c)
    (hown : w.ownsRow base 5 1 (.slice ta K cap) K (bvs bs)) (hbs : base ≤ w.heap.size) (hx : BytesAt w ra x) (hn : x.length = n) (hK : K ≤ 10000000) (hn2 : n ≤ 1000000)
    (h : ∀ a' cap' w', w'.ownsRow base 5 1 (.slice a' (K + n) cap') (K + n) (bvs (bs ++ x)) → Fx (fun k => (Value.slice ta K cap).ownBlock = some k) w w' →
      ((Value.slice a' (K + n) cap').ownBlock = (Value.slice ta K cap).ownBlock ∨ ∃ g, (Value.slice a' (K + n) cap').ownBlock = some g ∧ w.heap.size ≤ g) → wpList Tryd.prog ops Q rest (ac.put o.dst (.slice a' (K + n) cap')) w') : wpList Tryd.prog ops Q (o :: rest) ac w :=
  wpList_plain hgd fun _ hK' => by
    obtain ⟨a', cap', w', hr, h2, h3, h4⟩ := app_run2 (c := c) o.type hown hbs hx hn hK hn2
    unfold Oper.wp execOp
    simp only [ho, resolve, invoke, builtin, Sem.run_bind, Sem.run_pure, Result.andThen_ok, List.map_toArray, List.map_cons, List.map_nil, hs, hxx, hr]
    exact hK' _ _ (h a' cap' w' h2 h3 h4)
/-- bytes behind them, as a step of a plain region -/
theorem app_bs {ops : Array Oper} {rest : List Oper} {o : Oper} {ac : Go.Act} {w0 w : World} {Q : Exit → Go.Act → World → Prop} (hgd : o.guard = none) (sx xx : Operand)
    (ho : o.op = .call { callee := .builtin .append, args := #[sx, xx], argTypes := #[22, 22] }) {base K n cap c : Nat} {ta ra : Option Addr} {bs x : List Int} (hs : ac.eval sx = .slice ta K cap) (hxx : ac.eval xx = .slice ra n c)
    (h0 : BO w0 base ta K cap bs) (hbs : base ≤ w0.heap.size) (hW : Out 0 0 w0 w) (hx : BytesAt w ra x) (hn : x.length = n) (hK : K ≤ 10000000) (hn2 : n ≤ 1000000)
    (h : ∀ a' cap' w', BO w' base a' (K + n) cap' (bs ++ x) → RS w0 (ob ta K cap) w' (ob a' (K + n) cap') → wpList Tryd.prog ops Q rest (ac.put o.dst (.slice a' (K + n) cap')) w') : wpList Tryd.prog ops Q (o :: rest) ac w :=
  app_step2 hgd sx xx ho hs hxx (h0.kept hW).2 (Nat.le_trans hbs hW.size) hx hn hK hn2 fun a' cap' w' q1 q2 q3 => h a' cap' w' ⟨by rw [List.length_append, h0.1, hn], q1⟩ ((RS.of_out _ hW).trans ⟨q2, q3⟩)
/-- which operand, in the document's numbers -/
def roV (op : Int) : Int := if opS op = 3 then 2 else if opS op = 4 then 3 else if opS op = 2 then 1 else if opS op = 1 then 0 else 4
theorem rbetween_any (w : World) (n lo hi : Int) : Calls Tryd.prog 43 #[.int .i64 n, .int .i64 lo, .int .i64 hi] w fun e w' => e = .returned (.bool (decide (lo ≤ n ∧ n ≤ hi))) ∧ w' = w := by
  by_cases h1 : lo ≤ n
  · by_cases h2 : n ≤ hi
    · have e1 : decide (lo ≤ n) = true := by simpa using h1
      have e2 : decide (n ≤ hi) = true := by simpa using h2
      have e3 : decide (lo ≤ n ∧ n ≤ hi) = true := by simp [h1, h2]
      rw [e3]
      clear h1 h2 e3
      go_enter Tryd.func43, Tryd.ntmps43
      go_wp2
      go_ret
      exact ⟨rfl, rfl⟩
    · have e1 : decide (lo ≤ n) = true := by simpa using h1
      have e2 : decide (n ≤ hi) = false := by simpa using h2
      have e3 : decide (lo ≤ n ∧ n ≤ hi) = false := by simp [h2]
      rw [e3]
      clear h1 h2 e3
      go_enter Tryd.func43, Tryd.ntmps43
      go_wp2
      go_ret
      exact ⟨rfl, rfl⟩
  · have e1 : decide (lo ≤ n) = false := by simpa using h1
    have e3 : decide (lo ≤ n ∧ n ≤ hi) = false := by simp [h1]
    rw [e3]
    clear h1 e3
    go_enter Tryd.func43, Tryd.ntmps43
    go_wp2
    go_ret
    exact ⟨rfl, rfl⟩
theorem opS_cases (op : Int) : (op = 1 ∧ roV op = 2) ∨ (op = 5 ∧ roV op = 3) ∨ ((op == 1) = false ∧ (op == 5) = false ∧ ((decide (2 ≤ op) = true ∧ decide (op ≤ 10) = true ∧ roV op = 1) ∨ (decide (14 ≤ op) = true ∧ decide (op ≤ 18) = true ∧ decide (op ≤ 10) = false ∧ decide (2 ≤ op) = true ∧ roV op = 1) ∨ (decide (2 ≤ op) = true ∧ decide (op ≤ 10) = false ∧ decide (14 ≤ op) = false ∧ decide (11 ≤ op) = true ∧ decide (op ≤ 13) = true ∧ roV op = 0) ∨ (decide (2 ≤ op) = true ∧ decide (op ≤ 10) = false ∧ decide (14 ≤ op) = true ∧ decide (op ≤ 18) = false ∧ decide (11 ≤ op) = true ∧ decide (op ≤ 13) = false ∧ decide (19 ≤ op) = true ∧ decide (op ≤ 22) = true ∧ roV op = 0) ∨ (decide (2 ≤ op) = true ∧ decide (op ≤ 10) = false ∧ decide (14 ≤ op) = true ∧ decide (op ≤ 18) = false ∧ decide (11 ≤ op) = true ∧ decide (op ≤ 13) = false ∧ decide (19 ≤ op) = true ∧ decide (op ≤ 22) = false ∧ decide (30 ≤ op) = true ∧ decide (op ≤ 75) = true ∧ roV op = 0) ∨ (decide (2 ≤ op) = true ∧ decide (op ≤ 10) = false ∧ decide (14 ≤ op) = true ∧ decide (op ≤ 18) = false ∧ decide (11 ≤ op) = true ∧ decide (op ≤ 13) = false ∧ decide (19 ≤ op) = true ∧ decide (op ≤ 22) = false ∧ decide (30 ≤ op) = true ∧ decide (op ≤ 75) = false ∧ roV op = 4) ∨ (decide (2 ≤ op) = true ∧ decide (op ≤ 10) = false ∧ decide (14 ≤ op) = true ∧ decide (op ≤ 18) = false ∧ decide (11 ≤ op) = true ∧ decide (op ≤ 13) = false ∧ decide (19 ≤ op) = true ∧ decide (op ≤ 22) = false ∧ decide (30 ≤ op) = false ∧ roV op = 4) ∨ (decide (2 ≤ op) = false ∧ decide (14 ≤ op) = false ∧ decide (11 ≤ op) = false ∧ decide (19 ≤ op) = false ∧ decide (30 ≤ op) = false ∧ roV op = 4))) := by
  simp only [decide_eq_true_eq, decide_eq_false_iff_not, beq_eq_false_iff_ne, ne_eq]
  unfold roV opS
  by_cases h1 : op = 1
  · left; subst h1; simp
  by_cases h5 : op = 5
  · right; left; subst h5; simp
  right; right
  refine ⟨h1, h5, ?_⟩
  rw [if_neg h1, if_neg h5]
  split <;> rename_i h
  · simp; omega
  · split <;> rename_i h'
    · simp; omega
    · simp; omega
set_option maxRecDepth 100000 in
theorem roperand_any (w : World) (op : Int) : Calls Tryd.prog 45 #[.int .i64 op] w fun e w' => e = .returned (.int .i64 (roV op)) ∧ w' = w := by
  rcases opS_cases op with ⟨rfl, h⟩ | ⟨rfl, h⟩ | ⟨q1, q5, h | h | h | h | h | h | h | h⟩
  · rw [h]; clear h
    go_enter Tryd.func45, Tryd.ntmps45
    go_wp2
    go_ret
    exact ⟨rfl, rfl⟩
  · rw [h]; clear h
    go_enter Tryd.func45, Tryd.ntmps45
    go_wp2
    go_ret
    exact ⟨rfl, rfl⟩
  · obtain ⟨h1, h2, h⟩ := h
    rw [h]; clear h
    go_enter Tryd.func45, Tryd.ntmps45
    go_wp2
    go_ret
    exact ⟨rfl, rfl⟩
  · obtain ⟨h1, h2, h3, h4, h⟩ := h
    rw [h]; clear h
    go_enter Tryd.func45, Tryd.ntmps45
    go_wp2
    go_ret
    exact ⟨rfl, rfl⟩
  · obtain ⟨h1, h2, h3, h4, h5, h⟩ := h
    rw [h]; clear h
    go_enter Tryd.func45, Tryd.ntmps45
    go_wp2
    go_ret
    exact ⟨rfl, rfl⟩
  · obtain ⟨h1, h2, h3, h4, h5, h6, h7, h8, h⟩ := h
    rw [h]; clear h
    go_enter Tryd.func45, Tryd.ntmps45
    go_wp2
    go_ret
    exact ⟨rfl, rfl⟩
  · obtain ⟨h1, h2, h3, h4, h5, h6, h7, h8, h9, h10, h⟩ := h
    rw [h]; clear h
    go_enter Tryd.func45, Tryd.ntmps45
    go_wp2
    go_ret
    exact ⟨rfl, rfl⟩
  · obtain ⟨h1, h2, h3, h4, h5, h6, h7, h8, h9, h10, h⟩ := h
    rw [h]; clear h
    go_enter Tryd.func45, Tryd.ntmps45
    go_wp2
    go_ret
    exact ⟨rfl, rfl⟩
  · obtain ⟨h1, h2, h3, h4, h5, h6, h7, h8, h9, h⟩ := h
    rw [h]; clear h
    go_enter Tryd.func45, Tryd.ntmps45
    go_wp2
    go_ret
    exact ⟨rfl, rfl⟩
  · obtain ⟨h1, h2, h3, h4, h5, h⟩ := h
    rw [h]; clear h
    go_enter Tryd.func45, Tryd.ntmps45
    go_wp2
    go_ret
    exact ⟨rfl, rfl⟩
end Go.Proofs.YtapjfokkcgdhhaaDoor
namespace Go.Proofs.YtapjfokkcgdhhaaDoor
open Go.RowKit
set_option linter.unusedVariables false
set_option linter.unusedSimpArgs false

def ocs {α : Type} : Sum (Int × Nat) (α × Nat) → Sum (Int × Nat) Nat
  | .inl x => .inl x
  | .inr v => .inr v.2
def ocn : Sum (Int × Nat) (Nat × Nat) → Nat
  | .inl _ => 0
  | .inr v => v.1
/-- what a number's reading leaves -/
def RNQ (w : World) (p B : Nat) (ba : Option Addr) (n c : Nat) (bs : List Int) (R : Sum (Int × Nat) (Nat × Nat)) (e : Ending) (w' : World) : Prop := e = .returned (.int .i64 (ocn R : Nat)) ∧ RQ w' p B ba n c bs (ocs R) ∧ Fx (fun k => k = p) w w'
theorem num_rowX {lo hi a i : Nat} {bs : List Int} (hl : lead 9 (bs.drop a) = i) (h9 : i < 9) (hn : a + i < bs.length) : rowR bs a = .inr ((bs.drop a).take (i + 1), a + (i + 1)) := by
  unfold rowR
  rw [if_pos (by rw [hl]; omega), hl]
theorem num_okX {lo hi a i : Nat} {bs : List Int} (hl : lead 9 (bs.drop a) = i) (h9 : i < 9) (hn : a + i < bs.length) (hk : okRow lo hi ((bs.drop a).take (i + 1))) : numR lo hi bs a = .inr (valN ((bs.drop a).take (i + 1)), a + (i + 1)) := by
  unfold numR
  rw [bnd_ok (chk_ok (num_rowX (lo := lo) (hi := hi) hl h9 hn) hk)]
  rfl
theorem num_noX {lo hi a i : Nat} {bs : List Int} (hl : lead 9 (bs.drop a) = i) (h9 : i < 9) (hn : a + i < bs.length) (hk : ¬ okRow lo hi ((bs.drop a).take (i + 1))) : numR lo hi bs a = .inl (60, a) := by
  unfold numR
  rw [bnd_err (chk_no (num_rowX (lo := lo) (hi := hi) hl h9 hn) hk)]
theorem num_endX {lo hi a i : Nat} {bs : List Int} (hl : i ≤ lead 9 (bs.drop a)) (h9 : i < 9) (hn : a + i = bs.length) : numR lo hi bs a = .inl (61, bs.length) := by
  have h1 := (lead_le 9 (bs.drop a)).2
  rw [List.length_drop] at h1
  have e : rowR bs a = .inl (61, bs.length) := by
    unfold rowR
    rw [if_neg (by omega), if_pos (by omega)]
  unfold numR
  rw [bnd_err (chk_err e)]
theorem num_nineX {lo hi a : Nat} {bs : List Int} (hl : 9 ≤ lead 9 (bs.drop a)) : numR lo hi bs a = .inl (60, a) := by
  have h1 := (lead_le 9 (bs.drop a)).2
  have h2 := (lead_le 9 (bs.drop a)).1
  rw [List.length_drop] at h1
  have e : rowR bs a = .inl (60, a) := by
    unfold rowR
    rw [if_neg (by omega), if_neg (by omega)]
  unfold numR
  rw [bnd_err (chk_err e)]
theorem pw_le {i : Nat} (h : i ≤ 8) : (128 : Nat) ^ i ≤ 72057594037927936 := by
  have : i = 0 ∨ i = 1 ∨ i = 2 ∨ i = 3 ∨ i = 4 ∨ i = 5 ∨ i = 6 ∨ i = 7 ∨ i = 8 := by omega
  rcases this with rfl | rfl | rfl | rfl | rfl | rfl | rfl | rfl | rfl <;> decide
theorem vn_lt {bs : List Int} {i : Nat} (hB : Byt bs) (h : i ≤ 9) : valN (bs.take i) ≤ 9223372036854775807 := by
  have h1 := valN_lt (bs.take i) (hB.take i)
  have h2 : (128 : Nat) ^ (bs.take i).length ≤ 128 ^ 9 := Nat.pow_le_pow_right (by omega) (by rw [List.length_take]; omega)
  have h3 : (128 : Nat) ^ 9 = 9223372036854775808 := by decide
  omega
theorem last_of {bs : List Int} {i : Nat} {b : Int} (h : bs[i]? = some b) : (bs.take (i + 1)).getLast? = some b ∧ (bs.take (i + 1)).length = i + 1 := by
  have hi := (List.getElem?_eq_some_iff.1 h).1
  refine ⟨?_, by rw [List.length_take]; omega⟩
  rw [List.getLast?_eq_getElem?, List.length_take, List.getElem?_take, if_pos (by omega), show min (i + 1) bs.length - 1 = i by omega, h]
theorem byte_in {w : World} {B : Nat} {A : Option Addr} {bs : List Int} {a : Nat} {b : Int} (h : ByIn w B A ((bs.drop a).take 1)) (hb : bs[a]? = some b) : ∃ g off, A = some ⟨g, off, none⟩ ∧ w.cell? ⟨g, off, none⟩ = some (.int .u8 b) ∧ 0 ≤ b ∧ b ≤ 255 := by
  have e : (bs.drop a).take 1 = [b] := by
    rw [List.drop_eq_getElem?_toList_append, hb]
    rfl
  rw [e] at h
  rcases h.2 with q | ⟨g, off, q, _, h3⟩
  · cases q
  · exact ⟨g, off, q, h3 0 b rfl, h.1 b (by simp)⟩
theorem ok_of {lo hi N2 : Nat} {x y : Int} {row : List Int} (hx : x = lo) (hy : y = hi) (hN : valN row = N2) (h0 : row.length = 1 ∨ row.getLast? ≠ some 0) (h : x ≤ (N2 : Int) ∧ (N2 : Int) ≤ y) : okRow lo hi row := ⟨h0, by rw [hN]; have := h.1; omega, by rw [hN]; have := h.2; omega⟩
theorem no_of {lo hi N2 : Nat} {x y : Int} {row : List Int} (hx : x = lo) (hy : y = hi) (hN : valN row = N2) (h : ¬ (x ≤ (N2 : Int) ∧ (N2 : Int) ≤ y)) : ¬ okRow lo hi row := by
  rintro ⟨-, h1, h2⟩
  rw [hN] at h1 h2
  exact h (by omega)
theorem up_w9 {h : Nat} (hh : h < 9) : wrap64 ((h : Int) + 1) = ((h + 1 : Nat) : Int) := by unfold wrap64; omega
theorem up_v9 {h : Nat} (hh : h < 9) : Value.int .i64 (wrap64 ((h : Int) + 1)) = .int .i64 ((h + 1 : Nat) : Int) := by rw [up_w9 hh]
theorem ms_9 {k : Nat} (h : k < 9) : 9 - (intOf (.int .i64 ((k + 1 : Nat) : Int))).toNat < 9 - (intOf (.int .i64 (k : Int))).toNat := by simp [intOf]; omega
/-- where the loop of number is -/
def NS (w wr : World) (p B : Nat) (ba : Option Addr) (n c : Nat) (bs : List Int) (a i : Nat) : Prop := RQ wr p B ba n c bs (.inr (a + i)) ∧ Fx (fun k => k = p) w wr ∧ i ≤ lead 9 (bs.drop a)
set_option maxRecDepth 100000 in
set_option maxHeartbeats 1000000 in
theorem rnumber_any {w : World} {p B : Nat} {ba : Option Addr} {n c : Nat} {bs : List Int} {a : Nat} (h : RQ w p B ba n c bs (.inr a)) (lo hi : Nat) (x y : Int) (hx : x = lo) (hy : y = hi) :
    Calls Tryd.prog 31 #[.pointer (some ⟨p, 0, none⟩), .int .i64 x, .int .i64 y] w (RNQ w p B ba n c bs (numR lo hi bs a)) := by
  have k1 := h.2.2.2.2.2.2.cell (i := 1) rfl
  have HH : Hid (bs.length = n ∧ Byt bs ∧ n ≤ 65536 ∧ x = lo ∧ y = hi) := hid_mk ⟨h.2.1, h.1.1, h.2.2.2.2.1, hx, hy⟩
  have HS : Hid (NS w w p B ba n c bs a 0) := hid_mk ⟨h, Fx.refl _ _, Nat.zero_le _⟩
  clear h hx hy
  go_enter Tryd.func31, Tryd.ntmps31
  go_wp2
  clear k1
  go_loopw [8, 9, 10] (fun nv uv iv wr => ∃ (i : Nat), iv = .int .i64 i ∧ i ≤ 9 ∧ nv = .int .i64 (valN ((bs.drop a).take i) : Nat) ∧ uv = .int .i64 ((128 ^ (min i 8) : Nat) : Int) ∧ NS w wr p B ba n c bs a i) (fun _ _ iv _ => 9 - (intOf iv).toNat)
  case atStart => exact ⟨0, rfl, by omega, rfl, rfl, HS.out⟩
  case round =>
    obtain ⟨i, rfl, hi9, rfl, rfl, hS⟩ := hrel
    have k3 := hS.1.2.2.2.2.2.2.cell (i := 3) rfl
    by_cases hgo : i < 9
    · have l1 : decide ((i : Int) < 9) = true := by simp; omega
      have HI : Hid (i < 9 ∧ NS w wr p B ba n c bs a i) := hid_mk ⟨hgo, hS⟩
      obtain ⟨N, hN⟩ : ∃ N, valN ((bs.drop a).take i) = N := ⟨_, rfl⟩
      obtain ⟨U, hU⟩ : ∃ U, 128 ^ (min i 8) = U := ⟨_, rfl⟩
      rw [hN, hU]
      by_cases hin : a + i < n
      · have HP := hid_mk (rpart_go hS.1 1 (by omega))
        have HNU : Hid (valN ((bs.drop a).take i) = N ∧ 128 ^ (min i 8) = U ∧ a + i < n) := hid_mk ⟨hN, hU, hin⟩
        clear hS hi9 hgo hN hU hin
        go_wp2_with (go_at_call 29; refine HP.out.mono ?_)
        rintro e w2 ⟨A', C', rfl, hC, hB2, hR2, x2⟩
        obtain ⟨hn, hBt, hn6, hx, hy⟩ := HH.out
        obtain ⟨hi9, hS⟩ := HI.out
        obtain ⟨hN, hU, hin⟩ := HNU.out
        obtain ⟨b, hb⟩ : ∃ b, bs[a + i]? = some b := ⟨_, List.getElem?_eq_getElem (by omega)⟩
        obtain ⟨g, off, rfl, c1, hb0, hb1⟩ := byte_in hB2 hb
        have hbd : (bs.drop a)[i]? = some b := by rw [List.getElem?_drop]; exact hb
        have j3 := hR2.2.2.2.2.2.2.cell (i := 3) rfl
        have hvu := valN_up hbd
        have hvl := vn_lt (i := i + 1) (hBt.drop a) (by omega)
        rw [show 128 ^ i = U by rw [← hU]; congr 1; omega] at hvu
        rw [hN] at hvu
        obtain ⟨d, hd⟩ : ∃ d, (b % 128).toNat = d := ⟨_, rfl⟩
        rw [hd] at hvu
        obtain ⟨N2, hN2⟩ : ∃ N2, valN ((bs.drop a).take (i + 1)) = N2 := ⟨_, rfl⟩
        obtain ⟨Z, hZ⟩ : ∃ Z, d * U = Z := ⟨_, rfl⟩
        rw [hN2, hZ] at hvu
        rw [hN2] at hvl
        have m1 : Int.tmod b 128 = (d : Int) := by rw [Int.tmod_eq_emod_of_nonneg hb0]; omega
        have m2 : wrap64 ((d : Int) * (U : Int)) = (Z : Int) := by rw [← Int.natCast_mul, hZ]; unfold wrap64; omega
        have m3 : wrap64 ((N : Int) + (Z : Int)) = (N2 : Int) := by rw [hvu]; unfold wrap64; omega
        have m4 : IntKind.i64.wrap b = b := by simp [IntKind.wrap, IntKind.signed, IntKind.bits]; omega
        have m5 : wrap64 b = b := by unfold wrap64; omega
        by_cases hlt : b < 128
        · have l2 : decide (b < 128) = true := by simpa using hlt
          have hst := lead_stop hS.2.2 hbd hlt
          have hal : a + i < bs.length := hn ▸ hin
          have hla := last_of hbd
          have hHN : Hid (lead 9 (bs.drop a) = i ∧ a + i < bs.length ∧ valN ((bs.drop a).take (i + 1)) = N2 ∧ ((bs.drop a).take (i + 1)).getLast? = some b ∧ ((bs.drop a).take (i + 1)).length = i + 1) := hid_mk ⟨hst, by omega, hN2, hla⟩
          by_cases hz : b = 0 ∧ 0 < i
          · obtain ⟨rfl, hi0⟩ := hz
            have l3 : decide (0 < (i : Int)) = true := by simp; omega
            have l3' : decide (0 < i) = true := by simpa using hi0
            have hno := num_noX (lo := lo) (hi := hi) hst hi9 hal (by rintro ⟨h1 | h1, -⟩; (· omega); (· exact h1 hla.1))
            have HNo : Hid (numR lo hi bs a = .inl (60, a) ∧ Fx (fun k => k = p) w w2) := hid_mk ⟨hno, hS.2.1.trans x2⟩
            have HBd := hid_mk (rbad_ok hR2 60 (by decide) a)
            clear hn hBt hn6 hx hy hi9 hS hN hU hin hb hbd hvu hvl hd hN2 hZ hlt hB2 hC hb0 hb1 x2 hst hla hal HNU HP hno hR2 hi0
            go_wp2_with (go_at_call 30; refine HBd.out.mono ?_; rintro r w4 ⟨rfl, h4, x4⟩; have HE := hid_mk (And.intro h4 x4); clear h4 x4)
            go_ret
            rw [HNo.out.1]
            exact ⟨rfl, HE.out.1, HNo.out.2.trans HE.out.2⟩
          · by_cases hb00 : b = 0
            · have hi0 : i = 0 := Nat.eq_zero_of_not_pos fun q => hz ⟨hb00, q⟩
              have l3 : decide (0 < (i : Int)) = false := by rw [hi0]; rfl
              have l3' : decide (0 < i) = false := by rw [hi0]; rfl
              subst hb00
              by_cases hbt : x ≤ (N2 : Int) ∧ (N2 : Int) ≤ y
              · have e3 : decide (x ≤ (N2 : Int) ∧ (N2 : Int) ≤ y) = true := by simpa using hbt
                have hyes := num_okX (lo := lo) (hi := hi) hst hi9 hal (ok_of hx hy hN2 (.inl (by rw [hla.2, hi0])) hbt)
                rw [hN2] at hyes
                have HE : Hid (numR lo hi bs a = .inr (N2, a + (i + 1)) ∧ RQ w2 p B ba n c bs (.inr (a + (i + 1))) ∧ Fx (fun k => k = p) w w2) := hid_mk ⟨hyes, hR2, hS.2.1.trans x2⟩
                clear hn hBt hn6 hx hy hi9 hS hN hU hin hb hbd hvu hvl hd hN2 hZ hlt hB2 hC hb0 hb1 x2 hst hla hal HNU HP hbt hyes hR2
                go_wp2_with (go_at_call 43; refine (rbetween_any _ _ _ _).mono ?_; rintro e w3 ⟨rfl, rfl⟩; rw [e3])
                go_ret
                rw [HE.out.1]
                exact ⟨rfl, HE.out.2⟩
              · have e3 : decide (x ≤ (N2 : Int) ∧ (N2 : Int) ≤ y) = false := by simpa using hbt
                have hno := num_noX (lo := lo) (hi := hi) hst hi9 hal (no_of hx hy hN2 hbt)
                have HNo : Hid (numR lo hi bs a = .inl (60, a) ∧ Fx (fun k => k = p) w w2) := hid_mk ⟨hno, hS.2.1.trans x2⟩
                have HBd := hid_mk (rbad_ok hR2 60 (by decide) a)
                clear hn hBt hn6 hx hy hi9 hS hN hU hin hb hbd hvu hvl hd hN2 hZ hlt hB2 hC hb0 hb1 x2 hst hla hal HNU HP hbt hno hR2
                go_wp2_with (first | (go_at_call 43; refine (rbetween_any _ _ _ _).mono ?_; rintro e w3 ⟨rfl, rfl⟩; rw [e3]) | (go_at_call 30; refine HBd.out.mono ?_; rintro r w4 ⟨rfl, h4, x4⟩; have HE := hid_mk (And.intro h4 x4); clear h4 x4))
                go_ret
                rw [HNo.out.1]
                exact ⟨rfl, HE.out.1, HNo.out.2.trans HE.out.2⟩
            · have l3 : (b == 0) = false := by simpa using hb00
              have l4 : decide (b = 0) = false := by simpa using hb00
              by_cases hbt : x ≤ (N2 : Int) ∧ (N2 : Int) ≤ y
              · have e3 : decide (x ≤ (N2 : Int) ∧ (N2 : Int) ≤ y) = true := by simpa using hbt
                have hyes := num_okX (lo := lo) (hi := hi) hst hi9 hal (ok_of hx hy hN2 (.inr (by rw [hla.1]; intro q; cases q; exact hb00 rfl)) hbt)
                rw [hN2] at hyes
                have HE : Hid (numR lo hi bs a = .inr (N2, a + (i + 1)) ∧ RQ w2 p B ba n c bs (.inr (a + (i + 1))) ∧ Fx (fun k => k = p) w w2) := hid_mk ⟨hyes, hR2, hS.2.1.trans x2⟩
                clear hn hBt hn6 hx hy hi9 hS hN hU hin hb hbd hvu hvl hd hN2 hZ hlt hB2 hC hb0 hb1 x2 hst hla hal HNU HP hbt hyes hR2
                go_wp2_with (go_at_call 43; refine (rbetween_any _ _ _ _).mono ?_; rintro e w3 ⟨rfl, rfl⟩; rw [e3])
                go_ret
                rw [HE.out.1]
                exact ⟨rfl, HE.out.2⟩
              · have e3 : decide (x ≤ (N2 : Int) ∧ (N2 : Int) ≤ y) = false := by simpa using hbt
                have hno := num_noX (lo := lo) (hi := hi) hst hi9 hal (no_of hx hy hN2 hbt)
                have HNo : Hid (numR lo hi bs a = .inl (60, a) ∧ Fx (fun k => k = p) w w2) := hid_mk ⟨hno, hS.2.1.trans x2⟩
                have HBd := hid_mk (rbad_ok hR2 60 (by decide) a)
                clear hn hBt hn6 hx hy hi9 hS hN hU hin hb hbd hvu hvl hd hN2 hZ hlt hB2 hC hb0 hb1 x2 hst hla hal HNU HP hbt hno hR2
                go_wp2_with (first | (go_at_call 43; refine (rbetween_any _ _ _ _).mono ?_; rintro e w3 ⟨rfl, rfl⟩; rw [e3]) | (go_at_call 30; refine HBd.out.mono ?_; rintro r w4 ⟨rfl, h4, x4⟩; have HE := hid_mk (And.intro h4 x4); clear h4 x4))
                go_ret
                rw [HNo.out.1]
                exact ⟨rfl, HE.out.1, HNo.out.2.trans HE.out.2⟩
        · have l2 : decide (b < 128) = false := by simpa using hlt
          have hup := lead_up hS.2.2 hi9 hbd (by omega)
          have HE : Hid (i < 9 ∧ valN ((bs.drop a).take (i + 1)) = N2 ∧ NS w w2 p B ba n c bs a (i + 1)) := hid_mk ⟨hi9, hN2, hR2, hS.2.1.trans x2, hup⟩
          by_cases h8 : i < 8
          · have l5 : decide ((i : Int) < 8) = true := by simp; omega
            obtain ⟨U2, hU2⟩ : ∃ U2, U * 128 = U2 := ⟨_, rfl⟩
            have hp : 128 ^ (min (i + 1) 8) = U2 := by rw [← hU2, ← hU, show min i 8 = i by omega, show min (i + 1) 8 = i + 1 by omega, Nat.pow_succ]
            have hp8 := pw_le (i := min (i + 1) 8) (by omega)
            rw [hp] at hp8
            have m6 : wrap64 ((U : Int) * 128) = (U2 : Int) := by rw [← hU2]; unfold wrap64; omega
            have HU2 := hid_mk hp
            clear hn hBt hn6 hx hy hi9 hS hN hU hin hb hbd hvu hvl hd hN2 hZ hlt hB2 hC hb0 hb1 x2 HNU HP hup hR2 hU2 hp hp8 h8
            go_wp2
            exact ⟨⟨i + 1, up_v9 HE.out.1, HE.out.1, by rw [HE.out.2.1, m3], by first | rw [HU2.out, m6] | rw [HU2.out], HE.out.2.2⟩, by rw [up_w9 HE.out.1]; exact ms_9 HE.out.1⟩
          · have l5 : decide ((i : Int) < 8) = false := by simp; omega
            have hp : 128 ^ (min (i + 1) 8) = U := by rw [← hU, show min i 8 = 8 by omega, show min (i + 1) 8 = 8 by omega]
            have HU2 := hid_mk hp
            clear hn hBt hn6 hx hy hi9 hS hN hU hin hb hbd hvu hvl hd hN2 hZ hlt hB2 hC hb0 hb1 x2 HNU HP hup hR2 hp h8
            go_wp2
            exact ⟨⟨i + 1, up_v9 HE.out.1, HE.out.1, by rw [HE.out.2.1, m3], by first | rw [HU2.out, m6] | rw [HU2.out], HE.out.2.2⟩, by rw [up_w9 HE.out.1]; exact ms_9 HE.out.1⟩
      · have HP := hid_mk (rpart_end hS.1 1 (by omega))
        have HNo : Hid (numR lo hi bs a = .inl (61, n) ∧ Fx (fun k => k = p) w wr) := hid_mk ⟨by rw [num_endX (lo := lo) (hi := hi) hS.2.2 hgo (by have := HH.out.1; have := hS.1.2.2.2.2.2.1; omega), HH.out.1], hS.2.1⟩
        clear hS hi9 hgo hN hU hin
        go_wp2_with (go_at_call 29; refine HP.out.mono ?_)
        rintro e w2 ⟨rfl, hR2, x2⟩
        have HE := hid_mk (And.intro hR2 x2)
        obtain ⟨-, -, -, -, -, -, a2, -, b7⟩ := hR2
        have j3 : w2.cell? ⟨p, 3, none⟩ = some (.int .i64 61) := b7.cell (i := 3) rfl
        clear b7 x2 k3
        go_wp2
        go_ret
        rw [HNo.out.1]
        exact ⟨rfl, HE.out.1, HNo.out.2.trans HE.out.2⟩
    · obtain rfl : i = 9 := by omega
      have HBd := hid_mk (rbad_ok hS.1 60 (by decide) a)
      have HNo : Hid (numR lo hi bs a = .inl (60, a) ∧ Fx (fun k => k = p) w wr) := hid_mk ⟨num_nineX hS.2.2, hS.2.1⟩
      clear hS hi9 hgo k3
      go_wp2_with (go_at_call 30; refine HBd.out.mono ?_; rintro r w4 ⟨rfl, h4, x4⟩; have HE := hid_mk (And.intro h4 x4); clear h4 x4)
      go_ret
      rw [HNo.out.1]
      exact ⟨rfl, HE.out.1, HNo.out.2.trans HE.out.2⟩
end Go.Proofs.YtapjfokkcgdhhaaDoor
