/- the law of chapter 10: lent -/
import Derived.Test.YtghlbdmldahnlaaGreatDoorGsg
namespace Go.Proofs.YtghlbdmldahnlaaGreatDoor
open Go.RowKit
set_option linter.unusedVariables false
set_option linter.unusedSimpArgs false

/-- a copy with a mark behind it, stored in a box -/
theorem cm_end {wr V0 X1 w2 : World} {G base n p1 g2 p2 c s : Nat} {a1 : Option Addr} {cells : Array Value} {E : TypeId} {mk l : List Int} (bG : Bl V0 G cells 37) (o0 : Out 0 0 wr V0) (hG : wr.heap.size ≤ G) (oQ : Out 0 0 V0 X1) (q1 : X1.ownsRow base E s (.slice a1 n p1) n (ivs l)) (hb : V0.heap.size ≤ base) (q2 : w2.ownsRow base E s (.slice (some ⟨g2, 0, none⟩) (n + 1) p2) (n + 1) (ivs l ++ ivs mk)) (x2 : Fx (fun k => (Value.slice a1 n p1).ownBlock = some k) X1 w2) (hl : l.length = n * s) :
    Bl (w2.setCell ⟨G, c, none⟩ (.slice (some ⟨g2, 0, none⟩) n p2)) G (cells.setIfInBounds c (.slice (some ⟨g2, 0, none⟩) n p2)) 37 ∧ Out 0 0 wr (w2.setCell ⟨G, c, none⟩ (.slice (some ⟨g2, 0, none⟩) n p2)) ∧ RL (w2.setCell ⟨G, c, none⟩ (.slice (some ⟨g2, 0, none⟩) n p2)) (G + 1) E s mk (.slice (some ⟨g2, 0, none⟩) n p2) l ∧
    ∀ (E' : TypeId) (s' : Nat) (mk' : List Int) (v' : Value) (l' : List Int), RL V0 (G + 1) E' s' mk' v' l' → RL (w2.setCell ⟨G, c, none⟩ (.slice (some ⟨g2, 0, none⟩) n p2)) (G + 1) E' s' mk' v' l' := by
  have hGl := bG.lt
  have hlo : ∀ k, (Value.slice a1 n p1).ownBlock = some k → base ≤ k := fun k hk => (own_ge q1 hk).1
  have hs : Fx (fun k => k = G) w2 (w2.setCell ⟨G, c, none⟩ (.slice (some ⟨g2, 0, none⟩) n p2)) := (Fx.refl (fun k => k = G) _).set (p := ⟨G, c, none⟩) (.inl rfl) _
  have B2 : Bl w2 G cells 37 := (bG.kept oQ (.inr (Nat.zero_le _))).fx x2 (fun ee => by have := hlo _ ee; omega)
  refine ⟨B2.set c _, out_fx (out_fx (o0.trans oQ) x2 (fun k hk => by have := hlo k hk; have := o0.size; omega)) hs (fun k hk => by omega), ⟨g2, p2, n, rfl, hl, ?_⟩, fun E' s' mk' v' l' h => ?_⟩
  · rw [ivs_app]
    exact own_fx (Go.Joins.ownsRow_le q2 (by omega)) hs (fun k hk e => by have := (own_ge q2 hk).1; omega)
  · refine ((h.quiet oQ).fx x2 (fun k hk e => ?_)).fx hs (fun k hk e => ?_)
    · have := (h.ob hk).2
      have := hlo k e
      omega
    · have := (h.ob hk).1
      omega
theorem LnAt.fx {Q : Nat → Prop} {w w' : World} {lo gn cn : Nat} {vs : List (Value × Value × Value)} {rv : Value} {ns : List (Int × Int × List Int × List Int × List Int)} {rs : List Int} (h : LnAt w lo gn cn vs rv ns rs) (x : Fx Q w w') (hQ : ∀ k, lo ≤ k → ¬ Q k) : LnAt w' lo gn cn vs rv ns rs :=
  ⟨own_fx h.1 x (fun k hk => hQ k (own_ge h.1 hk).1), h.2.1.fx x (fun j v n k z1 z2 z3 => hQ k ((h.2.1.2 j v n z1 z2).ob z3).1), h.2.2.fx x (fun k hk => hQ k (h.2.2.ob hk).1)⟩
theorem LnAt.low {w : World} {lo l2 gn cn : Nat} {vs : List (Value × Value × Value)} {rv : Value} {ns : List (Int × Int × List Int × List Int × List Int)} {rs : List Int} (h : LnAt w lo gn cn vs rv ns rs) (hl : l2 ≤ lo) : LnAt w l2 gn cn vs rv ns rs :=
  ⟨Go.Joins.ownsRow_le h.1 hl, ⟨h.2.1.1, fun j v n z1 z2 => ⟨(h.2.1.2 j v n z1 z2).1.low hl, (h.2.1.2 j v n z1 z2).2.1.low hl, (h.2.1.2 j v n z1 z2).2.2.low hl⟩⟩, h.2.2.low hl⟩
/-- the nodes are lent, their mark too -/
def LM (w wr : World) (b : Nat) (pc : Array Value) (ns : List (Int × Int × List Int × List Int × List Int)) (gn cn : Nat) (vs : List (Value × Value × Value)) : Prop :=
  L3 wr b pc #[.slice (some ⟨gn, 0, none⟩) ns.length cn, .slice none 0 0] ∧ wr.ownsRow (b + 3) 37 5 (.slice (some ⟨gn, 0, none⟩) (ns.length + 1) cn) (ns.length + 1) (ncl ns vs ++ [.int .i64 (-77), .int .i64 0, .slice none 0 0, .slice none 0 0, .slice none 0 0]) ∧ NL wr (b + 3) vs ns ∧ Out 0 0 w wr ∧ w.heap.size = b
section
variable {w wr : World} {b : Nat} {pc : Array Value} {ns : List (Int × Int × List Int × List Int × List Int)} {qa : Option Addr} {qk gn cn : Nat} {vs : List (Value × Value × Value)}
theorem LG.mark {w6 : World} (h : LG w wr b pc ns ns.length qa qk vs) (q1 : w6.ownsRow (b + 3) 37 5 (.slice (some ⟨gn, 0, none⟩) (ns.length + 1) cn) (ns.length + 1) (ncl (ns.take ns.length) vs ++ [.int .i64 (-77), .int .i64 0, .slice none 0 0, .slice none 0 0, .slice none 0 0])) (q2 : Fx (fun k => (Value.slice qa ns.length qk).ownBlock = some k) wr w6) :
    LM w (w6.setCell ⟨b + 1 + 1, 0, none⟩ (.slice (some ⟨gn, 0, none⟩) ns.length cn)) b pc ns gn cn vs := by
  obtain ⟨h1, h2, h3, h6, h7⟩ := h
  rw [List.take_length] at h2 h3 q1
  have hs : Fx (fun k => k = b + 2) w6 (w6.setCell ⟨b + 1 + 1, 0, none⟩ (.slice (some ⟨gn, 0, none⟩) ns.length cn)) := (Fx.refl (fun k => k = b + 2) _).set (p := ⟨b + 1 + 1, 0, none⟩) (.inl rfl) _
  have hlo : ∀ k, (Value.slice qa ns.length qk).ownBlock = some k → b + 3 ≤ k := fun k hk => (own_ge h2 hk).1
  have gT := h3.fx q2 (fun j' v' t' k z1 z2 z3 => (h3.2 j' v' t' z1 z2).other h2 z3)
  exact ⟨(h1.fx q2 (fun k hk e => by have := hlo k e; omega)).set _, own_fx q1 hs (fun k hk e => by have := (own_ge q1 hk).1; omega), gT.fx hs (fun j' v' t' k z1 z2 z3 e => by have := ((gT.2 j' v' t' z1 z2).ob z3).1; omega), out_fx (out_fx h6 q2 (fun k hk => by have := hlo k hk; omega)) hs (fun k hk => by omega), h7⟩
theorem LM.quiet {w2 : World} (h : LM w wr b pc ns gn cn vs) (o : Out 0 0 wr w2) : LM w w2 b pc ns gn cn vs :=
  ⟨h.1.quiet o, own_fx (S := fun _ => False) h.2.1 (Fx.of_out o) (fun _ _ q => q), h.2.2.1.quiet o, h.2.2.2.1.trans o, h.2.2.2.2⟩
theorem LM.done {X1 w2 : World} {base n p1 g2 p2 : Nat} {a1 : Option Addr} {l : List Int} (h : LM w wr b pc ns gn cn vs) (oQ : Out 0 0 wr X1) (q1 : X1.ownsRow base 33 2 (.slice a1 n p1) n (ivs l)) (hb : wr.heap.size ≤ base) (q2 : w2.ownsRow base 33 2 (.slice (some ⟨g2, 0, none⟩) (n + 1) p2) (n + 1) (ivs l ++ ivs [77, 0])) (x2 : Fx (fun k => (Value.slice a1 n p1).ownBlock = some k) X1 w2) (hl : l.length = n * 2) :
    L3 (w2.setCell ⟨b + 1 + 1, 1, none⟩ (.slice (some ⟨g2, 0, none⟩) n p2)) b pc #[.slice (some ⟨gn, 0, none⟩) ns.length cn, .slice (some ⟨g2, 0, none⟩) n p2] ∧ LnAt (w2.setCell ⟨b + 1 + 1, 1, none⟩ (.slice (some ⟨g2, 0, none⟩) n p2)) (b + 3) gn cn vs (.slice (some ⟨g2, 0, none⟩) n p2) ns l ∧ Out 0 0 w (w2.setCell ⟨b + 1 + 1, 1, none⟩ (.slice (some ⟨g2, 0, none⟩) n p2)) ∧ w.heap.size = b := by
  have hbl := h.1.2.2.lt
  have hlo : ∀ k, (Value.slice a1 n p1).ownBlock = some k → base ≤ k := fun k hk => (own_ge q1 hk).1
  obtain ⟨h1, h2, h3, h6, h7⟩ := h
  have hs : Fx (fun k => k = b + 2) w2 (w2.setCell ⟨b + 1 + 1, 1, none⟩ (.slice (some ⟨g2, 0, none⟩) n p2)) := (Fx.refl (fun k => k = b + 2) _).set (p := ⟨b + 1 + 1, 1, none⟩) (.inl rfl) _
  have g2' := own_fx (own_fx (S := fun _ => False) h2 (Fx.of_out oQ) (fun _ _ q => q)) x2 (fun k hk e => by have := (own_ge h2 hk).2; have := hlo k e; omega)
  have gT := (h3.quiet oQ).fx x2 (fun j' v' t' k z1 z2 z3 e => by have := ((h3.2 j' v' t' z1 z2).ob z3).2; have := hlo k e; omega)
  have gR : RL w2 (b + 3) 33 2 [77, 0] (.slice (some ⟨g2, 0, none⟩) n p2) l := ⟨g2, p2, n, rfl, hl, by rw [ivs_app]; exact Go.Joins.ownsRow_le q2 (by omega)⟩
  have hL : LnAt w2 (b + 3) gn cn vs (.slice (some ⟨g2, 0, none⟩) n p2) ns l := ⟨g2', gT, gR⟩
  exact ⟨((h1.quiet oQ).fx x2 (fun k hk e => by have := hlo k e; omega)).set _, hL.fx hs (fun k hk e => by omega), out_fx (out_fx (h6.trans oQ) x2 (fun k hk => by have := hlo k hk; have := h6.size; omega)) hs (fun k hk => by omega), h7⟩
end
theorem cutL6 {P : Program} {K : Go.Act → World → Prop} {Q : Exit → Go.Act → World → Prop} {x : Code} {a : Go.Act} {w : World} (F : Nat → Nat → World → Prop) (h1 : (∀ (v18 v19 v20 v21 v22 v23 v24 v25 v26 v27 : Value) (g p : Nat) (W : World), F g p W → K ((((((((((a.put (some 18) v18).put (some 19) v19).put (some 20) v20).put (some 21) v21).put (some 22) v22).put (some 23) v23).put (some 24) v24).put (some 25) v25).put (some 26) v26).put (some 27) v27) W) → x.wp P (Exit.then K Q) a w) (h2 : ∀ (v18 v19 v20 v21 v22 v23 v24 v25 v26 v27 : Value) (g p : Nat) (W : World), F g p W → K ((((((((((a.put (some 18) v18).put (some 19) v19).put (some 20) v20).put (some 21) v21).put (some 22) v22).put (some 23) v23).put (some 24) v24).put (some 25) v25).put (some 26) v26).put (some 27) v27) W) : x.wp P (Exit.then K Q) a w := h1 h2
theorem cutL7 {P : Program} {K : Go.Act → World → Prop} {Q : Exit → Go.Act → World → Prop} {x : Code} {a : Go.Act} {w : World} (F : Nat → Nat → World → Prop) (h1 : (∀ (v28 v29 v30 v31 v32 v33 v34 v35 v36 v37 v38 : Value) (g p : Nat) (W : World), F g p W → K (((((((((((a.put (some 28) v28).put (some 29) v29).put (some 30) v30).put (some 31) v31).put (some 32) v32).put (some 33) v33).put (some 34) v34).put (some 35) v35).put (some 36) v36).put (some 37) v37).put (some 38) v38) W) → x.wp P (Exit.then K Q) a w) (h2 : ∀ (v28 v29 v30 v31 v32 v33 v34 v35 v36 v37 v38 : Value) (g p : Nat) (W : World), F g p W → K (((((((((((a.put (some 28) v28).put (some 29) v29).put (some 30) v30).put (some 31) v31).put (some 32) v32).put (some 33) v33).put (some 34) v34).put (some 35) v35).put (some 36) v36).put (some 37) v37).put (some 38) v38) W) : x.wp P (Exit.then K Q) a w := h1 h2
theorem cutL8 {P : Program} {K : Go.Act → World → Prop} {Q : Exit → Go.Act → World → Prop} {x : Code} {a : Go.Act} {w : World} (F : Nat → Nat → World → Prop) (h1 : (∀ (v39 v40 v41 v42 v43 v44 v45 v46 v47 v48 v49 v50 : Value) (g p : Nat) (W : World), F g p W → K ((((((((((((a.put (some 39) v39).put (some 40) v40).put (some 41) v41).put (some 42) v42).put (some 43) v43).put (some 44) v44).put (some 45) v45).put (some 46) v46).put (some 47) v47).put (some 48) v48).put (some 49) v49).put (some 50) v50) W) → x.wp P (Exit.then K Q) a w) (h2 : ∀ (v39 v40 v41 v42 v43 v44 v45 v46 v47 v48 v49 v50 : Value) (g p : Nat) (W : World), F g p W → K ((((((((((((a.put (some 39) v39).put (some 40) v40).put (some 41) v41).put (some 42) v42).put (some 43) v43).put (some 44) v44).put (some 45) v45).put (some 46) v46).put (some 47) v47).put (some 48) v48).put (some 49) v49).put (some 50) v50) W) : x.wp P (Exit.then K Q) a w := h1 h2
set_option maxRecDepth 100000 in
set_option maxHeartbeats 4000000 in
theorem lent_any {w : World} {B : Nat} (hB : B ≤ w.heap.size) (ns : List (Int × Int × List Int × List Int × List Int)) (rs : List Int) (na ra : Option Addr) (nn nr cn cr : Nat) (h : GrIn w B na ra nn nr ns rs) :
    Calls Tryz.prog 6 #[.agg #[.slice na nn cn, .slice ra nr cr]] w (LnQ w ns rs) := by
  obtain ⟨b, hb⟩ : ∃ b, w.heap.size = b := ⟨_, rfl⟩
  have HL0 : Hid (LG w (((w.alloc (.cells #[.slice na nn cn, .slice ra nr cr] 25)).alloc (.cells #[.slice none 0 0, .slice none 0 0] 25)).alloc (.cells #[.slice none 0 0, .slice none 0 0] 25)) b #[.slice na nn cn, .slice ra nr cr] ns 0 none 0 []) := by
    refine hid_mk ⟨?_, World.ownsRow_nil _ _ _ 5, ⟨by simp, fun j v t q => by simp at q⟩, (((Out.refl 0 0 w).alloc _).alloc _).alloc _, hb⟩
    rw [← hb]
    refine ⟨((Bl.new _ _ _).alloc _).alloc _, ?_, ?_⟩
    · have := (Bl.new (w.alloc (.cells #[.slice na nn cn, .slice ra nr cr] 25)) #[.slice none 0 0, .slice none 0 0] 25).alloc (.cells #[.slice none 0 0, .slice none 0 0] 25)
      rwa [size_alloc] at this
    · have := Bl.new ((w.alloc (.cells #[.slice na nn cn, .slice ra nr cr] 25)).alloc (.cells #[.slice none 0 0, .slice none 0 0] 25)) #[.slice none 0 0, .slice none 0 0] 25
      rwa [size_alloc, size_alloc] at this
  have HH := hid_mk (And.intro hB h)
  have hnn : nn ≤ 200000 := by have := h.1; have := h.2.2.2.2.1.1; omega
  clear hB h
  go_enter Tryz.func6, Tryz.ntmps6
  go_wp2
  obtain ⟨V, hV⟩ : ∃ V, ((w.alloc (.cells #[.slice na nn cn, .slice ra nr cr] 25)).alloc (.cells #[.slice none 0 0, .slice none 0 0] 25)).alloc (.cells #[.slice none 0 0, .slice none 0 0] 25) = V := ⟨_, rfl⟩
  rw [hV] at HL0 ⊢
  clear hV hb
  go_loopw [4] (fun c wr => ∃ (i : Nat) (qa : Option Addr) (qk : Nat) (vs : List (Value × Value × Value)), c = .int .i64 i ∧ i ≤ nn ∧ LG w wr b #[.slice na nn cn, .slice ra nr cr] ns i qa qk vs) (fun c _ => nn - (intOf c).toNat)
  case atStart => exact ⟨0, none, 0, [], rfl, Nat.zero_le _, HL0.out⟩
  case round =>
    obtain ⟨i, qa, qk, vs, rfl, him, hS⟩ := hrel
    have HS := hid_mk hS
    have k1 := hS.1.1.cell (i := 0) rfl
    by_cases hgo : i < nn
    · obtain ⟨l1, l2⟩ := lt_d hgo
      have g1 := lt_i hgo
      obtain ⟨⟨a, k, r, f, e⟩, ha⟩ : ∃ x, ns[i]? = some x := ⟨_, List.getElem?_eq_getElem (by have := HH.out.2.1; omega)⟩
      have hGr := HH.out.2.2.2.1.quiet hS.2.2.2.1
      obtain ⟨g, off, rfl, hg, hc⟩ := hGr.at ha
      obtain ⟨pr, lr, lc, pf, lf, fc, pe, le, ec, c0, c1, c2, c3, c4, q1, q2, q3, q4, q5, q6⟩ := hc
      have hsm := HH.out.2.2.2.2.2.1.2 _ (List.mem_of_getElem? ha)
      simp only [] at c0 c1 c2 c3 c4 q1 q2 q3 q4 q5 q6 hsm
      have u1 := cell_lt c0
      have HX := hid_mk (And.intro ha (And.intro q1 (And.intro q2 (And.intro q3 (And.intro q4 (And.intro q5 (And.intro q6 hsm)))))))
      clear ha q1 q2 q3 q4 q5 q6 hsm hGr hS
      obtain ⟨G, hG⟩ : ∃ G, wr.heap.size = G := ⟨_, rfl⟩
      have bG := Bl.new wr #[.int .i64 a, .int .i64 k, .slice pr lr lc, .slice pf lf fc, .slice pe le ec] 37
      have oG : Out 0 0 wr (wr.alloc (.cells #[.int .i64 a, .int .i64 k, .slice pr lr lc, .slice pf lf fc, .slice pe le ec] 37)) := (Out.refl 0 0 wr).alloc _
      rw [hG] at bG
      go_upto_region 6 with fail
      obtain ⟨W5, hW5⟩ : ∃ W5, wr.alloc (.cells #[.int .i64 a, .int .i64 k, .slice pr lr lc, .slice pf lf fc, .slice pe le ec] 37) = W5 := ⟨_, rfl⟩
      rw [hW5] at bG oG ⊢
      (try rw [hG])
      have hSt := bG.cell (i := 2) rfl
      obtain ⟨V0, hV0⟩ : ∃ V0, W5.drew = V0 := ⟨_, rfl⟩
      have oD : Out 0 0 W5 V0 := hV0 ▸ (Out.refl 0 0 W5).drew
      have HbG := hid_mk (bG.kept oD (.inr (Nat.zero_le _)))
      have HO0 := hid_mk (oG.trans oD)
      have HGw : Hid (wr.heap.size ≤ G) := hid_mk (Nat.le_of_eq hG)
      have HG : Hid (G < V0.heap.size ∧ wr.heap.size ≤ G) := hid_mk ⟨HbG.out.lt, HGw.out⟩
      have HSrc := hid_mk (HX.out.2.2.2.2.1.quiet HO0.out)
      have HBd : Hid (lr ≤ 200000) := hid_mk (by have := HX.out; have := HX.out.2.1; omega)
      clear hW5 hG bG oG oD c0 c1 c2 c3 c4 k1 u1
      rename_i K1 hK
      refine cutL6 (fun g p W => Bl W G #[.int .i64 a, .int .i64 k, .slice (some ⟨g, 0, none⟩) lr p, .slice pf lf fc, .slice pe le ec] 37 ∧ Out 0 0 wr W ∧ RL W (G + 1) 3 1 [-77] (.slice (some ⟨g, 0, none⟩) lr p) r) ?_ ?_
      · intro hK0
        (try simp only [Act.put, List.getElem_toArray, List.getElem_cons_zero, List.getElem_cons_succ, List.setIfInBounds_toArray, List.set_cons_zero, List.set_cons_succ] at hK0)
        have HK := hid_mk hK0
        clear hK0 hK
        refine wp_region_T (S := fun w' => w'.cell? ⟨G, 2, none⟩ = some (.slice pr lr lc)) (z := 10) (by kernel_rfl) ?hS5001 (fun hHeld => ?rest5001)
        case hS5001 => exact hSt
        rw [hV0] at hHeld
        (try rw [hV0])
        clear hV0
        refine tkT 0 ?_
        refine tkT 1 ?_
        refine tkT 5 ?_
        refine tkT 6 ?_
        refine tkT 7 ?_
        refine wpAnyT_two (i := 2) (j := 3) (by kernel_rfl) rfl rfl (fun KK hK => ?_) (fun KK hK => ?_)
        · simp only [xa, xb, xc]
          obtain ⟨a1, p1, w1, hr1, q1, o1⟩ := cp_at (w := V0) (c := lc) Tryz.underlying34 info_iG rfl (by decide) (by decide) (is_src (HSrc.out) HX.out.2.1 (by decide)) (by rw [ivs_len]; exact HX.out.2.1) ivs_one (by have := HBd.out; omega) 34
          refine app_sr V0 _ _ _ _ rfl _ _ rfl rfl hr1 ?_
          clear hr1
          refine hK.out _ _ ?hS5007 (fun hHeld2 => ?rest5007)
          case hS5007 => exact o1.cell hHeld (.inr (Nat.zero_le _))
          clear hK KK
          (try clear hHeld)
          have hHeld := hHeld2
          clear hHeld2
          (try simp only [Act.put, xa, xb, xc, xd, xe, xf])
          refine wpAnyT_one (i := 3) (by kernel_rfl) rfl (fun KK hK => ?_)
          simp only [xa, xb, xc]
          go_simp
          obtain ⟨X1, hX1⟩ : ∃ X1, w1.alloc (.cells #[.int .i64 (-77)] 3) = X1 := ⟨_, rfl⟩
          obtain ⟨t1, ht1⟩ : ∃ t1, w1.heap.size = t1 := ⟨_, rfl⟩
          rw [hX1, ht1]
          have oX : Out 0 0 w1 X1 := hX1 ▸ (Out.refl 0 0 w1).alloc _
          have bX : Bl X1 t1 (ivs [-77]).toArray 3 := by rw [← hX1, ← ht1]; exact Bl.new _ _ _
          replace q1 := own_fx (S := fun _ => False) q1 (Fx.of_out oX) (fun _ _ q => q)
          have oQ := o1.trans oX
          have hbase := oQ.size
          have hbs : V0.heap.size ≤ V0.heap.size := Nat.le_refl _
          clear hX1 ht1
          refine hK.out _ _ ?hS5008 (fun hHeld2 => ?rest5008)
          case hS5008 => exact oX.cell hHeld (.inr (Nat.zero_le _))
          clear hK KK
          (try clear hHeld)
          have hHeld := hHeld2
          clear hHeld2
          (try simp only [Act.put, xa, xb, xc, xd, xe, xf])
          refine wpAnyT_one (i := 4) (by kernel_rfl) rfl (fun KK hK => ?_)
          simp only [xa, xb, xc]
          obtain ⟨g2, p2, w2, hr2, q2, x2⟩ := mk_at (c := 1) (m := 1) (zs := ivs [-77]) Tryz.underlying34 info_iG rfl (by decide) (by decide) q1 hbase bX rfl ivs_one (by have := HBd.out; omega) (by decide) (by decide) 34
          have hsl := slice_to2 und_i elem_i info_iG g2 (lr + 1) p2 lr (by have := own_cap q2; omega)
          refine app_sr X1 _ _ _ _ rfl _ _ rfl rfl hr2 ?_
          clear hr2
          refine hK.out _ _ ?hS5009 (fun hHeld2 => ?rest5009)
          case hS5009 => exact x2.cell hHeld (fun ee => by have := (own_ge q1 ee).1; have := HG.out; omega)
          clear hK KK
          (try clear hHeld)
          have hHeld := hHeld2
          clear hHeld2
          (try simp only [Act.put, xa, xb, xc, xd, xe, xf])
          refine tkT 8 ?_
          refine tkT 9 ?_
          refine wpAnyT_last (by kernel_rfl) rfl (fun KK hK => ?_)
          simp only [xa, xb, xc]
          have B2 := (HbG.out.kept oQ (.inr (Nat.zero_le _))).fx x2 (fun ee => by have := (own_ge q1 ee).1; have := HG.out; omega)
          have fz := B2.frozen 2
          go_simp
          clear fz
          refine hK.out _ _ ?_
          clear hK KK
          (try simp only [Act.put, xa, xb, xc, xd, xe, xf])
          refine wpAnyT_done (by kernel_rfl) ?_ _
          have hE := cm_end (c := 2) HbG.out HO0.out HG.out.2 oQ q1 (Nat.le_trans hbs (Nat.le_refl _)) q2 x2 HX.out.2.1
          exact HK.out _ _ _ _ _ _ _ _ _ _ g2 p2 _ ⟨hE.1, hE.2.1, hE.2.2.1⟩
        · simp only [xa, xb, xc]
          go_simp
          obtain ⟨X0, hX1⟩ : ∃ X1, V0.alloc (.cells #[.int .i64 (-77)] 3) = X1 := ⟨_, rfl⟩
          obtain ⟨t1, ht1⟩ : ∃ t1, V0.heap.size = t1 := ⟨_, rfl⟩
          rw [hX1, ht1]
          have oX : Out 0 0 V0 X0 := hX1 ▸ (Out.refl 0 0 V0).alloc _
          have bX : Bl X0 t1 (ivs [-77]).toArray 3 := by rw [← hX1, ← ht1]; exact Bl.new _ _ _
          clear hX1 ht1
          refine hK.out _ _ ?hS5012 (fun hHeld2 => ?rest5012)
          case hS5012 => exact oX.cell hHeld (.inr (Nat.zero_le _))
          clear hK KK
          (try clear hHeld)
          have hHeld := hHeld2
          clear hHeld2
          (try simp only [Act.put, xa, xb, xc, xd, xe, xf])
          refine wpAnyT_one (i := 2) (by kernel_rfl) rfl (fun KK hK => ?_)
          simp only [xa, xb, xc]
          obtain ⟨a1, p1, X1, hr1, q1, o1⟩ := cp_at (w := X0) (c := lc) Tryz.underlying34 info_iG rfl (by decide) (by decide) (is_src (HSrc.out.quiet oX) HX.out.2.1 (by decide)) (by rw [ivs_len]; exact HX.out.2.1) ivs_one (by have := HBd.out; omega) 34
          refine app_sr X0 _ _ _ _ rfl _ _ rfl rfl hr1 ?_
          replace bX := bX.kept o1 (.inr (Nat.zero_le _))
          have oQ := oX.trans o1
          have hbase := o1.size
          have hbs := oX.size
          clear hr1
          refine hK.out _ _ ?hS5013 (fun hHeld2 => ?rest5013)
          case hS5013 => exact o1.cell hHeld (.inr (Nat.zero_le _))
          clear hK KK
          (try clear hHeld)
          have hHeld := hHeld2
          clear hHeld2
          (try simp only [Act.put, xa, xb, xc, xd, xe, xf])
          refine wpAnyT_one (i := 4) (by kernel_rfl) rfl (fun KK hK => ?_)
          simp only [xa, xb, xc]
          obtain ⟨g2, p2, w2, hr2, q2, x2⟩ := mk_at (c := 1) (m := 1) (zs := ivs [-77]) Tryz.underlying34 info_iG rfl (by decide) (by decide) q1 hbase bX rfl ivs_one (by have := HBd.out; omega) (by decide) (by decide) 34
          have hsl := slice_to2 und_i elem_i info_iG g2 (lr + 1) p2 lr (by have := own_cap q2; omega)
          refine app_sr X1 _ _ _ _ rfl _ _ rfl rfl hr2 ?_
          clear hr2
          refine hK.out _ _ ?hS5014 (fun hHeld2 => ?rest5014)
          case hS5014 => exact x2.cell hHeld (fun ee => by have := (own_ge q1 ee).1; have := HG.out; omega)
          clear hK KK
          (try clear hHeld)
          have hHeld := hHeld2
          clear hHeld2
          (try simp only [Act.put, xa, xb, xc, xd, xe, xf])
          refine tkT 8 ?_
          refine tkT 9 ?_
          refine wpAnyT_last (by kernel_rfl) rfl (fun KK hK => ?_)
          simp only [xa, xb, xc]
          have B2 := (HbG.out.kept oQ (.inr (Nat.zero_le _))).fx x2 (fun ee => by have := (own_ge q1 ee).1; have := HG.out; omega)
          have fz := B2.frozen 2
          go_simp
          clear fz
          refine hK.out _ _ ?_
          clear hK KK
          (try simp only [Act.put, xa, xb, xc, xd, xe, xf])
          refine wpAnyT_done (by kernel_rfl) ?_ _
          have hE := cm_end (c := 2) HbG.out HO0.out HG.out.2 oQ q1 (Nat.le_trans hbs (Nat.le_refl _)) q2 x2 HX.out.2.1
          exact HK.out _ _ _ _ _ _ _ _ _ _ g2 p2 _ ⟨hE.1, hE.2.1, hE.2.2.1⟩
      intro v18 v19 v20 v21 v22 v23 v24 v25 v26 v27 g6 p6 W6 hF
      (try simp only [Act.put, xa, xb, xc, xd, xe, xf])
      refine hK _ _ ?_
      clear hK K1
      have HbG := hid_mk hF.1
      have HO0 := hid_mk hF.2.1
      have HP6 := hid_mk hF.2.2
      clear hF HSrc HBd HG
      obtain ⟨V0, hV0⟩ : ∃ V0, W6.drew = V0 := ⟨_, rfl⟩
      have hSt := HbG.out.cell (i := 3) rfl
      have oD : Out 0 0 W6 V0 := hV0 ▸ (Out.refl 0 0 W6).drew
      have HSrc := hid_mk (HX.out.2.2.2.2.2.1.quiet (HO0.out.trans oD))
      have HBd : Hid (lf ≤ 200000) := hid_mk (by have := HX.out; have := HX.out.2.2.1; omega)
      have HG : Hid (G < V0.heap.size ∧ wr.heap.size ≤ G) := hid_mk ⟨(HbG.out.kept oD (.inr (Nat.zero_le _))).lt, HGw.out⟩
      replace HbG := hid_mk (HbG.out.kept oD (.inr (Nat.zero_le _)))
      replace HO0 := hid_mk (HO0.out.trans oD)
      replace HP6 := hid_mk (HP6.out.quiet oD)
      clear oD
      go_upto_region 7 with fail
      rename_i K1 hK
      refine cutL7 (fun g p W => Bl W G #[.int .i64 a, .int .i64 k, .slice (some ⟨g6, 0, none⟩) lr p6, .slice (some ⟨g, 0, none⟩) lf p, .slice pe le ec] 37 ∧ Out 0 0 wr W ∧ RL W (G + 1) 3 1 [-77] (.slice (some ⟨g6, 0, none⟩) lr p6) r ∧ RL W (G + 1) 33 2 [77, 0] (.slice (some ⟨g, 0, none⟩) lf p) f) ?_ ?_
      · intro hK0
        (try simp only [Act.put, List.getElem_toArray, List.getElem_cons_zero, List.getElem_cons_succ, List.setIfInBounds_toArray, List.set_cons_zero, List.set_cons_succ] at hK0)
        have HK := hid_mk hK0
        clear hK0 hK
        refine wp_region_T (S := fun w' => w'.cell? ⟨G, 3, none⟩ = some (.slice pf lf fc)) (z := 11) (by kernel_rfl) ?hS5017 (fun hHeld => ?rest5017)
        case hS5017 => exact hSt
        rw [hV0] at hHeld
        (try rw [hV0])
        clear hV0
        refine tkT 0 ?_
        refine tkT 1 ?_
        refine tkT 3 ?_
        refine tkT 6 ?_
        refine tkT 7 ?_
        refine tkT 8 ?_
        refine wpAnyT_two (i := 2) (j := 4) (by kernel_rfl) rfl rfl (fun KK hK => ?_) (fun KK hK => ?_)
        · simp only [xa, xb, xc]
          obtain ⟨a1, p1, w1, hr1, q1, o1⟩ := cp_at (w := V0) (c := fc) Tryz.underlying23 info_v rfl (by decide) (by decide) (is_src (HSrc.out) HX.out.2.2.1 (by decide)) (by rw [ivs_len]; exact HX.out.2.2.1) ivs_one (by have := HBd.out; omega) 23
          refine app_sr V0 _ _ _ _ rfl _ _ rfl rfl hr1 ?_
          clear hr1
          refine hK.out _ _ ?hS5024 (fun hHeld2 => ?rest5024)
          case hS5024 => exact o1.cell hHeld (.inr (Nat.zero_le _))
          clear hK KK
          (try clear hHeld)
          have hHeld := hHeld2
          clear hHeld2
          (try simp only [Act.put, xa, xb, xc, xd, xe, xf])
          refine wpAnyT_one (i := 4) (by kernel_rfl) rfl (fun KK hK => ?_)
          simp only [xa, xb, xc]
          go_simp
          obtain ⟨X1, hX1⟩ : ∃ X1, w1.alloc (.cells #[.int .i64 77, .int .i64 0] 33) = X1 := ⟨_, rfl⟩
          obtain ⟨t1, ht1⟩ : ∃ t1, w1.heap.size = t1 := ⟨_, rfl⟩
          rw [hX1, ht1]
          have oX : Out 0 0 w1 X1 := hX1 ▸ (Out.refl 0 0 w1).alloc _
          have bX : Bl X1 t1 (ivs [77, 0]).toArray 33 := by rw [← hX1, ← ht1]; exact Bl.new _ _ _
          replace q1 := own_fx (S := fun _ => False) q1 (Fx.of_out oX) (fun _ _ q => q)
          have oQ := o1.trans oX
          have hbase := oQ.size
          have hbs : V0.heap.size ≤ V0.heap.size := Nat.le_refl _
          clear hX1 ht1
          refine hK.out _ _ ?hS5025 (fun hHeld2 => ?rest5025)
          case hS5025 => exact oX.cell hHeld (.inr (Nat.zero_le _))
          clear hK KK
          (try clear hHeld)
          have hHeld := hHeld2
          clear hHeld2
          (try simp only [Act.put, xa, xb, xc, xd, xe, xf])
          refine wpAnyT_one (i := 5) (by kernel_rfl) rfl (fun KK hK => ?_)
          simp only [xa, xb, xc]
          obtain ⟨g2, p2, w2, hr2, q2, x2⟩ := mk_at (c := 1) (m := 1) (zs := ivs [77, 0]) Tryz.underlying23 info_v rfl (by decide) (by decide) q1 hbase bX rfl ivs_one (by have := HBd.out; omega) (by decide) (by decide) 23
          have hsl := slice_to2 und_v elem_v info_v g2 (lf + 1) p2 lf (by have := own_cap q2; omega)
          refine app_sr X1 _ _ _ _ rfl _ _ rfl rfl hr2 ?_
          clear hr2
          refine hK.out _ _ ?hS5026 (fun hHeld2 => ?rest5026)
          case hS5026 => exact x2.cell hHeld (fun ee => by have := (own_ge q1 ee).1; have := HG.out; omega)
          clear hK KK
          (try clear hHeld)
          have hHeld := hHeld2
          clear hHeld2
          (try simp only [Act.put, xa, xb, xc, xd, xe, xf])
          refine tkT 9 ?_
          refine tkT 10 ?_
          refine wpAnyT_last (by kernel_rfl) rfl (fun KK hK => ?_)
          simp only [xa, xb, xc]
          have B2 := (HbG.out.kept oQ (.inr (Nat.zero_le _))).fx x2 (fun ee => by have := (own_ge q1 ee).1; have := HG.out; omega)
          have fz := B2.frozen 3
          go_simp
          clear fz
          refine hK.out _ _ ?_
          clear hK KK
          (try simp only [Act.put, xa, xb, xc, xd, xe, xf])
          refine wpAnyT_done (by kernel_rfl) ?_ _
          have hE := cm_end (c := 3) HbG.out HO0.out HG.out.2 oQ q1 (Nat.le_trans hbs (Nat.le_refl _)) q2 x2 HX.out.2.2.1
          exact HK.out _ _ _ _ _ _ _ _ _ _ _ g2 p2 _ ⟨hE.1, hE.2.1, hE.2.2.2 _ _ _ _ _ HP6.out, hE.2.2.1⟩
        · simp only [xa, xb, xc]
          go_simp
          obtain ⟨X0, hX1⟩ : ∃ X1, V0.alloc (.cells #[.int .i64 77, .int .i64 0] 33) = X1 := ⟨_, rfl⟩
          obtain ⟨t1, ht1⟩ : ∃ t1, V0.heap.size = t1 := ⟨_, rfl⟩
          rw [hX1, ht1]
          have oX : Out 0 0 V0 X0 := hX1 ▸ (Out.refl 0 0 V0).alloc _
          have bX : Bl X0 t1 (ivs [77, 0]).toArray 33 := by rw [← hX1, ← ht1]; exact Bl.new _ _ _
          clear hX1 ht1
          refine hK.out _ _ ?hS5029 (fun hHeld2 => ?rest5029)
          case hS5029 => exact oX.cell hHeld (.inr (Nat.zero_le _))
          clear hK KK
          (try clear hHeld)
          have hHeld := hHeld2
          clear hHeld2
          (try simp only [Act.put, xa, xb, xc, xd, xe, xf])
          refine wpAnyT_one (i := 2) (by kernel_rfl) rfl (fun KK hK => ?_)
          simp only [xa, xb, xc]
          obtain ⟨a1, p1, X1, hr1, q1, o1⟩ := cp_at (w := X0) (c := fc) Tryz.underlying23 info_v rfl (by decide) (by decide) (is_src (HSrc.out.quiet oX) HX.out.2.2.1 (by decide)) (by rw [ivs_len]; exact HX.out.2.2.1) ivs_one (by have := HBd.out; omega) 23
          refine app_sr X0 _ _ _ _ rfl _ _ rfl rfl hr1 ?_
          replace bX := bX.kept o1 (.inr (Nat.zero_le _))
          have oQ := oX.trans o1
          have hbase := o1.size
          have hbs := oX.size
          clear hr1
          refine hK.out _ _ ?hS5030 (fun hHeld2 => ?rest5030)
          case hS5030 => exact o1.cell hHeld (.inr (Nat.zero_le _))
          clear hK KK
          (try clear hHeld)
          have hHeld := hHeld2
          clear hHeld2
          (try simp only [Act.put, xa, xb, xc, xd, xe, xf])
          refine wpAnyT_one (i := 5) (by kernel_rfl) rfl (fun KK hK => ?_)
          simp only [xa, xb, xc]
          obtain ⟨g2, p2, w2, hr2, q2, x2⟩ := mk_at (c := 1) (m := 1) (zs := ivs [77, 0]) Tryz.underlying23 info_v rfl (by decide) (by decide) q1 hbase bX rfl ivs_one (by have := HBd.out; omega) (by decide) (by decide) 23
          have hsl := slice_to2 und_v elem_v info_v g2 (lf + 1) p2 lf (by have := own_cap q2; omega)
          refine app_sr X1 _ _ _ _ rfl _ _ rfl rfl hr2 ?_
          clear hr2
          refine hK.out _ _ ?hS5031 (fun hHeld2 => ?rest5031)
          case hS5031 => exact x2.cell hHeld (fun ee => by have := (own_ge q1 ee).1; have := HG.out; omega)
          clear hK KK
          (try clear hHeld)
          have hHeld := hHeld2
          clear hHeld2
          (try simp only [Act.put, xa, xb, xc, xd, xe, xf])
          refine tkT 9 ?_
          refine tkT 10 ?_
          refine wpAnyT_last (by kernel_rfl) rfl (fun KK hK => ?_)
          simp only [xa, xb, xc]
          have B2 := (HbG.out.kept oQ (.inr (Nat.zero_le _))).fx x2 (fun ee => by have := (own_ge q1 ee).1; have := HG.out; omega)
          have fz := B2.frozen 3
          go_simp
          clear fz
          refine hK.out _ _ ?_
          clear hK KK
          (try simp only [Act.put, xa, xb, xc, xd, xe, xf])
          refine wpAnyT_done (by kernel_rfl) ?_ _
          have hE := cm_end (c := 3) HbG.out HO0.out HG.out.2 oQ q1 (Nat.le_trans hbs (Nat.le_refl _)) q2 x2 HX.out.2.2.1
          exact HK.out _ _ _ _ _ _ _ _ _ _ _ g2 p2 _ ⟨hE.1, hE.2.1, hE.2.2.2 _ _ _ _ _ HP6.out, hE.2.2.1⟩
      intro v28 v29 v30 v31 v32 v33 v34 v35 v36 v37 v38 g7 p7 W7 hF
      (try simp only [Act.put, xa, xb, xc, xd, xe, xf])
      refine hK _ _ ?_
      clear hK K1
      have HbG := hid_mk hF.1
      have HO0 := hid_mk hF.2.1
      have HP6 := hid_mk hF.2.2.1
      have HP7 := hid_mk hF.2.2.2
      clear hF HSrc HBd HG
      obtain ⟨V0, hV0⟩ : ∃ V0, W7.drew = V0 := ⟨_, rfl⟩
      have hSt := HbG.out.cell (i := 4) rfl
      have oD : Out 0 0 W7 V0 := hV0 ▸ (Out.refl 0 0 W7).drew
      have HSrc := hid_mk (HX.out.2.2.2.2.2.2.1.quiet (HO0.out.trans oD))
      have HBd : Hid (le ≤ 200000) := hid_mk (by have := HX.out; have := HX.out.2.2.2.1; omega)
      have HG : Hid (G < V0.heap.size ∧ wr.heap.size ≤ G) := hid_mk ⟨(HbG.out.kept oD (.inr (Nat.zero_le _))).lt, HGw.out⟩
      replace HbG := hid_mk (HbG.out.kept oD (.inr (Nat.zero_le _)))
      replace HO0 := hid_mk (HO0.out.trans oD)
      replace HP6 := hid_mk (HP6.out.quiet oD)
      replace HP7 := hid_mk (HP7.out.quiet oD)
      clear oD
      go_upto_region 8 with fail
      rename_i K1 hK
      refine cutL8 (fun g p W => Bl W G #[.int .i64 a, .int .i64 k, .slice (some ⟨g6, 0, none⟩) lr p6, .slice (some ⟨g7, 0, none⟩) lf p7, .slice (some ⟨g, 0, none⟩) le p] 37 ∧ Out 0 0 wr W ∧ RL W (G + 1) 3 1 [-77] (.slice (some ⟨g6, 0, none⟩) lr p6) r ∧ RL W (G + 1) 33 2 [77, 0] (.slice (some ⟨g7, 0, none⟩) lf p7) f ∧ RL W (G + 1) 47 4 [77, 0, 0, 0] (.slice (some ⟨g, 0, none⟩) le p) e) ?_ ?_
      · intro hK0
        (try simp only [Act.put, List.getElem_toArray, List.getElem_cons_zero, List.getElem_cons_succ, List.setIfInBounds_toArray, List.set_cons_zero, List.set_cons_succ] at hK0)
        have HK := hid_mk hK0
        clear hK0 hK
        refine wp_region_T (S := fun w' => w'.cell? ⟨G, 4, none⟩ = some (.slice pe le ec)) (z := 12) (by kernel_rfl) ?hS5034 (fun hHeld => ?rest5034)
        case hS5034 => exact hSt
        rw [hV0] at hHeld
        (try rw [hV0])
        clear hV0
        refine tkT 0 ?_
        refine tkT 1 ?_
        refine tkT 3 ?_
        refine tkT 4 ?_
        refine tkT 7 ?_
        refine tkT 8 ?_
        refine tkT 9 ?_
        refine wpAnyT_two (i := 2) (j := 5) (by kernel_rfl) rfl rfl (fun KK hK => ?_) (fun KK hK => ?_)
        · simp only [xa, xb, xc]
          obtain ⟨a1, p1, w1, hr1, q1, o1⟩ := cp_at (w := V0) (c := ec) Tryz.underlying35 info_e rfl (by decide) (by decide) (is_src (HSrc.out) HX.out.2.2.2.1 (by decide)) (by rw [ivs_len]; exact HX.out.2.2.2.1) ivs_one (by have := HBd.out; omega) 35
          refine app_sr V0 _ _ _ _ rfl _ _ rfl rfl hr1 ?_
          clear hr1
          refine hK.out _ _ ?hS5042 (fun hHeld2 => ?rest5042)
          case hS5042 => exact o1.cell hHeld (.inr (Nat.zero_le _))
          clear hK KK
          (try clear hHeld)
          have hHeld := hHeld2
          clear hHeld2
          (try simp only [Act.put, xa, xb, xc, xd, xe, xf])
          refine wpAnyT_one (i := 5) (by kernel_rfl) rfl (fun KK hK => ?_)
          simp only [xa, xb, xc]
          go_simp
          obtain ⟨X1, hX1⟩ : ∃ X1, w1.alloc (.cells #[.int .i64 77, .int .i64 0, .int .i64 0, .int .i64 0] 47) = X1 := ⟨_, rfl⟩
          obtain ⟨t1, ht1⟩ : ∃ t1, w1.heap.size = t1 := ⟨_, rfl⟩
          rw [hX1, ht1]
          have oX : Out 0 0 w1 X1 := hX1 ▸ (Out.refl 0 0 w1).alloc _
          have bX : Bl X1 t1 (ivs [77, 0, 0, 0]).toArray 47 := by rw [← hX1, ← ht1]; exact Bl.new _ _ _
          replace q1 := own_fx (S := fun _ => False) q1 (Fx.of_out oX) (fun _ _ q => q)
          have oQ := o1.trans oX
          have hbase := oQ.size
          have hbs : V0.heap.size ≤ V0.heap.size := Nat.le_refl _
          clear hX1 ht1
          refine hK.out _ _ ?hS5043 (fun hHeld2 => ?rest5043)
          case hS5043 => exact oX.cell hHeld (.inr (Nat.zero_le _))
          clear hK KK
          (try clear hHeld)
          have hHeld := hHeld2
          clear hHeld2
          (try simp only [Act.put, xa, xb, xc, xd, xe, xf])
          refine wpAnyT_one (i := 6) (by kernel_rfl) rfl (fun KK hK => ?_)
          simp only [xa, xb, xc]
          obtain ⟨g2, p2, w2, hr2, q2, x2⟩ := mk_at (c := 1) (m := 1) (zs := ivs [77, 0, 0, 0]) Tryz.underlying35 info_e rfl (by decide) (by decide) q1 hbase bX rfl ivs_one (by have := HBd.out; omega) (by decide) (by decide) 35
          have hsl := slice_to2 und_e elem_e info_e g2 (le + 1) p2 le (by have := own_cap q2; omega)
          refine app_sr X1 _ _ _ _ rfl _ _ rfl rfl hr2 ?_
          clear hr2
          refine hK.out _ _ ?hS5044 (fun hHeld2 => ?rest5044)
          case hS5044 => exact x2.cell hHeld (fun ee => by have := (own_ge q1 ee).1; have := HG.out; omega)
          clear hK KK
          (try clear hHeld)
          have hHeld := hHeld2
          clear hHeld2
          (try simp only [Act.put, xa, xb, xc, xd, xe, xf])
          refine tkT 10 ?_
          refine tkT 11 ?_
          refine wpAnyT_last (by kernel_rfl) rfl (fun KK hK => ?_)
          simp only [xa, xb, xc]
          have B2 := (HbG.out.kept oQ (.inr (Nat.zero_le _))).fx x2 (fun ee => by have := (own_ge q1 ee).1; have := HG.out; omega)
          have fz := B2.frozen 4
          go_simp
          clear fz
          refine hK.out _ _ ?_
          clear hK KK
          (try simp only [Act.put, xa, xb, xc, xd, xe, xf])
          refine wpAnyT_done (by kernel_rfl) ?_ _
          have hE := cm_end (c := 4) HbG.out HO0.out HG.out.2 oQ q1 (Nat.le_trans hbs (Nat.le_refl _)) q2 x2 HX.out.2.2.2.1
          exact HK.out _ _ _ _ _ _ _ _ _ _ _ _ g2 p2 _ ⟨hE.1, hE.2.1, hE.2.2.2 _ _ _ _ _ HP6.out, hE.2.2.2 _ _ _ _ _ HP7.out, hE.2.2.1⟩
        · simp only [xa, xb, xc]
          go_simp
          obtain ⟨X0, hX1⟩ : ∃ X1, V0.alloc (.cells #[.int .i64 77, .int .i64 0, .int .i64 0, .int .i64 0] 47) = X1 := ⟨_, rfl⟩
          obtain ⟨t1, ht1⟩ : ∃ t1, V0.heap.size = t1 := ⟨_, rfl⟩
          rw [hX1, ht1]
          have oX : Out 0 0 V0 X0 := hX1 ▸ (Out.refl 0 0 V0).alloc _
          have bX : Bl X0 t1 (ivs [77, 0, 0, 0]).toArray 47 := by rw [← hX1, ← ht1]; exact Bl.new _ _ _
          clear hX1 ht1
          refine hK.out _ _ ?hS5047 (fun hHeld2 => ?rest5047)
          case hS5047 => exact oX.cell hHeld (.inr (Nat.zero_le _))
          clear hK KK
          (try clear hHeld)
          have hHeld := hHeld2
          clear hHeld2
          (try simp only [Act.put, xa, xb, xc, xd, xe, xf])
          refine wpAnyT_one (i := 2) (by kernel_rfl) rfl (fun KK hK => ?_)
          simp only [xa, xb, xc]
          obtain ⟨a1, p1, X1, hr1, q1, o1⟩ := cp_at (w := X0) (c := ec) Tryz.underlying35 info_e rfl (by decide) (by decide) (is_src (HSrc.out.quiet oX) HX.out.2.2.2.1 (by decide)) (by rw [ivs_len]; exact HX.out.2.2.2.1) ivs_one (by have := HBd.out; omega) 35
          refine app_sr X0 _ _ _ _ rfl _ _ rfl rfl hr1 ?_
          replace bX := bX.kept o1 (.inr (Nat.zero_le _))
          have oQ := oX.trans o1
          have hbase := o1.size
          have hbs := oX.size
          clear hr1
          refine hK.out _ _ ?hS5048 (fun hHeld2 => ?rest5048)
          case hS5048 => exact o1.cell hHeld (.inr (Nat.zero_le _))
          clear hK KK
          (try clear hHeld)
          have hHeld := hHeld2
          clear hHeld2
          (try simp only [Act.put, xa, xb, xc, xd, xe, xf])
          refine wpAnyT_one (i := 6) (by kernel_rfl) rfl (fun KK hK => ?_)
          simp only [xa, xb, xc]
          obtain ⟨g2, p2, w2, hr2, q2, x2⟩ := mk_at (c := 1) (m := 1) (zs := ivs [77, 0, 0, 0]) Tryz.underlying35 info_e rfl (by decide) (by decide) q1 hbase bX rfl ivs_one (by have := HBd.out; omega) (by decide) (by decide) 35
          have hsl := slice_to2 und_e elem_e info_e g2 (le + 1) p2 le (by have := own_cap q2; omega)
          refine app_sr X1 _ _ _ _ rfl _ _ rfl rfl hr2 ?_
          clear hr2
          refine hK.out _ _ ?hS5049 (fun hHeld2 => ?rest5049)
          case hS5049 => exact x2.cell hHeld (fun ee => by have := (own_ge q1 ee).1; have := HG.out; omega)
          clear hK KK
          (try clear hHeld)
          have hHeld := hHeld2
          clear hHeld2
          (try simp only [Act.put, xa, xb, xc, xd, xe, xf])
          refine tkT 10 ?_
          refine tkT 11 ?_
          refine wpAnyT_last (by kernel_rfl) rfl (fun KK hK => ?_)
          simp only [xa, xb, xc]
          have B2 := (HbG.out.kept oQ (.inr (Nat.zero_le _))).fx x2 (fun ee => by have := (own_ge q1 ee).1; have := HG.out; omega)
          have fz := B2.frozen 4
          go_simp
          clear fz
          refine hK.out _ _ ?_
          clear hK KK
          (try simp only [Act.put, xa, xb, xc, xd, xe, xf])
          refine wpAnyT_done (by kernel_rfl) ?_ _
          have hE := cm_end (c := 4) HbG.out HO0.out HG.out.2 oQ q1 (Nat.le_trans hbs (Nat.le_refl _)) q2 x2 HX.out.2.2.2.1
          exact HK.out _ _ _ _ _ _ _ _ _ _ _ _ g2 p2 _ ⟨hE.1, hE.2.1, hE.2.2.2 _ _ _ _ _ HP6.out, hE.2.2.2 _ _ _ _ _ HP7.out, hE.2.2.1⟩
      intro v39 v40 v41 v42 v43 v44 v45 v46 v47 v48 v49 v50 g8 p8 W8 hF
      (try simp only [Act.put, xa, xb, xc, xd, xe, xf])
      refine hK _ _ ?_
      clear hK K1
      have HbG := hid_mk hF.1
      have HO0 := hid_mk hF.2.1
      have HP6 := hid_mk hF.2.2.1
      have HP7 := hid_mk hF.2.2.2.1
      have HP8 := hid_mk hF.2.2.2.2
      have hLb : b + 3 ≤ G := by have := HS.out.size; have := HGw.out; omega
      have h3 := HS.out.quiet HO0.out
      have oX : Out 0 0 W8 (W8.alloc (.cells #[.int .i64 a, .int .i64 k, .slice (some ⟨g6, 0, none⟩) lr p6, .slice (some ⟨g7, 0, none⟩) lf p7, .slice (some ⟨g8, 0, none⟩) le p8] 37)) := (Out.refl 0 0 W8).alloc _
      obtain ⟨g4, cap4, w6, hr3, z1, z2⟩ := mk_at (m := 1) (c := 1) (zs := [.int .i64 a, .int .i64 k, .slice (some ⟨g6, 0, none⟩) lr p6, .slice (some ⟨g7, 0, none⟩) lf p7, .slice (some ⟨g8, 0, none⟩) le p8]) Tryz.underlying22 info_n rfl (by decide) (by decide) (h3.quiet oX).2.1 (h3.quiet oX).size (Bl.new _ _ _) rfl (by intro u hu; simp at hu; rcases hu with rfl | rfl | rfl | rfl | rfl <;> rfl) (by omega) (by decide) (by decide) 22
      have hS6 := (h3.quiet oX).step (v := (.slice (some ⟨g6, 0, none⟩) lr p6, .slice (some ⟨g7, 0, none⟩) lf p7, .slice (some ⟨g8, 0, none⟩) le p8)) HX.out.1 ⟨(HP6.out.quiet oX).low (by omega), (HP7.out.quiet oX).low (by omega), (HP8.out.quiet oX).low (by omega)⟩ z1 z2
      have B6 := ((h3.quiet oX).1.fx z2 (fun k hk e => by have := (own_ge (h3.quiet oX).2.1 e).1; omega)).2.2
      have u1 := h3.1.2.2.cell (i := 0) rfl
      have e0 := HbG.out.cell (i := 0) rfl
      have e1 := HbG.out.cell (i := 1) rfl
      have e2 := HbG.out.cell (i := 2) rfl
      have e3 := HbG.out.cell (i := 3) rfl
      have e4 := HbG.out.cell (i := 4) rfl
      have u2 := B6.cell (i := 0) rfl
      have u3 := B6.frozen 0
      have HR3 := hid_mk hr3
      have HS6 := hid_mk hS6
      clear hr3 hS6 B6 z1 z2 oX h3 hLb hF HS HP6 HP7 HP8 HbG HO0
      go_wp2_with (at_builtin; refine app_st rfl _ _ _ _ rfl rfl rfl HR3.out ?_)
      go_roundw
      case rel => exact ⟨i + 1, some ⟨g4, 0, none⟩, cap4, vs ++ [(.slice (some ⟨g6, 0, none⟩) lr p6, .slice (some ⟨g7, 0, none⟩) lf p7, .slice (some ⟨g8, 0, none⟩) le p8)], by go_num, hgo, HS6.out⟩
      case measure => simp [intOf]; omega
    · obtain rfl : nn = i := by omega
      have hnl := HH.out.2.1
      obtain rfl := hnl
      have l1 : decide ((ns.length : Int) < (ns.length : Int)) = false := by simp
      have d1 := hS.1.2.2.cell (i := 0) rfl
      have HI : Hid (ns.length ≤ 200000 ∧ rs.length = nr * 2 ∧ nr ≤ 200000) := hid_mk ⟨hnn, HH.out.2.2.1, by have := HH.out.2.2.1; have := HH.out.2.2.2.2.2.2; omega⟩
      clear hgo hS him HL0 hnn
      go_wp2_with fail
      obtain ⟨V3, hV3⟩ : ∃ V3, wr.drew = V3 := ⟨_, rfl⟩
      refine wp_region_T (S := fun w' => w'.cell? ⟨b + 1 + 1, 0, none⟩ = some (.slice qa ns.length qk) ∧ w'.cell? ⟨b, 0, none⟩ = some (.slice na ns.length cn)) (z := 10) (by kernel_rfl) ?hS1 (fun hHeld => ?rest1)
      case hS1 => exact ⟨d1, k1⟩
      refine tkT 0 ?_
      refine tkT 1 ?_
      refine tkT 2 ?_
      refine tkT 5 ?_
      refine tkT 6 ?_
      refine tkT 7 ?_
      refine wpAnyT_one (i := 3) (by kernel_rfl) rfl (fun KK hK => ?_)
      simp only [xa, xb, xc]
      go_simp
      obtain ⟨X3, hX3⟩ : ∃ X3, V3.alloc (.cells #[.int .i64 (-77), .int .i64 0, .slice none 0 0, .slice none 0 0, .slice none 0 0] 37) = X3 := ⟨_, rfl⟩
      obtain ⟨t3, ht3⟩ : ∃ t3, V3.heap.size = t3 := ⟨_, rfl⟩
      rw [hX3, ht3]
      have o8 : Out 0 0 wr X3 := by rw [← hX3, ← hV3]; exact ((Out.refl 0 0 wr).drew).alloc _
      have HX3 : Hid (Bl X3 t3 #[.int .i64 (-77), .int .i64 0, .slice none 0 0, .slice none 0 0, .slice none 0 0] 37) := hid_mk (by rw [← hX3, ← ht3]; exact Bl.new _ _ _)
      clear hX3 ht3
      refine hK.out _ _ ?hS8 (fun hHeld2 => ?rest8)
      case hS8 => exact ⟨o8.cell d1 (.inr (Nat.zero_le _)), o8.cell k1 (.inr (Nat.zero_le _))⟩
      clear hK KK
      (try clear hHeld)
      have hHeld := hHeld2
      clear hHeld2
      (try simp only [Act.put, xa, xb, xc, xd, xe, xf])
      refine wpAnyT_one (i := 4) (by kernel_rfl) rfl (fun KK hK => ?_)
      simp only [xa, xb, xc]
      obtain ⟨g5, cap5, w8, hr, z1, z2⟩ := mk_at (m := 1) (c := 1) (zs := [.int .i64 (-77), .int .i64 0, .slice none 0 0, .slice none 0 0, .slice none 0 0]) Tryz.underlying22 info_n rfl (by decide) (by decide) (HS.out.quiet o8).2.1 (HS.out.quiet o8).size HX3.out rfl (by intro u hu; simp at hu; rcases hu with rfl | rfl | rfl <;> rfl) (by have := HI.out; omega) (by decide) (by decide) 22
      have hsl := slice_to2 und_n elem_n info_n g5 (ns.length + 1) cap5 ns.length (by have := own_cap z1; omega)
      refine app_sr X3 _ _ _ _ rfl _ _ rfl rfl hr ?_
      refine hK.out _ _ ?hS9 (fun hHeld2 => ?rest9)
      case hS9 => exact ⟨((HS.out.quiet o8).1.fx z2 (fun k hk e => by have := (own_ge (HS.out.quiet o8).2.1 e).1; omega)).2.2.cell (i := 0) rfl, ((HS.out.quiet o8).1.fx z2 (fun k hk e => by have := (own_ge (HS.out.quiet o8).2.1 e).1; omega)).1.cell (i := 0) rfl⟩
      clear hK KK
      (try clear hHeld)
      have hHeld := hHeld2
      clear hHeld2
      (try simp only [Act.put, xa, xb, xc, xd, xe, xf])
      refine tkT 8 ?_
      refine tkT 9 ?_
      refine wpAnyT_last (by kernel_rfl) rfl (fun KK hK => ?_)
      simp only [xa, xb, xc]
      have s9 := hHeld.1
      have z9 := ((HS.out.quiet o8).1.fx z2 (fun k hk e => by have := (own_ge (HS.out.quiet o8).2.1 e).1; omega)).2.2.frozen 0
      go_simp
      refine hK.out _ _ ?_
      clear hK KK
      (try simp only [Act.put, xa, xb, xc, xd, xe, xf])
      refine wpAnyT_done (by kernel_rfl) ?_ _
      have hM := (HS.out.quiet o8).mark z1 z2
      obtain ⟨W6, hW6⟩ : ∃ W6, w8.setCell ⟨b + 1 + 1, 0, none⟩ (.slice (some ⟨g5, 0, none⟩) ns.length cap5) = W6 := ⟨_, rfl⟩
      rw [hW6] at hM ⊢
      have hSt := hM.1.1.cell (i := 1) rfl
      obtain ⟨V0, hV0⟩ : ∃ V0, W6.drew = V0 := ⟨_, rfl⟩
      have oD : Out 0 0 W6 V0 := hV0 ▸ (Out.refl 0 0 W6).drew
      have HM := hid_mk (hM.quiet oD)
      have HbG := hid_mk HM.out.1
      have HSrc := hid_mk (HH.out.2.2.2.2.1.quiet HM.out.2.2.2.1)
      have HBd : Hid (nr ≤ 200000) := hid_mk HI.out.2.2
      have HX : Hid (rs.length = nr * 2 ∧ True) := hid_mk ⟨HI.out.2.1, trivial⟩
      have HG : Hid (b + 2 < V0.heap.size ∧ True) := hid_mk ⟨HM.out.1.2.2.lt, trivial⟩
      clear hW6 hM hr z1 z2 o8 HX3 hHeld hV3 HS hsl d1 k1 oD
      go_wp2_with fail
      refine wp_region_T (S := fun w' => w'.cell? ⟨b, 1, none⟩ = some (.slice ra nr cr)) (z := 11) (by kernel_rfl) ?hS5052 (fun hHeld => ?rest5052)
      case hS5052 => exact hSt
      rw [hV0] at hHeld
      (try rw [hV0])
      clear hV0
      refine tkT 0 ?_
      refine tkT 1 ?_
      refine tkT 3 ?_
      refine tkT 6 ?_
      refine tkT 7 ?_
      refine tkT 8 ?_
      refine wpAnyT_two (i := 2) (j := 4) (by kernel_rfl) rfl rfl (fun KK hK => ?_) (fun KK hK => ?_)
      · simp only [xa, xb, xc]
        obtain ⟨a1, p1, w1, hr1, q1, o1⟩ := cp_at (w := V0) (c := cr) Tryz.underlying23 info_v rfl (by decide) (by decide) (is_src (HSrc.out) HX.out.1 (by decide)) (by rw [ivs_len]; exact HX.out.1) ivs_one (by have := HBd.out; omega) 23
        refine app_sr V0 _ _ _ _ rfl _ _ rfl rfl hr1 ?_
        clear hr1
        refine hK.out _ _ ?hS5059 (fun hHeld2 => ?rest5059)
        case hS5059 => exact o1.cell hHeld (.inr (Nat.zero_le _))
        clear hK KK
        (try clear hHeld)
        have hHeld := hHeld2
        clear hHeld2
        (try simp only [Act.put, xa, xb, xc, xd, xe, xf])
        refine wpAnyT_one (i := 4) (by kernel_rfl) rfl (fun KK hK => ?_)
        simp only [xa, xb, xc]
        go_simp
        obtain ⟨X1, hX1⟩ : ∃ X1, w1.alloc (.cells #[.int .i64 77, .int .i64 0] 33) = X1 := ⟨_, rfl⟩
        obtain ⟨t1, ht1⟩ : ∃ t1, w1.heap.size = t1 := ⟨_, rfl⟩
        rw [hX1, ht1]
        have oX : Out 0 0 w1 X1 := hX1 ▸ (Out.refl 0 0 w1).alloc _
        have bX : Bl X1 t1 (ivs [77, 0]).toArray 33 := by rw [← hX1, ← ht1]; exact Bl.new _ _ _
        replace q1 := own_fx (S := fun _ => False) q1 (Fx.of_out oX) (fun _ _ q => q)
        have oQ := o1.trans oX
        have hbase := oQ.size
        have hbs : V0.heap.size ≤ V0.heap.size := Nat.le_refl _
        clear hX1 ht1
        refine hK.out _ _ ?hS5060 (fun hHeld2 => ?rest5060)
        case hS5060 => exact oX.cell hHeld (.inr (Nat.zero_le _))
        clear hK KK
        (try clear hHeld)
        have hHeld := hHeld2
        clear hHeld2
        (try simp only [Act.put, xa, xb, xc, xd, xe, xf])
        refine wpAnyT_one (i := 5) (by kernel_rfl) rfl (fun KK hK => ?_)
        simp only [xa, xb, xc]
        obtain ⟨g2, p2, w2, hr2, q2, x2⟩ := mk_at (c := 1) (m := 1) (zs := ivs [77, 0]) Tryz.underlying23 info_v rfl (by decide) (by decide) q1 hbase bX rfl ivs_one (by have := HBd.out; omega) (by decide) (by decide) 23
        have hsl := slice_to2 und_v elem_v info_v g2 (nr + 1) p2 nr (by have := own_cap q2; omega)
        refine app_sr X1 _ _ _ _ rfl _ _ rfl rfl hr2 ?_
        clear hr2
        refine hK.out _ _ ?hS5061 (fun hHeld2 => ?rest5061)
        case hS5061 => exact x2.cell hHeld (fun ee => by have := (own_ge q1 ee).1; have := HG.out; omega)
        clear hK KK
        (try clear hHeld)
        have hHeld := hHeld2
        clear hHeld2
        (try simp only [Act.put, xa, xb, xc, xd, xe, xf])
        refine tkT 9 ?_
        refine tkT 10 ?_
        refine wpAnyT_last (by kernel_rfl) rfl (fun KK hK => ?_)
        simp only [xa, xb, xc]
        have B2 := (HbG.out.quiet oQ).fx x2 (fun k hk ee => by have := (own_ge q1 ee).1; have := HG.out; omega)
        have fy := B2.2.2.cell (i := 1) rfl
        have fz := B2.2.2.frozen 1
        go_simp
        clear fy fz
        refine hK.out _ _ ?_
        clear hK KK
        (try simp only [Act.put, xa, xb, xc, xd, xe, xf])
        refine wpAnyT_done (by kernel_rfl) ?_ _
        have hD := HM.out.done oQ q1 (Nat.le_trans hbs (Nat.le_refl _)) q2 x2 HX.out.1
        obtain ⟨W8, hW8⟩ : ∃ W8, w2.setCell ⟨b + 1 + 1, 1, none⟩ (.slice (some ⟨g2, 0, none⟩) nr p2) = W8 := ⟨_, rfl⟩
        rw [hW8] at hD ⊢
        have HD := hid_mk hD
        have k0 := hD.1.2.2.cell (i := 0) rfl
        have k1 := hD.1.2.2.cell (i := 1) rfl
        have m0 := hD.1.2.1.cell (i := 0) rfl
        have m1 := hD.1.2.1.cell (i := 1) rfl
        have n0 := hD.1.2.1.frozen 0
        have n1 := hD.1.2.1.frozen 1
        clear hD hW8 q1 q2 x2 oQ oX o1 bX hbase hbs hHeld HM HbG HSrc HBd HX HG hsl B2
        go_wp2
        have hF := (HD.out.1.2.1.set 0 (.slice (some ⟨g5, 0, none⟩) ns.length cap5)).set 1 (.slice (some ⟨g2, 0, none⟩) nr p2)
        have hx : Fx (fun z => z = b + 1) W8 ((W8.setCell ⟨b + 1, 0, none⟩ (.slice (some ⟨g5, 0, none⟩) ns.length cap5)).setCell ⟨b + 1, 1, none⟩ (.slice (some ⟨g2, 0, none⟩) nr p2)) := ((Fx.refl (fun z => z = b + 1) _).set (p := ⟨b + 1, 0, none⟩) (.inl rfl) _).set (p := ⟨b + 1, 1, none⟩) (.inl rfl) _
        refine bodyPost_ret (v := .agg #[.slice (some ⟨g5, 0, none⟩) ns.length cap5, .slice (some ⟨g2, 0, none⟩) nr p2]) (results_cell_row Tryz.results6 _ _ (b + 1) 25 _ (0, 0) _ rfl hF Tryz.underlying25 rfl (by kernel_rfl)) rfl ⟨out_fx HD.out.2.2.1 hx (fun k hk => by have := HD.out.2.2.2; omega), g5, cap5, vs, .slice (some ⟨g2, 0, none⟩) nr p2, rfl, ?_⟩
        exact (HD.out.2.1.fx hx (fun k z1 e => by omega)).low (by have := HD.out.2.2.2; omega)
      · simp only [xa, xb, xc]
        go_simp
        obtain ⟨X0, hX1⟩ : ∃ X1, V0.alloc (.cells #[.int .i64 77, .int .i64 0] 33) = X1 := ⟨_, rfl⟩
        obtain ⟨t1, ht1⟩ : ∃ t1, V0.heap.size = t1 := ⟨_, rfl⟩
        rw [hX1, ht1]
        have oX : Out 0 0 V0 X0 := hX1 ▸ (Out.refl 0 0 V0).alloc _
        have bX : Bl X0 t1 (ivs [77, 0]).toArray 33 := by rw [← hX1, ← ht1]; exact Bl.new _ _ _
        clear hX1 ht1
        refine hK.out _ _ ?hS5064 (fun hHeld2 => ?rest5064)
        case hS5064 => exact oX.cell hHeld (.inr (Nat.zero_le _))
        clear hK KK
        (try clear hHeld)
        have hHeld := hHeld2
        clear hHeld2
        (try simp only [Act.put, xa, xb, xc, xd, xe, xf])
        refine wpAnyT_one (i := 2) (by kernel_rfl) rfl (fun KK hK => ?_)
        simp only [xa, xb, xc]
        obtain ⟨a1, p1, X1, hr1, q1, o1⟩ := cp_at (w := X0) (c := cr) Tryz.underlying23 info_v rfl (by decide) (by decide) (is_src (HSrc.out.quiet oX) HX.out.1 (by decide)) (by rw [ivs_len]; exact HX.out.1) ivs_one (by have := HBd.out; omega) 23
        refine app_sr X0 _ _ _ _ rfl _ _ rfl rfl hr1 ?_
        replace bX := bX.kept o1 (.inr (Nat.zero_le _))
        have oQ := oX.trans o1
        have hbase := o1.size
        have hbs := oX.size
        clear hr1
        refine hK.out _ _ ?hS5065 (fun hHeld2 => ?rest5065)
        case hS5065 => exact o1.cell hHeld (.inr (Nat.zero_le _))
        clear hK KK
        (try clear hHeld)
        have hHeld := hHeld2
        clear hHeld2
        (try simp only [Act.put, xa, xb, xc, xd, xe, xf])
        refine wpAnyT_one (i := 5) (by kernel_rfl) rfl (fun KK hK => ?_)
        simp only [xa, xb, xc]
        obtain ⟨g2, p2, w2, hr2, q2, x2⟩ := mk_at (c := 1) (m := 1) (zs := ivs [77, 0]) Tryz.underlying23 info_v rfl (by decide) (by decide) q1 hbase bX rfl ivs_one (by have := HBd.out; omega) (by decide) (by decide) 23
        have hsl := slice_to2 und_v elem_v info_v g2 (nr + 1) p2 nr (by have := own_cap q2; omega)
        refine app_sr X1 _ _ _ _ rfl _ _ rfl rfl hr2 ?_
        clear hr2
        refine hK.out _ _ ?hS5066 (fun hHeld2 => ?rest5066)
        case hS5066 => exact x2.cell hHeld (fun ee => by have := (own_ge q1 ee).1; have := HG.out; omega)
        clear hK KK
        (try clear hHeld)
        have hHeld := hHeld2
        clear hHeld2
        (try simp only [Act.put, xa, xb, xc, xd, xe, xf])
        refine tkT 9 ?_
        refine tkT 10 ?_
        refine wpAnyT_last (by kernel_rfl) rfl (fun KK hK => ?_)
        simp only [xa, xb, xc]
        have B2 := (HbG.out.quiet oQ).fx x2 (fun k hk ee => by have := (own_ge q1 ee).1; have := HG.out; omega)
        have fy := B2.2.2.cell (i := 1) rfl
        have fz := B2.2.2.frozen 1
        go_simp
        clear fy fz
        refine hK.out _ _ ?_
        clear hK KK
        (try simp only [Act.put, xa, xb, xc, xd, xe, xf])
        refine wpAnyT_done (by kernel_rfl) ?_ _
        have hD := HM.out.done oQ q1 (Nat.le_trans hbs (Nat.le_refl _)) q2 x2 HX.out.1
        obtain ⟨W8, hW8⟩ : ∃ W8, w2.setCell ⟨b + 1 + 1, 1, none⟩ (.slice (some ⟨g2, 0, none⟩) nr p2) = W8 := ⟨_, rfl⟩
        rw [hW8] at hD ⊢
        have HD := hid_mk hD
        have k0 := hD.1.2.2.cell (i := 0) rfl
        have k1 := hD.1.2.2.cell (i := 1) rfl
        have m0 := hD.1.2.1.cell (i := 0) rfl
        have m1 := hD.1.2.1.cell (i := 1) rfl
        have n0 := hD.1.2.1.frozen 0
        have n1 := hD.1.2.1.frozen 1
        clear hD hW8 q1 q2 x2 oQ oX o1 bX hbase hbs hHeld HM HbG HSrc HBd HX HG hsl B2
        go_wp2
        have hF := (HD.out.1.2.1.set 0 (.slice (some ⟨g5, 0, none⟩) ns.length cap5)).set 1 (.slice (some ⟨g2, 0, none⟩) nr p2)
        have hx : Fx (fun z => z = b + 1) W8 ((W8.setCell ⟨b + 1, 0, none⟩ (.slice (some ⟨g5, 0, none⟩) ns.length cap5)).setCell ⟨b + 1, 1, none⟩ (.slice (some ⟨g2, 0, none⟩) nr p2)) := ((Fx.refl (fun z => z = b + 1) _).set (p := ⟨b + 1, 0, none⟩) (.inl rfl) _).set (p := ⟨b + 1, 1, none⟩) (.inl rfl) _
        refine bodyPost_ret (v := .agg #[.slice (some ⟨g5, 0, none⟩) ns.length cap5, .slice (some ⟨g2, 0, none⟩) nr p2]) (results_cell_row Tryz.results6 _ _ (b + 1) 25 _ (0, 0) _ rfl hF Tryz.underlying25 rfl (by kernel_rfl)) rfl ⟨out_fx HD.out.2.2.1 hx (fun k hk => by have := HD.out.2.2.2; omega), g5, cap5, vs, .slice (some ⟨g2, 0, none⟩) nr p2, rfl, ?_⟩
        exact (HD.out.2.1.fx hx (fun k z1 e => by omega)).low (by have := HD.out.2.2.2; omega)
end Go.Proofs.YtghlbdmldahnlaaGreatDoor
