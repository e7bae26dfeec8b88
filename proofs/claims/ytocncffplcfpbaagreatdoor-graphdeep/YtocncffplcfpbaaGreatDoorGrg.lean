/- graph: the worklist, meet, look on the road of the one live node -/
import Derived.Test.YtocncffplcfpbaaGreatDoorGrf
namespace Go.Proofs.YtocncffplcfpbaaGreatDoor
open Go.RowKit Go.MapKept
set_option linter.unusedVariables false
set_option linter.unusedSimpArgs false

theorem MpAt.fx {S : Nat → Prop} {w w' : World} {b : Nat} {f : Int → Option Value} (h : MpAt w b f) (x : Fx S w w') (hS : ¬ S b) : MpAt w' b f := by
  obtain ⟨es, clock, hb, r⟩ := h
  exact ⟨es, clock, x.heap hb hS, r⟩
theorem zero_st (w : World) : (zeroValue 52).run Tryz.prog w = .ok (.agg #[]) w := by kernel_rfl
theorem look_nil (x : Int) (w : World) : (Instr.lookup 51 (.map none) (.int .i64 x) true).run Tryz.prog w = .ok (.tuple #[.agg #[], .bool false]) w := by kernel_rfl
set_option maxHeartbeats 2000000 in
theorem has_nil {W : World} {s : Nat} (hs : W.cell? ⟨s, 0, none⟩ = some (.map none)) (x : Int) :
    Calls Tryz.prog 79 #[.pointer (some ⟨s, 0, none⟩), .int .i64 x] W fun e w' => e = .returned (.bool false) ∧ Out 0 0 W w' := by
  have lk := look_nil
  go_enter Tryz.func79, Tryz.ntmps79
  go_wp2_with fail
  go_ret
  exact ⟨rfl, (Out.refl 0 0 W).alloc _⟩
theorem info_i : (Tryz.prog.info? 3).map (fun i => (i.zero, i.size, i.bytes)) = some (some (.int .i64 0), 1, 8) := by kernel_rfl
theorem map_eq (w : World) : (binOp .eql 51 (.map none) (.map none)).run Tryz.prog w = .ok (.bool true) w := by kernel_rfl
set_option maxHeartbeats 2000000 in
set_option maxRecDepth 100000 in
theorem put_first {W : World} {s : Nat} {wv : Value} (hs : Bl W s #[.map none, .slice none 0 0, wv] 78) (x : Int) :
    Calls Tryz.prog 53 #[.pointer (some ⟨s, 0, none⟩), .int .i64 x] W fun e w' => e = .returned (.tuple #[]) ∧ ∃ m b c, Fx (fun k => k = s) W w' ∧ W.heap.size ≤ m ∧ m < b ∧ MpAt w' m (fun y => if y = x then some (.agg #[]) else none) ∧ Bl w' s #[.map (some m), .slice (some ⟨b, 0, none⟩) 1 c, wv] 78 ∧ w'.cell? ⟨b, 0, none⟩ = some (.int .i64 x) := by
  have c0 := hs.cell (i := 0) rfl
  have c1 := hs.cell (i := 1) rfl
  have z0 := hs.frozen 0
  have z1 := hs.frozen 1
  have HS := hid_mk hs
  have hmm := @run_makeMap Tryz.prog
  have hme := map_eq
  go_enter Tryz.func53, Tryz.ntmps53
  go_wp2_with fail
  refine (has_nil c0 x).mono ?_
  rintro e w1 ⟨rfl, o1⟩
  replace c0 := o1.cell c0 (.inr (Nat.zero_le _))
  replace c1 := o1.cell c1 (.inr (Nat.zero_le _))
  replace HS := hid_mk (HS.out.kept o1 (.inr (Nat.zero_le _)))
  replace z0 := HS.out.frozen 0
  replace z1 := HS.out.frozen 1
  have hl := HS.out.lt
  go_upto_region 3 with fail
  obtain ⟨X, hX⟩ : ∃ X, (w1.setCell ⟨s, 0, none⟩ (.map (some w1.heap.size))).alloc (.map #[] 0) = X := ⟨_, rfl⟩
  obtain ⟨m, hm⟩ : ∃ m, w1.heap.size = m := ⟨_, rfl⟩
  rw [hm] at hX
  rw [hm, hX]
  have xX : Fx (fun k => k = s) w1 X := hX ▸ (Fx.set (S := fun k => k = s) (Fx.refl _ w1) (p := ⟨s, 0, none⟩) (.inl rfl) _).alloc _
  have bX : Bl X s #[.map (some m), .slice none 0 0, wv] 78 := hX ▸ (HS.out.set 0 (.map (some m))).alloc _
  have mX : MpAt X m (fun _ => none) := by
    have := mp_new (w1.setCell ⟨s, 0, none⟩ (.map (some m)))
    rw [size_set, hm, hX] at this
    exact this
  obtain ⟨Y, r9, m9, y9⟩ := mp_put Tryz.underlying51 Tryz.underlying3 mX x (.agg #[])
  have c2 := bX.cell (i := 0) rfl
  have hsm : s < m := hm ▸ hl
  have bY := bX.kept y9 (.inl hsm)
  have c3 := bY.cell (i := 1) rfl
  have z3 := bY.frozen 1
  have hsY := bY.lt
  have HZ := hid_mk (And.intro o1 (And.intro xX (And.intro bY (And.intro m9 (And.intro y9 (And.intro hm hsm))))))
  clear hX hm xX bX mX m9 y9 bY HS c0 c1 z0 z1 hl hmm hme hs o1 hsm
  go_wp2_with fail
  refine bodyPost_end (results_none Tryz.results53 _ _ _) rfl ⟨rfl, m, Y.heap.size + 1, (Question.appendCap 1 0 3).cut (Y.tape Y.drawn (Question.appendCap 1 0 3)), ?_, ?_, ?_, ?_, ?_, ?_⟩
  all_goals obtain ⟨o1, xX, bY, m9, y9, hm, hsm⟩ := HZ.out
  · have x1 : Fx (fun k => k = s) W Y := ((Fx.of_out o1).trans xX).then (S' := fun k => k = m) ⟨y9.1, y9.2.1, y9.2.2.1, y9.size, fun k h1 h2 => y9.block h1 (by omega)⟩ (fun k h1 h2 => by have := o1.size; omega)
    exact (((x1.set (p := ⟨s, 1, none⟩) (.inl rfl) _).alloc _).alloc _).drew
  · have := o1.size
    omega
  · have := xX.size
    have := y9.size
    have := m9.lt
    omega
  · refine MpAt.fx (S := fun k => k = s) m9 ((((Fx.refl (fun k => k = s) Y).set (S := fun k => k = s) (p := ⟨s, 1, none⟩) (.inl rfl) _).alloc _).alloc _).drew (by omega)
  · exact (((bY.set 1 _).alloc _).alloc _).kept ((Out.refl 0 0 _).drew) (.inr (Nat.zero_le _))
  · have := (Bl.new ((Y.setCell ⟨s, 1, none⟩ (.slice (some ⟨Y.heap.size + 1, 0, none⟩) 1 ((Question.appendCap 1 0 3).cut (Y.tape Y.drawn (Question.appendCap 1 0 3))))).alloc (.cells #[.int .i64 x] 3)) (#[.int .i64 x] ++ Builtin.zeroCells #[.int .i64 0] ((Question.appendCap 1 0 3).cut (Y.tape Y.drawn (Question.appendCap 1 0 3)) - 1)) 3).kept ((Out.refl 0 0 _).drew) (.inr (Nat.zero_le _))
    rw [size_alloc, size_set] at this
    exact this.cell (i := 0) (by rw [Array.getElem?_append_left (by simp)]; rfl)
set_option maxHeartbeats 4000000 in
theorem meet_quiet {W : World} {s : Nat} (fa : Option Addr) (nf fc : Nat) (l : List (Int × Int)) (hl : l.length = nf) (hn : nf ≤ 1000000) (hf : VsAt W fa l) (hp : ∀ v ∈ l, v.1 ≠ 2) :
    Calls Tryz.prog 30 #[.pointer (some ⟨s, 0, none⟩), .slice fa nf fc] W fun e w' => e = .returned (.tuple #[]) ∧ Out 0 0 W w' := by
  have HH := hid_mk (And.intro hl (And.intro hn (And.intro hp hf)))
  clear hf hp hl hn
  have HO0 : Hid (Out 0 0 W W) := hid_mk (Out.refl 0 0 _)
  go_enter Tryz.func30, Tryz.ntmps30
  go_wp2_with fail
  go_loopw [8] (fun c wr => ∃ i : Nat, c = .int .i64 i ∧ i ≤ nf ∧ Out 0 0 W wr) (fun c _ => nf - (intOf c).toNat)
  case atStart => exact ⟨0, rfl, Nat.zero_le _, HO0.out⟩
  case round =>
    obtain ⟨i, rfl, him, hO⟩ := hrel
    by_cases hgo : i < nf
    · obtain ⟨l1, l2⟩ := lt_d hgo
      obtain ⟨hl, hn, hp, hf⟩ := HH.out
      obtain ⟨⟨k, x⟩, hv⟩ : ∃ v, l[i]? = some v := ⟨_, List.getElem?_eq_getElem (by omega)⟩
      obtain ⟨gf, off, rfl, d0, d1⟩ := hf.at hv
      replace d0 := hO.cell d0 (.inr (Nat.zero_le _))
      replace d1 := hO.cell d1 (.inr (Nat.zero_le _))
      have p1 := hp (k, x) (List.mem_of_getElem? hv)
      simp only at d0 d1 p1
      have hk' : (k == 2) = false := by simpa using p1
      have HI := hid_mk (And.intro hgo (And.intro hn (hO.alloc (.cells #[.int .i64 k, .int .i64 x] 28))))
      have lmi : (i : Int) < (nf : Int) := by omega
      clear hl hn hp hf hv him hgo hO p1
      go_wp2_with fail
      exact ⟨⟨i + 1, up_v HI.out.1 HI.out.2.1, HI.out.1, HI.out.2.2⟩, by rw [up_w HI.out.1 HI.out.2.1]; exact ms_n HI.out.1⟩
    · obtain rfl : nf = i := by omega
      have l1 : decide ((nf : Int) < (nf : Int)) = false := by simp
      have HO2 := hid_mk hO
      clear hgo him hO HH HO0
      go_wp2_with fail
      exact bodyPost_end (results_none Tryz.results30 _ _ _) rfl ⟨rfl, HO2.out⟩
/-- a search that has met x alone, and has still to look at it -/
def Met1 (W w' : World) (s : Nat) (wv : Value) (x : Int) (n : Nat) : Prop := ∃ m b c, Fx (fun k => k = s) W w' ∧ W.heap.size ≤ m ∧ m < b ∧ MpAt w' m (fun y => if y = x then some (.agg #[]) else none) ∧ Bl w' s #[.map (some m), .slice (some ⟨b, 0, none⟩) n c, wv] 78 ∧ w'.cell? ⟨b, 0, none⟩ = some (.int .i64 x)
set_option maxRecDepth 100000 in
set_option maxHeartbeats 4000000 in
theorem meet_one {W : World} {s : Nat} {wv : Value} (hs : Bl W s #[.map none, .slice none 0 0, wv] 78) (gf off fc : Nat) (x : Int) (d0 : W.cell? ⟨gf, off, none⟩ = some (.int .i64 2)) (d1 : W.cell? ⟨gf, off + 1, none⟩ = some (.int .i64 x)) :
    Calls Tryz.prog 30 #[.pointer (some ⟨s, 0, none⟩), .slice (some ⟨gf, off, none⟩) 1 fc] W fun e w' => e = .returned (.tuple #[]) ∧ Met1 W w' s wv x 1 := by
  have HS := hid_mk hs
  clear hs
  go_enter Tryz.func30, Tryz.ntmps30
  go_wp2_with fail
  go_loopw [8] (fun c wr => (c = .int .i64 0 ∧ wr = W) ∨ (c = .int .i64 1 ∧ Met1 W wr s wv x 1)) (fun c _ => 1 - (intOf c).toNat)
  case atStart => exact .inl ⟨rfl, rfl⟩
  case round =>
    rcases hrel with ⟨rfl, rfl⟩ | ⟨rfl, hM⟩
    · go_upto_region 4 with fail
      obtain ⟨A, hA⟩ : ∃ A, wr.alloc (.cells #[.int .i64 2, .int .i64 x] 28) = A := ⟨_, rfl⟩
      obtain ⟨p, hp⟩ : ∃ p, wr.heap.size = p := ⟨_, rfl⟩
      have oA : Out 0 0 wr A := hA ▸ (Out.refl 0 0 _).alloc _
      have e1 := (show VC_v A p 2 x from by rw [← hA, ← hp]; exact VC_v.new wr 2 x).facts.2.1
      rw [hA, hp]
      have HP1 := hid_mk (put_first (HS.out.kept (oA.drew) (.inr (Nat.zero_le _))) x)
      have HOA := hid_mk oA
      have HPS : Hid (p ≠ s) := hid_mk (by have := HS.out.lt; omega)
      clear hA hp d0 d1 oA HS
      refine wp_region_held_drew (S := fun w' => w'.cell? ⟨p, 1, none⟩ = some (.int .i64 x)) (by kernel_rfl) ?hS1 (fun hHeld => ?rest1)
      case hS1 => exact e1
      refine tk 0 ?_
      refine tk 1 ?_
      refine tk 2 ?_
      refine tk 3 ?_
      refine tk 4 ?_
      refine wpAnyH_ready (rs := [5]) (by kernel_rfl) (by simp) ?_
      refine AllReadyH.cons rfl (fun KK hK => ?_) AllReadyH.nil
      simp only [xa, xb, xc]
      go_simp
      refine HP1.out.mono ?_
      rintro e w5 ⟨rfl, h5⟩
      refine hK.out _ _ ?hS7 (fun hHeld2 => ?rest7)
      case hS7 => exact h5.choose_spec.choose_spec.choose_spec.1.cell (w := A.drew) e1 HPS.out
      clear hK KK
      (try clear hHeld)
      have hHeld := hHeld2
      clear hHeld2
      (try simp only [Act.put, xa, xb, xc, xd, xe, xf])
      refine wpAnyH_done (by kernel_rfl) ?_ _
      have HM : Hid (Met1 wr w5 s wv x 1) := by
        obtain ⟨m, b, c, f1, f2, f3⟩ := h5
        exact hid_mk ⟨m, b, c, (Fx.of_out (HOA.out.drew)).trans f1, Nat.le_trans HOA.out.size f2, f3⟩
      clear h5 hHeld e1 HOA HP1
      go_wp2
      exact ⟨.inr ⟨rfl, HM.out⟩, by decide⟩
    · go_wp2_with fail
      exact bodyPost_end (results_none Tryz.results30 _ _ _) rfl ⟨rfl, hM⟩
theorem take_none {W : World} {s : Nat} {a : Option Addr} {c : Nat} (hs : W.cell? ⟨s, 1, none⟩ = some (.slice a 0 c)) : Calls Tryz.prog 31 #[.pointer (some ⟨s, 0, none⟩)] W fun e w' => e = .returned (.tuple #[.int .i64 0, .bool false]) ∧ w' = W := by
  go_enter Tryz.func31, Tryz.ntmps31
  go_wp2_with fail
  go_ret2
  exact ⟨rfl, rfl⟩
set_option maxHeartbeats 4000000 in
theorem take_one {W : World} {s b c : Nat} {mv wv : Value} {x : Int} (hs : Bl W s #[mv, .slice (some ⟨b, 0, none⟩) 1 c, wv] 78) (hb : W.cell? ⟨b, 0, none⟩ = some (.int .i64 x)) : Calls Tryz.prog 31 #[.pointer (some ⟨s, 0, none⟩)] W fun e w' => e = .returned (.tuple #[.int .i64 x, .bool true]) ∧ Fx (fun k => k = s) W w' ∧ Bl w' s #[mv, .slice (some ⟨b, 0, none⟩) 0 c, wv] 78 := by
  have c1 := hs.cell (i := 1) rfl
  have HS := hid_mk hs
  clear hs
  go_enter Tryz.func31, Tryz.ntmps31
  go_upto_region 5 with fail
  refine wp_region_T (S := fun w' => w'.cell? ⟨s, 1, none⟩ = some (.slice (some ⟨b, 0, none⟩) 1 c) ∧ w'.cell? ⟨b, 0, none⟩ = some (.int .i64 x)) (z := 17) (by kernel_rfl) ?hS8 (fun hHeld => ?rest8)
  case hS8 => exact ⟨c1, hb⟩
  refine tkT 0 ?_
  refine tkT 1 ?_
  refine tkT 2 ?_
  refine tkT 3 ?_
  refine tkT 4 ?_
  refine tkT 5 ?_
  refine tkT 6 ?_
  refine tkT 7 ?_
  refine tkT 8 ?_
  refine tkT 9 ?_
  refine tkT 10 ?_
  refine tkT 11 ?_
  refine tkT 12 ?_
  refine tkT 13 ?_
  refine tkT 14 ?_
  refine wpAnyT_one (i := 15) (by kernel_rfl) rfl (fun KK hK => ?_)
  simp only [xa, xb, xc]
  go_simp
  refine hK.out _ _ ?hS24 (fun hHeld2 => ?rest24)
  case hS24 => exact hHeld
  clear hK KK
  (try clear hHeld)
  have hHeld := hHeld2
  clear hHeld2
  (try simp only [Act.put, xa, xb, xc, xd, xe, xf])
  refine tkT 16 ?_
  refine wpAnyT_last (by kernel_rfl) rfl (fun KK hK => ?_)
  simp only [xa, xb, xc]
  have z9 := HS.out.frozen 1
  go_simp
  refine hK.out _ _ ?_
  clear hK KK
  (try simp only [Act.put, xa, xb, xc, xd, xe, xf])
  refine wpAnyT_done (by kernel_rfl) ?_ _
  clear hHeld c1 hb
  go_wp2
  go_ret2
  exact ⟨rfl, (Fx.set (S := fun k => k = s) (Fx.refl _ W) (p := ⟨s, 1, none⟩) (.inl rfl) _).drew, (HS.out.set 1 _).kept ((Out.refl 0 0 _).drew) (.inr (Nat.zero_le _))⟩
end Go.Proofs.YtocncffplcfpbaaGreatDoor
