/- graph: collect of a weak pair and what it holds -/
import Derived.Test.YtocncffplcfpbaaGreatDoorGrj
namespace Go.Proofs.YtocncffplcfpbaaGreatDoor
open Go.RowKit Go.MapKept
set_option linter.unusedVariables false
set_option linter.unusedSimpArgs false

def bi (d : Bool) : Int := if d then 1 else 0
def fS (n1 n2 : Nat) (d : Bool) (y : Int) : Option Value := if y = 1 then some (.pointer (some ⟨n1, 0, none⟩)) else if y = 2 then (if d then none else some (.pointer (some ⟨n2, 0, none⟩))) else none
/-- where collect stands: whether the first, the second node was come to -/
def CS (W w : World) (z h m ri rp q lm n1 n2 gf fc : Nat) (k x : Int) (d1 d2 : Bool) (cnt : Nat) : Prop :=
  Fx (fun j => j = m ∨ j = n1) W w ∧ W.heap.size ≤ ri ∧ W.heap.size ≤ rp ∧ ri ≠ rp ∧ (∃ L, RG w m ri (fS n1 n2 d2) L cnt ∧ L 1 = !d1 ∧ (d2 = false → L 2 = true)) ∧ Bl w rp #[.int .i64 (bi d1), .int .i64 (bi d2), .int .i64 (bi d1), .int .i64 0, .int .i64 0] 34 ∧
    w.cell? ⟨q, 0, none⟩ = some (.map (some lm)) ∧ MpAt w lm (fun y => if y = 1 then some (.agg #[]) else none) ∧ W.heap.size ≤ q ∧ W.heap.size ≤ lm ∧ q ≠ ri ∧ q ≠ rp ∧ lm ≠ ri ∧ lm ≠ rp ∧ (Bl w z #[.int .i64 0, .int .i64 0, .int .i64 0, .int .i64 0, .int .i64 0] 34 ∧ z ≠ ri ∧ z ≠ rp ∧ W.heap.size ≤ z) ∧
    (d1 = false → Bl w n1 (ndc 8 (.slice none 0 0) (.slice (some ⟨gf, 0, none⟩) 2 fc)) 94) ∧ (d1 = true → ∃ nf, W.heap.size ≤ nf ∧ nf ≠ ri ∧ nf ≠ rp ∧ nf ≠ z ∧ Bl w n1 (ndc 8 (.slice none 0 0) (.slice (some ⟨nf, 0, none⟩) 2 2)) 94 ∧ VsAt w (some ⟨nf, 0, none⟩) [(3, 4), (k, x)])
theorem results_cell1 {P : Program} {fn : Func} {p : Tmp} {a : TypeId} {t : Array Value} {w : World} {v : Value} {A1 : Addr} (hr : fn.results = #[.cell p a]) (hp : t.getD p undef = .pointer (some A1)) (r1 : (loadVar a A1).run P w = .ok v w) : (results fn t).run P w = .ok v w := by
  have hp' : t[p]?.getD undef = .pointer (some A1) := by simpa using hp
  simp only [results, hr]
  simp [Sem.run_bind, hp', asAddr, r1, Result.andThen]
theorem infoR (a b c d e : Int) : (Tryz.prog.info? 34).map (·.size) = some (#[Value.int .i64 a, Value.int .i64 b, Value.int .i64 c, Value.int .i64 d, Value.int .i64 e] : Array Value).size := by kernel_rfl
theorem load_rep {w : World} {g : Nat} {a b c d e : Int} (hg : Bl w g #[.int .i64 a, .int .i64 b, .int .i64 c, .int .i64 d, .int .i64 e] 34) : (loadVar 34 ⟨g, 0, none⟩).run Tryz.prog w = .ok (.agg #[.int .i64 a, .int .i64 b, .int .i64 c, .int .i64 d, .int .i64 e]) w :=
  run_loadVar_row w g 34 34 _ (0, 0) _ hg Tryz.underlying34 rfl (infoR a b c d e)
/-- what stands beside the heap that is collected -/
def CA (W : World) (h m n1 n2 gf fc : Nat) (la k x : Int) : Prop :=
  HP W h m la (fS n1 n2 false) ∧ Bl W n1 (ndc 8 (.slice none 0 0) (.slice (some ⟨gf, 0, none⟩) 2 fc)) 94 ∧ 2 ≤ fc ∧ k ≠ 2 ∧ W.cell? ⟨gf, 0, none⟩ = some (.int .i64 2) ∧ W.cell? ⟨gf, 1, none⟩ = some (.int .i64 2) ∧ W.cell? ⟨gf, 2, none⟩ = some (.int .i64 k) ∧ W.cell? ⟨gf, 3, none⟩ = some (.int .i64 x) ∧ h ≠ m ∧ h ≠ n1 ∧ gf ≠ m ∧ gf ≠ n1 ∧ m ≠ n1
set_option maxRecDepth 100000 in
set_option maxHeartbeats 8000000 in
theorem collect_one {W : World} {h m n1 n2 gf fc gr rc : Nat} {la k x : Int} (hA : CA W h m n1 n2 gf fc la k x) (r0 : W.cell? ⟨gr, 0, none⟩ = some (.int .i64 2)) (r1 : W.cell? ⟨gr, 1, none⟩ = some (.int .i64 1)) :
    Calls Tryz.prog 10 #[.pointer (some ⟨h, 0, none⟩), .slice (some ⟨gr, 0, none⟩) 1 rc] W fun e w' => e = .returned (.agg #[.int .i64 1, .int .i64 1, .int .i64 1, .int .i64 0, .int .i64 0]) ∧ ∃ nf, W.heap.size ≤ nf ∧ Fx (fun j => j = m ∨ j = n1) W w' ∧ MpAt w' m (fS n1 n2 true) ∧ Bl w' n1 (ndc 8 (.slice none 0 0) (.slice (some ⟨nf, 0, none⟩) 2 2)) 94 ∧ VsAt w' (some ⟨nf, 0, none⟩) [(3, 4), (k, x)] := by
  have HA := hid_mk hA
  have o0 : Out 0 0 W (W.alloc (.cells #[.int .i64 0, .int .i64 0, .int .i64 0, .int .i64 0, .int .i64 0] 34)) := (Out.refl 0 0 W).alloc _
  have HR := hid_mk (reach_one (rc := rc) (hA.1.quiet o0) rfl (hA.2.1.kept o0 (.inr (Nat.zero_le _))) hA.2.2.1 hA.2.2.2.1 (o0.cell hA.2.2.2.2.2.2.1 (.inr (Nat.zero_le _))) (o0.cell hA.2.2.2.2.2.2.2.1 (.inr (Nat.zero_le _))) (o0.cell r0 (.inr (Nat.zero_le _))) (o0.cell r1 (.inr (Nat.zero_le _))))
  have B0 := hid_mk (And.intro o0 (Bl.new W #[.int .i64 0, .int .i64 0, .int .i64 0, .int .i64 0, .int .i64 0] 34))
  clear hA r0 r1 o0
  go_enter Tryz.func10, Tryz.ntmps10
  go_wp2_with fail
  obtain ⟨W0, hW0⟩ : ∃ W0, W.alloc (.cells #[.int .i64 0, .int .i64 0, .int .i64 0, .int .i64 0, .int .i64 0] 34) = W0 := ⟨_, rfl⟩
  obtain ⟨z, hz⟩ : ∃ z, W.heap.size = z := ⟨_, rfl⟩
  rw [hW0] at HR B0 ⊢
  rw [hz] at B0 ⊢
  replace B0 := hid_mk (And.intro B0.out hz)
  clear hW0 hz
  refine HR.out.mono ?_
  rintro e w1 ⟨lm, rfl, o1, l1, m1⟩
  have H1 := hid_mk (And.intro o1 (And.intro l1 m1))
  have hms := (HA.out.1.quiet (B0.out.1.1.trans o1)).1.cell (i := 0) rfl
  have hhl := HA.out.1.1.lt
  have hhl2 : h < w1.heap.size := Nat.lt_of_lt_of_le hhl (B0.out.1.1.trans o1).size
  clear o1 l1 m1 HR hhl
  go_upto_region 4 with fail
  obtain ⟨V, hV⟩ : ∃ V, (w1.alloc (.cells #[.map (some lm)] 51)).alloc (.cells #[.int .i64 0, .int .i64 0, .int .i64 0, .int .i64 0, .int .i64 0] 34) = V := ⟨_, rfl⟩
  obtain ⟨q, hq⟩ : ∃ q, w1.heap.size = q := ⟨_, rfl⟩
  have oV1 : Out 0 0 w1 V := hV ▸ ((Out.refl 0 0 w1).alloc _).alloc _
  have oV : Out 0 0 W V := (B0.out.1.1.trans H1.out.1).trans oV1
  have bq : Bl V q #[.map (some lm)] 51 := by rw [← hV, ← hq]; exact (Bl.new _ _ _).alloc _
  have brp : Bl V (q + 1) #[.int .i64 0, .int .i64 0, .int .i64 0, .int .i64 0, .int .i64 0] 34 := by
    have := Bl.new (w1.alloc (.cells #[.map (some lm)] 51)) #[.int .i64 0, .int .i64 0, .int .i64 0, .int .i64 0, .int .i64 0] 34
    rwa [size_alloc, hV, hq] at this
  have hVs : V.heap.size = q + 2 := by rw [← hV, size_alloc, size_alloc, hq]
  rw [hV, hq]
  obtain ⟨w3, cnt, hrg, hR, o3⟩ := RG.start (P := Tryz.prog) (HA.out.1.quiet oV).2 Tryz.underlying57
  rw [hVs] at hrg hR
  have HC : Hid (CS W w3 z h m (q + 2) (q + 1) q lm n1 n2 gf fc k x false false cnt) := by
    have hlm := H1.out.2.2.lt
    obtain ⟨⟨s1, s2⟩, s3⟩ := B0.out
    have s4 := s2.lt
    have s5 := H1.out.1.size
    have s6 := H1.out.2.1
    have oW3 := oV.trans o3
    exact hid_mk ⟨Fx.of_out oW3, by omega, by omega, by omega, ⟨_, hR, rfl, fun _ => rfl⟩, brp.kept o3 (.inr (Nat.zero_le _)), (bq.kept o3 (.inr (Nat.zero_le _))).cell (i := 0) rfl, (H1.out.2.2.kept oV1 (.inr (Nat.zero_le _))).kept o3 (.inr (Nat.zero_le _)), by omega, by omega, by omega, by omega, by omega, by omega, ⟨((s2.kept H1.out.1 (.inr (Nat.zero_le _))).kept oV1 (.inr (Nat.zero_le _))).kept o3 (.inr (Nat.zero_le _)), by omega, by omega, by omega⟩, fun _ => HA.out.2.1.kept oW3 (.inr (Nat.zero_le _)), fun q => by cases q⟩
  replace hms := oV1.cell hms (.inr (Nat.zero_le _))
  clear hV hq oV1 oV bq brp hVs hR o3 H1 B0 hhl2
  go_wp2_with fail
  clear hms hrg
  obtain ⟨rp, hrp⟩ : ∃ rp, q + 1 = rp := ⟨_, rfl⟩
  obtain ⟨ri, hri⟩ : ∃ ri, q + 2 = ri := ⟨_, rfl⟩
  rw [hrp, hri] at HC ⊢
  clear hrp hri
  go_loopw [8] (fun _ wr => ∃ d1 d2 cnt, CS W wr z h m ri rp q lm n1 n2 gf fc k x d1 d2 cnt) (fun _ wr => wr.rangeLeft m ri)
  case atStart => exact ⟨_, _, _, HC.out⟩
  case round =>
    obtain ⟨d1, d2, cnt, hC⟩ := hrel
    obtain ⟨c1, c2, c3, c4, ⟨L, hL, L1, L2⟩, c6⟩ := hC
    rcases hL.next (P := Tryz.prog) 0 with ⟨hD, hnx⟩ | ⟨a, v, w', cnt', ha, hLa, hnx, hR, hlt, xr, hen⟩
    · have hd1 : d1 = true := by
        have := hD 1 _ rfl
        rw [L1] at this
        simpa using this
      have hd2 : d2 = true := by
        cases d2 with
        | true => rfl
        | false =>
          have := hD 2 _ rfl
          rw [L2 rfl] at this
          cases this
      subst hd1 hd2
      obtain ⟨b1, b2, b3, b4, b5, b6, b7, b8, b9, ⟨bz, z1, z2, z3⟩, -, b10⟩ := c6
      obtain ⟨nf, n3, n4, n5, n8, n6, n7⟩ := b10 rfl
      have e0 := b1.cell (i := 0) rfl
      have e1 := b1.cell (i := 1) rfl
      have e2 := b1.cell (i := 2) rfl
      have e3 := b1.cell (i := 3) rfl
      have e4 := b1.cell (i := 4) rfl
      simp only [List.getElem_toArray, List.getElem_cons_zero, List.getElem_cons_succ, bi, if_true] at e0 e1 e2 e3 e4
      have f0 := bz.cell (i := 0) rfl
      have f1 := bz.cell (i := 1) rfl
      have f2 := bz.cell (i := 2) rfl
      have f3 := bz.cell (i := 3) rfl
      have f4 := bz.cell (i := 4) rfl
      have g0 := bz.frozen 0
      have g1 := bz.frozen 1
      have g2 := bz.frozen 2
      have g3 := bz.frozen 3
      have g4 := bz.frozen 4
      have HF := hid_mk (And.intro bz (And.intro c1 (And.intro hL.mp (And.intro n3 (And.intro n6 (And.intro n7 (And.intro z3 (And.intro HA.out n8))))))))
      clear bz b1 b2 b3 b4 b5 b6 b7 b8 b9 b10 z1 z2 z3 n3 n4 n5 n6 n7 n8 c1 c2 c3 c4 hL L1 L2 hD
      go_wp2_with fail
      obtain ⟨bz, c1, mm, n3, n6, n7, z3, hA, n8⟩ := HF.out
      have xz : Fx (fun j => j = z) wr (((((wr.setCell ⟨z, 0, none⟩ (.int .i64 1)).setCell ⟨z, 1, none⟩ (.int .i64 1)).setCell ⟨z, 2, none⟩ (.int .i64 1)).setCell ⟨z, 3, none⟩ (.int .i64 0)).setCell ⟨z, 4, none⟩ (.int .i64 0)) := (((((Fx.refl (fun j => j = z) wr).set (p := ⟨z, 0, none⟩) (.inl rfl) _).set (p := ⟨z, 1, none⟩) (.inl rfl) _).set (p := ⟨z, 2, none⟩) (.inl rfl) _).set (p := ⟨z, 3, none⟩) (.inl rfl) _).set (p := ⟨z, 4, none⟩) (.inl rfl) _
      have hml := hA.1.2.lt
      have hnl := hA.2.1.lt
      exact bodyPost_ret (results_cell1 Tryz.results10 rfl (load_rep (((((bz.set 0 _).set 1 _).set 2 _).set 3 _).set 4 _))) rfl ⟨rfl, nf, n3, c1.then xz (fun j h1 h2 => by omega), mm.fx xz (by omega), n6.fx xz (by omega), n7.fx xz (fun q hq => by cases hq; exact n8)⟩
    · by_cases ha1 : a = 1
      · subst ha1
        have hd1 : d1 = false := by rw [L1] at hLa; simpa using hLa
        subst hd1
        rw [show fS n1 n2 d2 1 = some (.pointer (some ⟨n1, 0, none⟩)) from rfl] at ha
        cases ha
        obtain ⟨b1, b2, b3, b4, b5, b6, b7, b8, b9, ⟨bz, z1, z2, z3⟩, b10, -⟩ := c6
        have hA := HA.out
        have hml := hA.1.2.lt
        have hnl := hA.2.1.lt
        have x1 : Fx (fun j => j = m ∨ j = n1) W w' := c1.then xr (fun j h1 h2 => by omega)
        have q1 := b1.fx xr (by omega)
        have q2 := xr.cell b2 (by omega)
        have q3 := b3.fx xr (by omega)
        have q4 := bz.fx xr (by omega)
        have q5 := (b10 rfl).fx xr (by omega)
        have lk := mp_look true Tryz.underlying51 Tryz.underlying3 (zero_st _) q3 1
        rw [if_pos rfl, show (if (1 : Int) = 1 then some (Value.agg #[]) else none) = some (Value.agg #[]) from rfl] at lk
        simp only [Option.getD_some, Option.isSome_some] at lk
        have e0 := q1.cell (i := 0) rfl
        have e1 := q1.frozen 0
        simp only [List.getElem_toArray, List.getElem_cons_zero, List.getElem_cons_succ, bi] at e0
        have hrl := q1.lt
        have HS := hid_mk (And.intro x1 (And.intro q1 (And.intro q2 (And.intro q3 (And.intro q4 (And.intro q5 (And.intro hR (And.intro hlt (And.intro hL (And.intro L2 hA))))))))))
        have HB := hid_mk (And.intro c2 (And.intro c3 (And.intro c4 (And.intro b4 (And.intro b5 (And.intro b6 (And.intro b7 (And.intro b8 (And.intro b9 (And.intro z1 (And.intro z2 z3)))))))))))
        clear hA hml hnl x1 q1 q3 q4 q5 c1 c2 c3 c4 b1 b2 b3 b4 b5 b6 b7 b8 b9 bz z1 z2 z3 b10 L1 L2 hLa hR hlt xr hL
        go_wp2_with fail
        obtain ⟨w5, hw5⟩ : ∃ w5, (w'.setCell ⟨rp, 0, none⟩ (.int .i64 1)).alloc (.cells #[] 52) = w5 := ⟨_, rfl⟩
        have x5 : Fx (fun j => j = rp) w' w5 := hw5 ▸ (Fx.set (S := fun j => j = rp) (Fx.refl _ w') (p := ⟨rp, 0, none⟩) (.inl rfl) _).alloc _
        obtain ⟨x1, q1, q2', q3, q4, q5, hR, hlt, hL, L2, hA⟩ := HS.out
        obtain ⟨c2, c3, c4, b4, b5, b6, b7, b8, b9, z1, z2, z3⟩ := HB.out
        have hml := hA.1.2.lt
        have hnl := hA.2.1.lt
        have q6 : Bl w5 rp #[.int .i64 1, .int .i64 (bi d2), .int .i64 0, .int .i64 0, .int .i64 0] 34 := hw5 ▸ (q1.set 0 (.int .i64 1)).alloc _
        have hgl : ∀ o v, W.cell? ⟨gf, o, none⟩ = some v → w5.cell? ⟨gf, o, none⟩ = some v := fun o v hv => x5.cell (x1.cell hv (by have := hA.2.2.2.2.2.2.2.2.2.2.1; have := hA.2.2.2.2.2.2.2.2.2.2.2.1; omega)) (by have := cell_lt hv; omega)
        rw [hw5]
        refine (forget_weak (q5.fx x5 (by omega)) q6 (x5.cell q2 (by omega)) (q3.fx x5 (by omega)) (fun y v hv => by by_cases hy : y = 1 <;> simp [hy] at hv; exact hv.symm) (by simp) (hgl _ _ hA.2.2.2.2.1) (hgl _ _ hA.2.2.2.2.2.1) (hgl _ _ hA.2.2.2.2.2.2.1) (hgl _ _ hA.2.2.2.2.2.2.2.1)).mono ?_
        rintro e w6 ⟨rfl, nf, y1, y2, y3, y4, y5⟩
        have HN : Hid (CS W w6 z h m ri rp q lm n1 n2 gf fc k x true d2 cnt' ∧ cnt' < cnt ∧ wr.rangeLeft m ri = cnt) := by
          have hrl2 := hR.lt
          have hzl := q4.lt
          have s1 := x5.size
          have hmn := hA.2.2.2.2.2.2.2.2.2.2.2.2
          refine hid_mk ⟨⟨(x1.then x5 (fun j h1 h2 => by omega)).then y1 (fun j h1 h2 => by omega), c2, c3, c4, ⟨_, (hR.fx x5 (by omega) (by omega)).fx y1 (by omega) (by omega), by simp, fun hd => by simp [L2 hd]⟩, y3, y1.cell (x5.cell q2 (by omega)) (by omega), (q3.fx x5 (by omega)).fx y1 (by omega), b4, b5, b6, b7, b8, b9, ⟨(q4.fx x5 (by omega)).fx y1 (by omega), z1, z2, z3⟩, fun hd => (by cases hd), fun _ => ⟨nf, ?_, ?_, ?_, ?_, y2, y5⟩⟩, hlt, hL.left⟩
          · have := x1.size; omega
          · omega
          · omega
          · omega
        clear y1 y2 y3 y4 y5 hw5 x5 x1 q1 q2' q3 q4 q5 hR hlt hL L2 hA c2 c3 c4 b4 b5 b6 b7 b8 b9 z1 z2 z3 hml hnl q6 hgl HS HB q2 e0 e1 hrl lk hnx hen
        go_wp2_with fail
        exact ⟨⟨_, _, _, HN.out.1⟩, by obtain ⟨L, hL, -⟩ := HN.out.1.2.2.2.2.1; rw [hL.left, HN.out.2.2]; exact HN.out.2.1⟩
      · have hd2 : a = 2 ∧ d2 = false ∧ v = .pointer (some ⟨n2, 0, none⟩) := by
          unfold fS at ha
          rw [if_neg ha1] at ha
          by_cases ha2 : a = 2
          · rw [if_pos ha2] at ha
            cases d2 <;> simp at ha
            exact ⟨ha2, rfl, ha.symm⟩
          · rw [if_neg ha2] at ha; cases ha
        obtain ⟨rfl, rfl, rfl⟩ := hd2
        obtain ⟨b1, b2, b3, b4, b5, b6, b7, b8, b9, ⟨bz, z1, z2, z3⟩, b10, b11⟩ := c6
        have hA := HA.out
        have hml := hA.1.2.lt
        have hnl := hA.2.1.lt
        have x1 : Fx (fun j => j = m ∨ j = n1) W w' := c1.then xr (fun j h1 h2 => by omega)
        have q1 := b1.fx xr (by omega)
        have q2 := xr.cell b2 (by omega)
        have q3 := b3.fx xr (by omega)
        have q4 := bz.fx xr (by omega)
        have lk := mp_look true Tryz.underlying51 Tryz.underlying3 (zero_st _) q3 2
        rw [if_pos rfl, show (if (2 : Int) = 1 then some (Value.agg #[]) else none) = none from rfl] at lk
        simp only [Option.getD_none, Option.isSome_none] at lk
        have oE : Out 0 0 w' (w'.alloc (.cells #[] 52)) := (Out.refl 0 0 w').alloc _
        obtain ⟨w6, cnt6, dl, hR6, hle, x6⟩ := RG.del (P := Tryz.prog) (ty := 0) Tryz.underlying57 Tryz.underlying3 (hR.quiet oE) 2
        have e5 := oE.cell (x1.cell (hA.1.1.cell (i := 0) rfl) (by have := hA.2.2.2.2.2.2.2.2.1; have := hA.2.2.2.2.2.2.2.2.2.1; omega)) (.inr (Nat.zero_le _))
        have q6 := (q1.kept oE (.inr (Nat.zero_le _))).fx x6 (by omega)
        have e0 := q6.cell (i := 1) rfl
        have e1 := q6.frozen 1
        simp only [List.getElem_toArray, List.getElem_cons_zero, List.getElem_cons_succ, bi] at e0
        have HN : Hid (CS W (w6.setCell ⟨rp, 1, none⟩ (.int .i64 1)) z h m ri rp q lm n1 n2 gf fc k x d1 true cnt6 ∧ cnt6 < cnt ∧ wr.rangeLeft m ri = cnt) := by
          have xs : Fx (fun j => j = rp) w6 (w6.setCell ⟨rp, 1, none⟩ (.int .i64 1)) := Fx.set (S := fun j => j = rp) (Fx.refl _ w6) (p := ⟨rp, 1, none⟩) (.inl rfl) _
          have xm : Fx (fun j => j = m) w' w6 := (Fx.of_out oE).trans x6
          have hff : (fun x => if x = 2 then none else fS n1 n2 false x) = fS n1 n2 true := by
            funext y
            unfold fS
            by_cases h1 : y = 1
            · subst h1; rfl
            · by_cases h2 : y = 2
              · subst h2; rfl
              · rw [if_neg h2, if_neg h1, if_neg h2, if_neg h1, if_neg h2]
          rw [hff] at hR6
          have hmn := hA.2.2.2.2.2.2.2.2.2.2.2.2
          refine hid_mk ⟨⟨(x1.then xm (fun j h1 h2 => .inl h2)).then xs (fun j h1 h2 => by omega), c2, c3, c4, ⟨_, hR6.fx xs (by omega) (by omega), by simp [L1], fun hd => by cases hd⟩, q6.set 1 (.int .i64 1), xs.cell (xm.cell q2 (by omega)) (by omega), (q3.fx xm (by omega)).fx xs (by omega), b4, b5, b6, b7, b8, b9, ⟨(q4.fx xm (by omega)).fx xs (by omega), z1, z2, z3⟩, fun hd => ((((b10 hd).fx xr (by omega)).fx xm (by omega)).fx xs (by omega)), fun hd => ?_⟩, Nat.lt_of_le_of_lt hle hlt, hL.left⟩
          obtain ⟨nf, n3, n4, n5, n8, n6, n7⟩ := b11 hd
          exact ⟨nf, n3, n4, n5, n8, ((n6.fx xr (by omega)).fx xm (by omega)).fx xs (by omega), ((n7.fx xr (fun q hq => by cases hq; exact n4)).fx xm (fun q hq => by cases hq; show ¬ nf = m; omega)).fx xs (fun q hq => by cases hq; exact n5)⟩
        clear hA hml hnl x1 q1 q3 q4 c1 c2 c3 c4 b1 b2 b3 b4 b5 b6 b7 b8 b9 bz z1 z2 z3 b10 b11 L1 L2 hLa hR hlt xr hL hR6 hle x6 q6 ha1 ha
        go_wp2_with fail
        exact ⟨⟨_, _, _, HN.out.1⟩, by obtain ⟨L, hL, -⟩ := HN.out.1.2.2.2.2.1; rw [hL.left, HN.out.2.2]; exact HN.out.2.1⟩
end Go.Proofs.YtocncffplcfpbaaGreatDoor
