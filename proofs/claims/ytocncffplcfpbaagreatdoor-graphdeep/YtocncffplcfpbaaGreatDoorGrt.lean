/- graph: (*Heap).tell of a heap of one node -/
import Derived.Test.YtocncffplcfpbaaGreatDoorGrs
namespace Go.Proofs.YtocncffplcfpbaaGreatDoor
open Go.RowKit Go.MapKept
set_option linter.unusedVariables false
set_option linter.unusedSimpArgs false

theorem mp_one {w : World} {m : Nat} {f : Int → Option Value} {a0 : Int} {v0 : Value} (h : MpAt w m f) (hf : f a0 = some v0) (hf' : ∀ a v, f a = some v → a = a0) : ∃ es clock, w.heap[m]? = some (.map es clock) ∧ es.size = 1 := by
  obtain ⟨es, clock, hb, hs, hk, hm⟩ := h
  refine ⟨es, clock, hb, ?_⟩
  have hp := ((stamped_iff es clock).1 hs).2.2
  obtain ⟨x, hx, hxk, _⟩ := (hm a0 v0).1 hf
  have hall : ∀ y ∈ es.toList, y.key = .int .i64 a0 := fun y hy => by
    obtain ⟨a, ha⟩ := hk y hy
    rw [ha, hf' a y.val ((hm a y.val).2 ⟨y, hy, ha, rfl⟩)]
  rw [← Array.length_toList]
  match hl : es.toList, hx, hp, hall with
  | [_], _, _, _ => rfl
  | a :: b :: r, _, hp, hall =>
    rw [List.pairwise_cons] at hp
    exact absurd ((hall a (by simp)).trans (hall b (by simp)).symm) (hp.1 b (by simp))
theorem app_sr (w : World) {o : Oper} {a : Act} {K : Act → World → Prop} {Q : Exit → Act → World → Prop} (d s : Operand) (t t' : TypeId)
    (ho : o.op = .call { callee := .builtin .append, args := #[d, s], argTypes := #[t, t'] }) (v u : Value) (hd : a.eval d = v) (hs : a.eval s = u) {v' : Value} {w' : World}
    (hr : (Builtin.append_ #[t, t'] o.type #[v, u]).run Tryz.prog w = .ok v' w') (h : K (a.put o.dst v') w') : o.wp Tryz.prog a w K Q := by
  unfold Oper.wp execOp
  simp only [ho, resolve, invoke, builtin, Sem.run_bind, Sem.run_pure, Result.andThen_ok, List.map_toArray, List.map_cons, List.map_nil, hd, hs, hr]
  exact h
theorem lk1 {w : World} {m n1 n2 : Nat} (h : MpAt w m (fS n1 n2 true)) : (Instr.lookup 57 (.map (some m)) (.int .i64 1) false).run Tryz.prog w = .ok (.pointer (some ⟨n1, 0, none⟩)) w := by
  have lk := mp_look false Tryz.underlying57 Tryz.underlying3 (zero_np _) h 1
  rw [if_neg (by simp), show fS n1 n2 true 1 = some (.pointer (some ⟨n1, 0, none⟩)) from rfl] at lk
  exact lk
theorem infoG (a b : Value) : (Tryz.prog.info? 26).map (·.size) = some (#[a, b] : Array Value).size := by kernel_rfl
theorem load_gr {w : World} {g : Nat} {x y : Option Addr} {i j c d : Nat} (hg : Bl w g #[.slice x i c, .slice y j d] 26) : (loadVar 26 ⟨g, 0, none⟩).run Tryz.prog w = .ok (.agg #[.slice x i c, .slice y j d]) w :=
  run_loadVar_row w g 26 26 _ (0, 0) _ hg Tryz.underlying26 rfl (infoG _ _)
theorem info_nd : (Tryz.prog.info? 32).map (fun i => (i.zero, i.size, i.bytes)) = some (some (.agg #[.int .i64 0, .int .i64 0, .slice none 0 0, .slice none 0 0, .slice none 0 0]), 5, 88) := by kernel_rfl
/-- one node more in a list that has room for one -/
theorem app_nd {w : World} {sb eb : Nat} {v3 : Value} (hs : Bl w sb #[.int .i64 0, .int .i64 0, .slice none 0 0, .slice none 0 0, .slice none 0 0] 32) (he : Bl w eb #[.int .i64 1, .int .i64 8, .slice none 0 0, v3, .slice none 0 0] 32) (h3 : v3.oneCell' = true := by rfl) :
    ∃ a' cap' w', (Builtin.append_ #[23, 23] 23 #[.slice (some ⟨sb, 0, none⟩) 0 1, .slice (some ⟨eb, 0, none⟩) 1 1]).run Tryz.prog w = .ok (.slice (some ⟨a', 0, none⟩) 1 cap') w' ∧ True ∧ Fx (fun k => k = sb) w w' := by
  have hown : w.ownsRow 0 32 5 (.slice (some ⟨sb, 0, none⟩) 0 1) 0 [] := ⟨by simp, .inr ⟨sb, 1, _, rfl, Nat.zero_le _, hs, by omega, by decide, by simp, by simp⟩⟩
  obtain ⟨a', cap', Z, q1, q2, q3, q4⟩ := app_at (w := w) Tryz.underlying23 info_nd rfl (by decide) (by decide) (c := 1) (ys := [.int .i64 1, .int .i64 8, .slice none 0 0, v3, .slice none 0 0]) hown (Nat.zero_le _) (.inr ⟨eb, 0, rfl, fun j u hj => by
    rw [Nat.zero_add]
    exact he.cell (by rw [← hj]; simp)⟩) rfl (by intro u hu; simp at hu; rcases hu with rfl | rfl | rfl | rfl | rfl <;> first | rfl | exact h3) (by omega) (by omega) 23
  obtain ⟨b, cur, rfl, -⟩ := own_cellsX q2 (by omega)
  exact ⟨b, cap', Z, q1, trivial, q3.wide (fun k _ hk => by simp [Value.ownBlock] at hk; exact hk.symm)⟩
theorem ms_run (w : World) : (Instr.makeSlice 23 (.int .i64 0) (.int .i64 1)).run Tryz.prog w = .ok (.slice (some ⟨w.heap.size, 0, none⟩) 0 1) (w.alloc (.cells #[.int .i64 0, .int .i64 0, .slice none 0 0, .slice none 0 0, .slice none 0 0] 32)) := by kernel_rfl
theorem mlen {w : World} {m : Nat} {es : Array MapEntry} {clock : Nat} (hb : w.heap[m]? = some (.map es clock)) (hes : es.size = 1) : (Builtin.len_ #[57] 3 #[.map (some m)]).run Tryz.prog w = .ok (.int .i64 1) w := by
  simp [Builtin.len_, run_underlying Tryz.underlying57, MapKept.run_getObj_map hb, hes, goInt, Result.andThen]
set_option maxRecDepth 100000 in
set_option maxHeartbeats 8000000 in
theorem htell_one {W : World} {h m n1 n2 gf gr fc : Nat} {la : Int} {l : List (Int × Int)} (hP : HP W h m la (fS n1 n2 true)) (hn : Bl W n1 (ndc 8 (.slice none 0 0) (.slice (some ⟨gf, 0, none⟩) 2 fc)) 94) (hl : l.length = 2) (hv : VsAt W (some ⟨gf, 0, none⟩) l) (hr : VsAt W (some ⟨gr, 0, none⟩) [(2, 1)]) :
    Calls Tryz.prog 11 #[.pointer (some ⟨h, 0, none⟩), .slice (some ⟨gr, 0, none⟩) 1 1] W fun e w' => ∃ a c r rc, e = .returned (.agg #[.slice (some ⟨a, 0, none⟩) 1 c, .slice (some ⟨r, 0, none⟩) 1 rc]) ∧ Out 0 0 W w' := by
  obtain ⟨W0, hW0⟩ : ∃ W0, W.alloc (.cells #[.slice none 0 0, .slice none 0 0] 26) = W0 := ⟨_, rfl⟩
  obtain ⟨z, hz⟩ : ∃ z, W.heap.size = z := ⟨_, rfl⟩
  have o0 : Out 0 0 W W0 := hW0 ▸ (Out.refl 0 0 W).alloc _
  have bz : Bl W0 z #[.slice none 0 0, .slice none 0 0] 26 := by rw [← hW0, ← hz]; exact Bl.new _ _ _
  have P0 := hP.quiet o0
  have c0 := P0.1.cell (i := 0) rfl
  obtain ⟨es, clock, hm0, hes⟩ := mp_one P0.2 (a0 := 1) rfl (fun a v hv => by unfold fS at hv; by_cases ha : a = 1; exact ha; rw [if_neg ha] at hv; by_cases ha2 : a = 2 <;> simp [ha2] at hv)
  have HP0 := hid_mk P0
  have HN := hid_mk (hn.kept o0 (.inr (Nat.zero_le _)))
  have HV := hid_mk (And.intro hl (hv.quiet o0))
  have HR := hid_mk (hr.quiet o0)
  have HZ := hid_mk (And.intro o0 (And.intro bz hz))
  have oC : Out 0 0 W0 W0.drew := (Out.refl 0 0 W0).drew
  have hms := ms_run
  clear hn hv o0 bz hP P0 hr hl
  go_enter Tryz.func11, Tryz.ntmps11
  go_upto_region 1 with fail
  (try rw [hW0]); (try rw [hz])
  clear hW0 hz
  refine wp_region_held_drew (S := fun w' => w'.cell? ⟨h, 0, none⟩ = some (.map (some m)) ∧ w'.heap[m]? = some (.map es clock) ∧ (Builtin.len_ #[57] 3 #[.map (some m)]).run Tryz.prog w' = .ok (.int .i64 1) w') (by kernel_rfl) ?hS1 (fun hHeld => ?rest1)
  case hS1 => exact ⟨c0, hm0, mlen (w := W0.drew) hm0 hes⟩
  refine tk 0 ?_
  refine tk 1 ?_
  refine tk 2 ?_
  refine tk 3 ?_
  refine tk 4 ?_
  refine tk 6 ?_
  refine wpAnyH_ready (rs := [5, 7, 9]) (by kernel_rfl) (by simp) ?_
  refine AllReadyH.cons rfl (fun KK hK => ?_) ?_
  · simp only [xa, xb, xc]
    go_simp
    obtain ⟨wM, hwM⟩ : ∃ wM, (W0.alloc (.cells #[.int .i64 0, .int .i64 0, .slice none 0 0, .slice none 0 0, .slice none 0 0] 32)).drew = wM := ⟨_, rfl⟩
    obtain ⟨sb, hsb⟩ : ∃ sb, W0.heap.size = sb := ⟨_, rfl⟩
    rw [hwM, hsb]
    clear oC
    have oC : Out 0 0 W0 wM := hwM ▸ ((Out.refl 0 0 W0).alloc _).drew
    have hsz : W0.heap.size ≤ sb := by omega
    have HRow : Hid (Bl wM sb #[.int .i64 0, .int .i64 0, .slice none 0 0, .slice none 0 0, .slice none 0 0] 32) := hid_mk (by rw [← hwM, ← hsb]; exact (Bl.new _ _ _).kept ((Out.refl 0 0 _).drew) (.inr (Nat.zero_le _)))
    have Hsb : Hid (W0.heap.size ≤ sb) := hid_mk (by omega)
    clear hwM hsb hsz
    refine hK.out _ _ ?hS8 (fun hHeld2 => ?rest8)
    case hS8 => exact ⟨oC.cell c0 (.inr (Nat.zero_le _)), oC.heap hm0 (.inr (Nat.zero_le _)), mlen (oC.heap hm0 (.inr (Nat.zero_le _))) hes⟩
    clear hK KK
    (try clear hHeld)
    have hHeld := hHeld2
    clear hHeld2
    (try simp only [Act.put, xa, xb, xc, xd, xe, xf])
    refine wpAnyH_ready (rs := [7, 9]) (by kernel_rfl) (by simp) ?_
    refine AllReadyH.cons rfl (fun KK hK => ?_) ?_
    · simp only [xa, xb, xc]
      go_simp
      refine (clone_vs (n := 1) (c := 1) (l := [(2, 1)]) rfl (by omega) (by omega) (HR.out.quiet oC)).mono ?_
      rintro e wC ⟨cb, ccap, rfl, oX, hcb⟩
      replace oC := oC.trans oX
      replace HRow := hid_mk (HRow.out.kept oX (.inr (Nat.zero_le _)))
      clear oX hcb
      refine hK.out _ _ ?hS9 (fun hHeld2 => ?rest9)
      case hS9 => exact ⟨oC.cell c0 (.inr (Nat.zero_le _)), oC.heap hm0 (.inr (Nat.zero_le _)), mlen (oC.heap hm0 (.inr (Nat.zero_le _))) hes⟩
      clear hK KK
      (try clear hHeld)
      have hHeld := hHeld2
      clear hHeld2
      (try simp only [Act.put, xa, xb, xc, xd, xe, xf])
      refine tk 8 ?_
      refine wpAnyH_ready (rs := [9]) (by kernel_rfl) (by simp) ?_
      refine AllReadyH.cons rfl (fun KK hK => ?_) ?_
      · simp only [xa, xb, xc]
        go_simp
        obtain ⟨wA, hwA⟩ : ∃ wA, wC.alloc (.cells #[.slice none 0 0, .slice none 0 0] 26) = wA := ⟨_, rfl⟩
        obtain ⟨ob, hob⟩ : ∃ ob, wC.heap.size = ob := ⟨_, rfl⟩
        rw [hwA, hob]
        have hsz := oC.size
        have oY : Out 0 0 wC wA := hwA ▸ (Out.refl 0 0 wC).alloc _
        replace oC := oC.trans oY
        replace HRow := hid_mk (HRow.out.kept oY (.inr (Nat.zero_le _)))
        clear oY
        have HOut : Hid (Bl wA ob #[.slice none 0 0, .slice none 0 0] 26) := hid_mk (by rw [← hwA, ← hob]; exact Bl.new _ _ _)
        have Hob : Hid (W0.heap.size ≤ ob) := hid_mk (by omega)
        clear hwA hob hsz
        refine hK.out _ _ ?hS11 (fun hHeld2 => ?rest11)
        case hS11 => exact ⟨oC.cell c0 (.inr (Nat.zero_le _)), oC.heap hm0 (.inr (Nat.zero_le _)), mlen (oC.heap hm0 (.inr (Nat.zero_le _))) hes⟩
        clear hK KK
        (try clear hHeld)
        have hHeld := hHeld2
        clear hHeld2
        (try simp only [Act.put, xa, xb, xc, xd, xe, xf])
        refine wpAnyH_ready (rs := [10]) (by kernel_rfl) (by simp) ?_
        refine AllReadyH.cons rfl (fun KK hK => ?_) ?_
        · simp only [xa, xb, xc]
          have f0 := HOut.out.cell (i := 0) rfl
          have g0 := HOut.out.frozen 0
          have f1 := HOut.out.cell (i := 1) rfl
          have g1 := HOut.out.frozen 1
          go_simp
          obtain ⟨wS, hwS⟩ : ∃ wS, (wA.setCell ⟨ob, 0, none⟩ (.slice (some ⟨sb, 0, none⟩) 0 1)).setCell ⟨ob, 1, none⟩ (.slice (some ⟨cb, 0, none⟩) 1 ccap) = wS := ⟨_, rfl⟩
          rw [hwS]
          have xS : Fx (fun j => j = ob) wA wS := hwS ▸ ((Fx.refl (fun j => j = ob) wA).set (p := ⟨ob, 0, none⟩) (.inl rfl) _).set (p := ⟨ob, 1, none⟩) (.inl rfl) _
          have bS : Bl wS ob #[.slice (some ⟨sb, 0, none⟩) 0 1, .slice (some ⟨cb, 0, none⟩) 1 ccap] 26 := hwS ▸ (HOut.out.set 0 _).set 1 _
          have hne : sb ≠ ob := fun e => by subst e; have h1 := HOut.out; have h2 := HRow.out; unfold Bl at h1 h2; rw [h1] at h2; simp at h2
          have rS : Bl wS sb #[.int .i64 0, .int .i64 0, .slice none 0 0, .slice none 0 0, .slice none 0 0] 32 := HRow.out.fx xS hne
          have hol := HOut.out.lt
          clear hwS f0 f1 g0 g1 HOut HRow
          refine hK.out _ _ ?hS12 (fun hHeld2 => ?rest12)
          case hS12 => exact ⟨xS.cell (oC.cell c0 (.inr (Nat.zero_le _))) (by have := HP0.out.1.lt; have := Hob.out; omega), xS.heap (oC.heap hm0 (.inr (Nat.zero_le _))) (by have := HP0.out.2.lt; have := Hob.out; omega), mlen (xS.heap (oC.heap hm0 (.inr (Nat.zero_le _))) (by have := HP0.out.2.lt; have := Hob.out; omega)) hes⟩
          clear hK KK
          (try clear hHeld)
          have hHeld := hHeld2
          clear hHeld2
          (try simp only [Act.put, xa, xb, xc, xd, xe, xf])
          refine wpAnyH_done (by kernel_rfl) ?_ _
          have oS : Out 0 0 W0 wS := ((Fx.of_out (S := fun _ => False) oC).then xS (fun j h1 h2 => by have := Hob.out; omega)).out (fun _ _ q => q)
          have e0 := (HP0.out.1.kept oS (.inr (Nat.zero_le _))).cell (i := 0) rfl
          have oK : Out 0 0 wS (wS.alloc (.cells #[.map (some m)] 57)) := (Out.refl 0 0 wS).alloc _
          have HK := hid_mk (sorted_one (oneN (Bl.new wS #[.map (some m)] 57) ((HP0.out.2.kept oS (.inr (Nat.zero_le _))).kept oK (.inr (Nat.zero_le _))) (a0 := 1) rfl (fun a v hv => by unfold fS at hv; by_cases ha : a = 1; exact ha; rw [if_neg ha] at hv; by_cases ha2 : a = 2 <;> simp [ha2] at hv)))
          have HS := hid_mk (And.intro oS (And.intro bS (And.intro rS (And.intro oK (And.intro hne (And.intro Hob.out Hsb.out))))))
          clear oC xS bS rS oS oK hHeld c0 hms hm0 hes hne hol Hob Hsb
          go_wp2_with fail
          refine (keysN_any _ _).mono ?_
          rintro e w1 ⟨rfl, rfl⟩
          go_wp2_with fail
          refine HK.out.mono ?_
          rintro e w2 ⟨kb, kc, rfl, o2, k2, k3⟩
          obtain ⟨oS, bS, rS, oK, hne, hob, hsb⟩ := HS.out
          have oT := oK.trans o2
          have HT := hid_mk (And.intro (oS.trans oT) (And.intro (bS.kept oT (.inr (Nat.zero_le _))) (And.intro (rS.kept oT (.inr (Nat.zero_le _))) (And.intro hne (And.intro hob hsb)))))
          clear o2 k3 oS bS rS oK hne hob hsb oT HS HK e0
          go_wp2_with fail
          go_loopw [24] (fun c wr => (c = .int .i64 0 ∧ wr = w2) ∨ (c = .int .i64 1 ∧ Out 0 0 W0 wr ∧ ∃ a ac, Bl wr ob #[.slice (some ⟨a, 0, none⟩) 1 ac, .slice (some ⟨cb, 0, none⟩) 1 ccap] 26)) (fun c _ => 1 - (intOf c).toNat)
          case atStart => exact .inl ⟨rfl, rfl⟩
          case round =>
            rcases hrel with ⟨rfl, rfl⟩ | ⟨rfl, q1, a, ac, q2⟩
            · obtain ⟨oW, bS, rS, hne, hob, hsb⟩ := HT.out
              have c0 := bS.cell (i := 0) rfl
              have c1 := (HP0.out.1.kept oW (.inr (Nat.zero_le _))).cell (i := 0) rfl
              have hlk := lk1 (HP0.out.2.kept oW (.inr (Nat.zero_le _)))
              have hmp := hid_mk HP0.out.2.lt
              have hhp := hid_mk HP0.out.1.lt
              clear oW bS rS hne hob hsb
              go_upto_region 5 with fail
              refine wp_region_T (S := fun w' => w'.cell? ⟨ob, 0, none⟩ = some (.slice (some ⟨sb, 0, none⟩) 0 1) ∧ w'.cell? ⟨h, 0, none⟩ = some (.map (some m)) ∧ (Instr.lookup 57 (.map (some m)) (.int .i64 1) false).run Tryz.prog w' = .ok (.pointer (some ⟨n1, 0, none⟩)) w') (z := 13) (by kernel_rfl) ?hS13 (fun hHeld => ?rest13)
              case hS13 => exact ⟨c0, c1, lk1 (HP0.out.2.kept (HT.out.1.drew) (.inr (Nat.zero_le _)))⟩
              refine tkT 0 ?_
              refine tkT 1 ?_
              refine tkT 2 ?_
              refine tkT 3 ?_
              refine tkT 4 ?_
              refine tkT 5 ?_
              refine tkT 6 ?_
              refine tkT 7 ?_
              refine tkT 8 ?_
              refine wpAnyT_one (i := 9) (by kernel_rfl) rfl (fun KK hK => ?_)
              simp only [xa, xb, xc]
              go_simp
              refine (ntell_at (l := l) (HN.out.kept (HT.out.1.drew) (.inr (Nat.zero_le _))) HV.out.1 (by omega) (by omega) (HV.out.2.quiet (HT.out.1.drew))).mono ?_
              rintro e w9 ⟨tb, tcap, rfl, o9⟩
              replace o9 : Out 0 0 wr w9 := ((Out.refl 0 0 wr).drew).trans o9
              refine hK.out _ _ ?hS23 (fun hHeld2 => ?rest23)
              case hS23 => exact ⟨o9.cell c0 (.inr (Nat.zero_le _)), o9.cell c1 (.inr (Nat.zero_le _)), lk1 (HP0.out.2.kept (HT.out.1.trans o9) (.inr (Nat.zero_le _)))⟩
              clear hK KK
              (try clear hHeld)
              have hHeld := hHeld2
              clear hHeld2
              (try simp only [Act.put, xa, xb, xc, xd, xe, xf])
              refine wpAnyT_one (i := 10) (by kernel_rfl) rfl (fun KK hK => ?_)
              simp only [xa, xb, xc]
              go_simp
              obtain ⟨X, hX⟩ : ∃ X, w9.alloc (.cells #[.int .i64 1, .int .i64 8, .slice none 0 0, .slice (some ⟨tb, 0, none⟩) 2 tcap, .slice none 0 0] 32) = X := ⟨_, rfl⟩
              obtain ⟨eb, heb⟩ : ∃ eb, w9.heap.size = eb := ⟨_, rfl⟩
              rw [hX, heb]
              have bX : Bl X eb #[.int .i64 1, .int .i64 8, .slice none 0 0, .slice (some ⟨tb, 0, none⟩) 2 tcap, .slice none 0 0] 32 := (by rw [← hX, ← heb]; exact Bl.new _ _ _)
              replace o9 : Out 0 0 wr X := o9.trans (hX ▸ (Out.refl 0 0 w9).alloc _)
              clear hX heb
              refine hK.out _ _ ?hS24 (fun hHeld2 => ?rest24)
              case hS24 => exact ⟨o9.cell c0 (.inr (Nat.zero_le _)), o9.cell c1 (.inr (Nat.zero_le _)), lk1 (HP0.out.2.kept (HT.out.1.trans o9) (.inr (Nat.zero_le _)))⟩
              clear hK KK
              (try clear hHeld)
              have hHeld := hHeld2
              clear hHeld2
              (try simp only [Act.put, xa, xb, xc, xd, xe, xf])
              refine wpAnyT_one (i := 11) (by kernel_rfl) rfl (fun KK hK => ?_)
              simp only [xa, xb, xc]
              obtain ⟨a', cap', Z, q1, q2, q3⟩ := app_nd (HT.out.2.2.1.kept o9 (.inr (Nat.zero_le _))) bX
              refine app_sr X _ _ _ _ rfl _ _ rfl rfl q1 ?_
              refine hK.out _ _ ?hS25 (fun hHeld2 => ?rest25)
              case hS25 => exact ⟨q3.cell (o9.cell c0 (.inr (Nat.zero_le _))) (fun e => HT.out.2.2.2.1 e.symm), q3.cell (o9.cell c1 (.inr (Nat.zero_le _))) (by have := hhp.out; have := HT.out.2.2.2.2.2; omega), lk1 ((HP0.out.2.kept (HT.out.1.trans o9) (.inr (Nat.zero_le _))).fx q3 (by have := hmp.out; have := HT.out.2.2.2.2.2; omega))⟩
              clear hK KK
              (try clear hHeld)
              have hHeld := hHeld2
              clear hHeld2
              (try simp only [Act.put, xa, xb, xc, xd, xe, xf])
              refine tkT 12 ?_
              refine wpAnyT_last (by kernel_rfl) rfl (fun KK hK => ?_)
              simp only [xa, xb, xc]
              have bZ := (HT.out.2.1.kept o9 (.inr (Nat.zero_le _))).fx q3 (fun e => HT.out.2.2.2.1 e.symm)
              have z1 := bZ.frozen 0
              have z2 := bZ.cell (i := 0) rfl
              go_simp
              refine hK.out _ _ ?_
              clear hK KK
              (try simp only [Act.put, xa, xb, xc, xd, xe, xf])
              refine wpAnyT_done (by kernel_rfl) ?_ _
              obtain ⟨Y, hY⟩ : ∃ Y, Z.setCell ⟨ob, 0, none⟩ (.slice (some ⟨a', 0, none⟩) 1 cap') = Y := ⟨_, rfl⟩
              (try rw [hY])
              have HY : Hid (Out 0 0 W0 Y ∧ ∃ a ac, Bl Y ob #[.slice (some ⟨a, 0, none⟩) 1 ac, .slice (some ⟨cb, 0, none⟩) 1 ccap] 26) := by
                have xY : Fx (fun k => k = ob) Z Y := hY ▸ Fx.set (S := fun k => k = ob) (Fx.refl _ Z) (p := ⟨ob, 0, none⟩) (.inl rfl) _
                exact hid_mk ⟨(((Fx.of_out (S := fun _ => False) (HT.out.1.trans o9)).then q3 (fun k h1 h2 => by have := HT.out.2.2.2.2.2; omega)).then xY (fun k h1 h2 => by have := HT.out.2.2.2.2.1; omega)).out (fun _ _ q => q), a', cap', hY ▸ bZ.set 0 _⟩
              clear hHeld z1 z2 bZ q1 q2 q3 hY bX o9 c0 c1 hlk
              go_wp2
              exact ⟨.inr ⟨rfl, HY.out⟩, by decide⟩
            · obtain ⟨o0, bz, hz⟩ := HZ.out
              have zz := bz.kept q1 (.inr (Nat.zero_le _))
              have f0 := q2.cell (i := 0) rfl
              have f1 := q2.cell (i := 1) rfl
              have g0 := zz.cell (i := 0) rfl
              have g1 := zz.cell (i := 1) rfl
              have i0 := zz.frozen 0
              have i1 := zz.frozen 1
              have HF := hid_mk (And.intro zz (And.intro (o0.trans q1) hz))
              clear o0 bz hz zz q1 q2
              go_wp2_with fail
              obtain ⟨zz, oF, hz⟩ := HF.out
              exact bodyPost_ret (results_cell1 Tryz.results11 rfl (load_gr ((zz.set 0 _).set 1 _))) rfl ⟨_, _, _, _, rfl, (oF.setCell (p := ⟨z, 0, none⟩) (.inr (by show _ ≤ z; omega)) _).setCell (p := ⟨z, 1, none⟩) (.inr (by show _ ≤ z; omega)) _⟩
        · exact AllReadyH.nil
      · exact AllReadyH.nil
    · refine AllReadyH.cons rfl (fun KK hK => ?_) ?_
      · simp only [xa, xb, xc]
        go_simp
        obtain ⟨wA, hwA⟩ : ∃ wA, wM.alloc (.cells #[.slice none 0 0, .slice none 0 0] 26) = wA := ⟨_, rfl⟩
        obtain ⟨ob, hob⟩ : ∃ ob, wM.heap.size = ob := ⟨_, rfl⟩
        rw [hwA, hob]
        have hsz := oC.size
        have oY : Out 0 0 wM wA := hwA ▸ (Out.refl 0 0 wM).alloc _
        replace oC := oC.trans oY
        replace HRow := hid_mk (HRow.out.kept oY (.inr (Nat.zero_le _)))
        clear oY
        have HOut : Hid (Bl wA ob #[.slice none 0 0, .slice none 0 0] 26) := hid_mk (by rw [← hwA, ← hob]; exact Bl.new _ _ _)
        have Hob : Hid (W0.heap.size ≤ ob) := hid_mk (by omega)
        clear hwA hob hsz
        refine hK.out _ _ ?hS27 (fun hHeld2 => ?rest27)
        case hS27 => exact ⟨oC.cell c0 (.inr (Nat.zero_le _)), oC.heap hm0 (.inr (Nat.zero_le _)), mlen (oC.heap hm0 (.inr (Nat.zero_le _))) hes⟩
        clear hK KK
        (try clear hHeld)
        have hHeld := hHeld2
        clear hHeld2
        (try simp only [Act.put, xa, xb, xc, xd, xe, xf])
        refine wpAnyH_ready (rs := [7]) (by kernel_rfl) (by simp) ?_
        refine AllReadyH.cons rfl (fun KK hK => ?_) ?_
        · simp only [xa, xb, xc]
          go_simp
          refine (clone_vs (n := 1) (c := 1) (l := [(2, 1)]) rfl (by omega) (by omega) (HR.out.quiet oC)).mono ?_
          rintro e wC ⟨cb, ccap, rfl, oX, hcb⟩
          replace oC := oC.trans oX
          replace HOut := hid_mk (HOut.out.kept oX (.inr (Nat.zero_le _)))
          replace HRow := hid_mk (HRow.out.kept oX (.inr (Nat.zero_le _)))
          clear oX hcb
          refine hK.out _ _ ?hS28 (fun hHeld2 => ?rest28)
          case hS28 => exact ⟨oC.cell c0 (.inr (Nat.zero_le _)), oC.heap hm0 (.inr (Nat.zero_le _)), mlen (oC.heap hm0 (.inr (Nat.zero_le _))) hes⟩
          clear hK KK
          (try clear hHeld)
          have hHeld := hHeld2
          clear hHeld2
          (try simp only [Act.put, xa, xb, xc, xd, xe, xf])
          refine tk 8 ?_
          refine wpAnyH_ready (rs := [10]) (by kernel_rfl) (by simp) ?_
          refine AllReadyH.cons rfl (fun KK hK => ?_) ?_
          · simp only [xa, xb, xc]
            have f0 := HOut.out.cell (i := 0) rfl
            have g0 := HOut.out.frozen 0
            have f1 := HOut.out.cell (i := 1) rfl
            have g1 := HOut.out.frozen 1
            go_simp
            obtain ⟨wS, hwS⟩ : ∃ wS, (wC.setCell ⟨ob, 0, none⟩ (.slice (some ⟨sb, 0, none⟩) 0 1)).setCell ⟨ob, 1, none⟩ (.slice (some ⟨cb, 0, none⟩) 1 ccap) = wS := ⟨_, rfl⟩
            rw [hwS]
            have xS : Fx (fun j => j = ob) wC wS := hwS ▸ ((Fx.refl (fun j => j = ob) wC).set (p := ⟨ob, 0, none⟩) (.inl rfl) _).set (p := ⟨ob, 1, none⟩) (.inl rfl) _
            have bS : Bl wS ob #[.slice (some ⟨sb, 0, none⟩) 0 1, .slice (some ⟨cb, 0, none⟩) 1 ccap] 26 := hwS ▸ (HOut.out.set 0 _).set 1 _
            have hne : sb ≠ ob := fun e => by subst e; have h1 := HOut.out; have h2 := HRow.out; unfold Bl at h1 h2; rw [h1] at h2; simp at h2
            have rS : Bl wS sb #[.int .i64 0, .int .i64 0, .slice none 0 0, .slice none 0 0, .slice none 0 0] 32 := HRow.out.fx xS hne
            have hol := HOut.out.lt
            clear hwS f0 f1 g0 g1 HOut HRow
            refine hK.out _ _ ?hS30 (fun hHeld2 => ?rest30)
            case hS30 => exact ⟨xS.cell (oC.cell c0 (.inr (Nat.zero_le _))) (by have := HP0.out.1.lt; have := Hob.out; omega), xS.heap (oC.heap hm0 (.inr (Nat.zero_le _))) (by have := HP0.out.2.lt; have := Hob.out; omega), mlen (xS.heap (oC.heap hm0 (.inr (Nat.zero_le _))) (by have := HP0.out.2.lt; have := Hob.out; omega)) hes⟩
            clear hK KK
            (try clear hHeld)
            have hHeld := hHeld2
            clear hHeld2
            (try simp only [Act.put, xa, xb, xc, xd, xe, xf])
            refine wpAnyH_done (by kernel_rfl) ?_ _
            have oS : Out 0 0 W0 wS := ((Fx.of_out (S := fun _ => False) oC).then xS (fun j h1 h2 => by have := Hob.out; omega)).out (fun _ _ q => q)
            have e0 := (HP0.out.1.kept oS (.inr (Nat.zero_le _))).cell (i := 0) rfl
            have oK : Out 0 0 wS (wS.alloc (.cells #[.map (some m)] 57)) := (Out.refl 0 0 wS).alloc _
            have HK := hid_mk (sorted_one (oneN (Bl.new wS #[.map (some m)] 57) ((HP0.out.2.kept oS (.inr (Nat.zero_le _))).kept oK (.inr (Nat.zero_le _))) (a0 := 1) rfl (fun a v hv => by unfold fS at hv; by_cases ha : a = 1; exact ha; rw [if_neg ha] at hv; by_cases ha2 : a = 2 <;> simp [ha2] at hv)))
            have HS := hid_mk (And.intro oS (And.intro bS (And.intro rS (And.intro oK (And.intro hne (And.intro Hob.out Hsb.out))))))
            clear oC xS bS rS oS oK hHeld c0 hms hm0 hes hne hol Hob Hsb
            go_wp2_with fail
            refine (keysN_any _ _).mono ?_
            rintro e w1 ⟨rfl, rfl⟩
            go_wp2_with fail
            refine HK.out.mono ?_
            rintro e w2 ⟨kb, kc, rfl, o2, k2, k3⟩
            obtain ⟨oS, bS, rS, oK, hne, hob, hsb⟩ := HS.out
            have oT := oK.trans o2
            have HT := hid_mk (And.intro (oS.trans oT) (And.intro (bS.kept oT (.inr (Nat.zero_le _))) (And.intro (rS.kept oT (.inr (Nat.zero_le _))) (And.intro hne (And.intro hob hsb)))))
            clear o2 k3 oS bS rS oK hne hob hsb oT HS HK e0
            go_wp2_with fail
            go_loopw [24] (fun c wr => (c = .int .i64 0 ∧ wr = w2) ∨ (c = .int .i64 1 ∧ Out 0 0 W0 wr ∧ ∃ a ac, Bl wr ob #[.slice (some ⟨a, 0, none⟩) 1 ac, .slice (some ⟨cb, 0, none⟩) 1 ccap] 26)) (fun c _ => 1 - (intOf c).toNat)
            case atStart => exact .inl ⟨rfl, rfl⟩
            case round =>
              rcases hrel with ⟨rfl, rfl⟩ | ⟨rfl, q1, a, ac, q2⟩
              · obtain ⟨oW, bS, rS, hne, hob, hsb⟩ := HT.out
                have c0 := bS.cell (i := 0) rfl
                have c1 := (HP0.out.1.kept oW (.inr (Nat.zero_le _))).cell (i := 0) rfl
                have hlk := lk1 (HP0.out.2.kept oW (.inr (Nat.zero_le _)))
                have hmp := hid_mk HP0.out.2.lt
                have hhp := hid_mk HP0.out.1.lt
                clear oW bS rS hne hob hsb
                go_upto_region 5 with fail
                refine wp_region_T (S := fun w' => w'.cell? ⟨ob, 0, none⟩ = some (.slice (some ⟨sb, 0, none⟩) 0 1) ∧ w'.cell? ⟨h, 0, none⟩ = some (.map (some m)) ∧ (Instr.lookup 57 (.map (some m)) (.int .i64 1) false).run Tryz.prog w' = .ok (.pointer (some ⟨n1, 0, none⟩)) w') (z := 13) (by kernel_rfl) ?hS31 (fun hHeld => ?rest31)
                case hS31 => exact ⟨c0, c1, lk1 (HP0.out.2.kept (HT.out.1.drew) (.inr (Nat.zero_le _)))⟩
                refine tkT 0 ?_
                refine tkT 1 ?_
                refine tkT 2 ?_
                refine tkT 3 ?_
                refine tkT 4 ?_
                refine tkT 5 ?_
                refine tkT 6 ?_
                refine tkT 7 ?_
                refine tkT 8 ?_
                refine wpAnyT_one (i := 9) (by kernel_rfl) rfl (fun KK hK => ?_)
                simp only [xa, xb, xc]
                go_simp
                refine (ntell_at (l := l) (HN.out.kept (HT.out.1.drew) (.inr (Nat.zero_le _))) HV.out.1 (by omega) (by omega) (HV.out.2.quiet (HT.out.1.drew))).mono ?_
                rintro e w9 ⟨tb, tcap, rfl, o9⟩
                replace o9 : Out 0 0 wr w9 := ((Out.refl 0 0 wr).drew).trans o9
                refine hK.out _ _ ?hS41 (fun hHeld2 => ?rest41)
                case hS41 => exact ⟨o9.cell c0 (.inr (Nat.zero_le _)), o9.cell c1 (.inr (Nat.zero_le _)), lk1 (HP0.out.2.kept (HT.out.1.trans o9) (.inr (Nat.zero_le _)))⟩
                clear hK KK
                (try clear hHeld)
                have hHeld := hHeld2
                clear hHeld2
                (try simp only [Act.put, xa, xb, xc, xd, xe, xf])
                refine wpAnyT_one (i := 10) (by kernel_rfl) rfl (fun KK hK => ?_)
                simp only [xa, xb, xc]
                go_simp
                obtain ⟨X, hX⟩ : ∃ X, w9.alloc (.cells #[.int .i64 1, .int .i64 8, .slice none 0 0, .slice (some ⟨tb, 0, none⟩) 2 tcap, .slice none 0 0] 32) = X := ⟨_, rfl⟩
                obtain ⟨eb, heb⟩ : ∃ eb, w9.heap.size = eb := ⟨_, rfl⟩
                rw [hX, heb]
                have bX : Bl X eb #[.int .i64 1, .int .i64 8, .slice none 0 0, .slice (some ⟨tb, 0, none⟩) 2 tcap, .slice none 0 0] 32 := (by rw [← hX, ← heb]; exact Bl.new _ _ _)
                replace o9 : Out 0 0 wr X := o9.trans (hX ▸ (Out.refl 0 0 w9).alloc _)
                clear hX heb
                refine hK.out _ _ ?hS42 (fun hHeld2 => ?rest42)
                case hS42 => exact ⟨o9.cell c0 (.inr (Nat.zero_le _)), o9.cell c1 (.inr (Nat.zero_le _)), lk1 (HP0.out.2.kept (HT.out.1.trans o9) (.inr (Nat.zero_le _)))⟩
                clear hK KK
                (try clear hHeld)
                have hHeld := hHeld2
                clear hHeld2
                (try simp only [Act.put, xa, xb, xc, xd, xe, xf])
                refine wpAnyT_one (i := 11) (by kernel_rfl) rfl (fun KK hK => ?_)
                simp only [xa, xb, xc]
                obtain ⟨a', cap', Z, q1, q2, q3⟩ := app_nd (HT.out.2.2.1.kept o9 (.inr (Nat.zero_le _))) bX
                refine app_sr X _ _ _ _ rfl _ _ rfl rfl q1 ?_
                refine hK.out _ _ ?hS43 (fun hHeld2 => ?rest43)
                case hS43 => exact ⟨q3.cell (o9.cell c0 (.inr (Nat.zero_le _))) (fun e => HT.out.2.2.2.1 e.symm), q3.cell (o9.cell c1 (.inr (Nat.zero_le _))) (by have := hhp.out; have := HT.out.2.2.2.2.2; omega), lk1 ((HP0.out.2.kept (HT.out.1.trans o9) (.inr (Nat.zero_le _))).fx q3 (by have := hmp.out; have := HT.out.2.2.2.2.2; omega))⟩
                clear hK KK
                (try clear hHeld)
                have hHeld := hHeld2
                clear hHeld2
                (try simp only [Act.put, xa, xb, xc, xd, xe, xf])
                refine tkT 12 ?_
                refine wpAnyT_last (by kernel_rfl) rfl (fun KK hK => ?_)
                simp only [xa, xb, xc]
                have bZ := (HT.out.2.1.kept o9 (.inr (Nat.zero_le _))).fx q3 (fun e => HT.out.2.2.2.1 e.symm)
                have z1 := bZ.frozen 0
                have z2 := bZ.cell (i := 0) rfl
                go_simp
                refine hK.out _ _ ?_
                clear hK KK
                (try simp only [Act.put, xa, xb, xc, xd, xe, xf])
                refine wpAnyT_done (by kernel_rfl) ?_ _
                obtain ⟨Y, hY⟩ : ∃ Y, Z.setCell ⟨ob, 0, none⟩ (.slice (some ⟨a', 0, none⟩) 1 cap') = Y := ⟨_, rfl⟩
                (try rw [hY])
                have HY : Hid (Out 0 0 W0 Y ∧ ∃ a ac, Bl Y ob #[.slice (some ⟨a, 0, none⟩) 1 ac, .slice (some ⟨cb, 0, none⟩) 1 ccap] 26) := by
                  have xY : Fx (fun k => k = ob) Z Y := hY ▸ Fx.set (S := fun k => k = ob) (Fx.refl _ Z) (p := ⟨ob, 0, none⟩) (.inl rfl) _
                  exact hid_mk ⟨(((Fx.of_out (S := fun _ => False) (HT.out.1.trans o9)).then q3 (fun k h1 h2 => by have := HT.out.2.2.2.2.2; omega)).then xY (fun k h1 h2 => by have := HT.out.2.2.2.2.1; omega)).out (fun _ _ q => q), a', cap', hY ▸ bZ.set 0 _⟩
                clear hHeld z1 z2 bZ q1 q2 q3 hY bX o9 c0 c1 hlk
                go_wp2
                exact ⟨.inr ⟨rfl, HY.out⟩, by decide⟩
              · obtain ⟨o0, bz, hz⟩ := HZ.out
                have zz := bz.kept q1 (.inr (Nat.zero_le _))
                have f0 := q2.cell (i := 0) rfl
                have f1 := q2.cell (i := 1) rfl
                have g0 := zz.cell (i := 0) rfl
                have g1 := zz.cell (i := 1) rfl
                have i0 := zz.frozen 0
                have i1 := zz.frozen 1
                have HF := hid_mk (And.intro zz (And.intro (o0.trans q1) hz))
                clear o0 bz hz zz q1 q2
                go_wp2_with fail
                obtain ⟨zz, oF, hz⟩ := HF.out
                exact bodyPost_ret (results_cell1 Tryz.results11 rfl (load_gr ((zz.set 0 _).set 1 _))) rfl ⟨_, _, _, _, rfl, (oF.setCell (p := ⟨z, 0, none⟩) (.inr (by show _ ≤ z; omega)) _).setCell (p := ⟨z, 1, none⟩) (.inr (by show _ ≤ z; omega)) _⟩
          · exact AllReadyH.nil
        · exact AllReadyH.nil
      · exact AllReadyH.nil
  · refine AllReadyH.cons rfl (fun KK hK => ?_) ?_
    · simp only [xa, xb, xc]
      go_simp
      refine (clone_vs (n := 1) (c := 1) (l := [(2, 1)]) rfl (by omega) (by omega) (HR.out.quiet oC)).mono ?_
      rintro e wC ⟨cb, ccap, rfl, oX, hcb⟩
      replace oC := oC.trans oX
      clear oX hcb
      refine hK.out _ _ ?hS45 (fun hHeld2 => ?rest45)
      case hS45 => exact ⟨oC.cell c0 (.inr (Nat.zero_le _)), oC.heap hm0 (.inr (Nat.zero_le _)), mlen (oC.heap hm0 (.inr (Nat.zero_le _))) hes⟩
      clear hK KK
      (try clear hHeld)
      have hHeld := hHeld2
      clear hHeld2
      (try simp only [Act.put, xa, xb, xc, xd, xe, xf])
      refine wpAnyH_ready (rs := [5, 9]) (by kernel_rfl) (by simp) ?_
      refine AllReadyH.cons rfl (fun KK hK => ?_) ?_
      · simp only [xa, xb, xc]
        go_simp
        obtain ⟨wM, hwM⟩ : ∃ wM, wC.alloc (.cells #[.int .i64 0, .int .i64 0, .slice none 0 0, .slice none 0 0, .slice none 0 0] 32) = wM := ⟨_, rfl⟩
        obtain ⟨sb, hsb⟩ : ∃ sb, wC.heap.size = sb := ⟨_, rfl⟩
        rw [hwM, hsb]
        have hsz := oC.size
        have oY : Out 0 0 wC wM := hwM ▸ (Out.refl 0 0 wC).alloc _
        replace oC := oC.trans oY
        clear oY
        have HRow : Hid (Bl wM sb #[.int .i64 0, .int .i64 0, .slice none 0 0, .slice none 0 0, .slice none 0 0] 32) := hid_mk (by rw [← hwM, ← hsb]; exact Bl.new _ _ _)
        have Hsb : Hid (W0.heap.size ≤ sb) := hid_mk (by omega)
        clear hwM hsb hsz
        refine hK.out _ _ ?hS46 (fun hHeld2 => ?rest46)
        case hS46 => exact ⟨oC.cell c0 (.inr (Nat.zero_le _)), oC.heap hm0 (.inr (Nat.zero_le _)), mlen (oC.heap hm0 (.inr (Nat.zero_le _))) hes⟩
        clear hK KK
        (try clear hHeld)
        have hHeld := hHeld2
        clear hHeld2
        (try simp only [Act.put, xa, xb, xc, xd, xe, xf])
        refine tk 8 ?_
        refine wpAnyH_ready (rs := [9]) (by kernel_rfl) (by simp) ?_
        refine AllReadyH.cons rfl (fun KK hK => ?_) ?_
        · simp only [xa, xb, xc]
          go_simp
          obtain ⟨wA, hwA⟩ : ∃ wA, wM.alloc (.cells #[.slice none 0 0, .slice none 0 0] 26) = wA := ⟨_, rfl⟩
          obtain ⟨ob, hob⟩ : ∃ ob, wM.heap.size = ob := ⟨_, rfl⟩
          rw [hwA, hob]
          have hsz := oC.size
          have oY : Out 0 0 wM wA := hwA ▸ (Out.refl 0 0 wM).alloc _
          replace oC := oC.trans oY
          replace HRow := hid_mk (HRow.out.kept oY (.inr (Nat.zero_le _)))
          clear oY
          have HOut : Hid (Bl wA ob #[.slice none 0 0, .slice none 0 0] 26) := hid_mk (by rw [← hwA, ← hob]; exact Bl.new _ _ _)
          have Hob : Hid (W0.heap.size ≤ ob) := hid_mk (by omega)
          clear hwA hob hsz
          refine hK.out _ _ ?hS48 (fun hHeld2 => ?rest48)
          case hS48 => exact ⟨oC.cell c0 (.inr (Nat.zero_le _)), oC.heap hm0 (.inr (Nat.zero_le _)), mlen (oC.heap hm0 (.inr (Nat.zero_le _))) hes⟩
          clear hK KK
          (try clear hHeld)
          have hHeld := hHeld2
          clear hHeld2
          (try simp only [Act.put, xa, xb, xc, xd, xe, xf])
          refine wpAnyH_ready (rs := [10]) (by kernel_rfl) (by simp) ?_
          refine AllReadyH.cons rfl (fun KK hK => ?_) ?_
          · simp only [xa, xb, xc]
            have f0 := HOut.out.cell (i := 0) rfl
            have g0 := HOut.out.frozen 0
            have f1 := HOut.out.cell (i := 1) rfl
            have g1 := HOut.out.frozen 1
            go_simp
            obtain ⟨wS, hwS⟩ : ∃ wS, (wA.setCell ⟨ob, 0, none⟩ (.slice (some ⟨sb, 0, none⟩) 0 1)).setCell ⟨ob, 1, none⟩ (.slice (some ⟨cb, 0, none⟩) 1 ccap) = wS := ⟨_, rfl⟩
            rw [hwS]
            have xS : Fx (fun j => j = ob) wA wS := hwS ▸ ((Fx.refl (fun j => j = ob) wA).set (p := ⟨ob, 0, none⟩) (.inl rfl) _).set (p := ⟨ob, 1, none⟩) (.inl rfl) _
            have bS : Bl wS ob #[.slice (some ⟨sb, 0, none⟩) 0 1, .slice (some ⟨cb, 0, none⟩) 1 ccap] 26 := hwS ▸ (HOut.out.set 0 _).set 1 _
            have hne : sb ≠ ob := fun e => by subst e; have h1 := HOut.out; have h2 := HRow.out; unfold Bl at h1 h2; rw [h1] at h2; simp at h2
            have rS : Bl wS sb #[.int .i64 0, .int .i64 0, .slice none 0 0, .slice none 0 0, .slice none 0 0] 32 := HRow.out.fx xS hne
            have hol := HOut.out.lt
            clear hwS f0 f1 g0 g1 HOut HRow
            refine hK.out _ _ ?hS49 (fun hHeld2 => ?rest49)
            case hS49 => exact ⟨xS.cell (oC.cell c0 (.inr (Nat.zero_le _))) (by have := HP0.out.1.lt; have := Hob.out; omega), xS.heap (oC.heap hm0 (.inr (Nat.zero_le _))) (by have := HP0.out.2.lt; have := Hob.out; omega), mlen (xS.heap (oC.heap hm0 (.inr (Nat.zero_le _))) (by have := HP0.out.2.lt; have := Hob.out; omega)) hes⟩
            clear hK KK
            (try clear hHeld)
            have hHeld := hHeld2
            clear hHeld2
            (try simp only [Act.put, xa, xb, xc, xd, xe, xf])
            refine wpAnyH_done (by kernel_rfl) ?_ _
            have oS : Out 0 0 W0 wS := ((Fx.of_out (S := fun _ => False) oC).then xS (fun j h1 h2 => by have := Hob.out; omega)).out (fun _ _ q => q)
            have e0 := (HP0.out.1.kept oS (.inr (Nat.zero_le _))).cell (i := 0) rfl
            have oK : Out 0 0 wS (wS.alloc (.cells #[.map (some m)] 57)) := (Out.refl 0 0 wS).alloc _
            have HK := hid_mk (sorted_one (oneN (Bl.new wS #[.map (some m)] 57) ((HP0.out.2.kept oS (.inr (Nat.zero_le _))).kept oK (.inr (Nat.zero_le _))) (a0 := 1) rfl (fun a v hv => by unfold fS at hv; by_cases ha : a = 1; exact ha; rw [if_neg ha] at hv; by_cases ha2 : a = 2 <;> simp [ha2] at hv)))
            have HS := hid_mk (And.intro oS (And.intro bS (And.intro rS (And.intro oK (And.intro hne (And.intro Hob.out Hsb.out))))))
            clear oC xS bS rS oS oK hHeld c0 hms hm0 hes hne hol Hob Hsb
            go_wp2_with fail
            refine (keysN_any _ _).mono ?_
            rintro e w1 ⟨rfl, rfl⟩
            go_wp2_with fail
            refine HK.out.mono ?_
            rintro e w2 ⟨kb, kc, rfl, o2, k2, k3⟩
            obtain ⟨oS, bS, rS, oK, hne, hob, hsb⟩ := HS.out
            have oT := oK.trans o2
            have HT := hid_mk (And.intro (oS.trans oT) (And.intro (bS.kept oT (.inr (Nat.zero_le _))) (And.intro (rS.kept oT (.inr (Nat.zero_le _))) (And.intro hne (And.intro hob hsb)))))
            clear o2 k3 oS bS rS oK hne hob hsb oT HS HK e0
            go_wp2_with fail
            go_loopw [24] (fun c wr => (c = .int .i64 0 ∧ wr = w2) ∨ (c = .int .i64 1 ∧ Out 0 0 W0 wr ∧ ∃ a ac, Bl wr ob #[.slice (some ⟨a, 0, none⟩) 1 ac, .slice (some ⟨cb, 0, none⟩) 1 ccap] 26)) (fun c _ => 1 - (intOf c).toNat)
            case atStart => exact .inl ⟨rfl, rfl⟩
            case round =>
              rcases hrel with ⟨rfl, rfl⟩ | ⟨rfl, q1, a, ac, q2⟩
              · obtain ⟨oW, bS, rS, hne, hob, hsb⟩ := HT.out
                have c0 := bS.cell (i := 0) rfl
                have c1 := (HP0.out.1.kept oW (.inr (Nat.zero_le _))).cell (i := 0) rfl
                have hlk := lk1 (HP0.out.2.kept oW (.inr (Nat.zero_le _)))
                have hmp := hid_mk HP0.out.2.lt
                have hhp := hid_mk HP0.out.1.lt
                clear oW bS rS hne hob hsb
                go_upto_region 5 with fail
                refine wp_region_T (S := fun w' => w'.cell? ⟨ob, 0, none⟩ = some (.slice (some ⟨sb, 0, none⟩) 0 1) ∧ w'.cell? ⟨h, 0, none⟩ = some (.map (some m)) ∧ (Instr.lookup 57 (.map (some m)) (.int .i64 1) false).run Tryz.prog w' = .ok (.pointer (some ⟨n1, 0, none⟩)) w') (z := 13) (by kernel_rfl) ?hS50 (fun hHeld => ?rest50)
                case hS50 => exact ⟨c0, c1, lk1 (HP0.out.2.kept (HT.out.1.drew) (.inr (Nat.zero_le _)))⟩
                refine tkT 0 ?_
                refine tkT 1 ?_
                refine tkT 2 ?_
                refine tkT 3 ?_
                refine tkT 4 ?_
                refine tkT 5 ?_
                refine tkT 6 ?_
                refine tkT 7 ?_
                refine tkT 8 ?_
                refine wpAnyT_one (i := 9) (by kernel_rfl) rfl (fun KK hK => ?_)
                simp only [xa, xb, xc]
                go_simp
                refine (ntell_at (l := l) (HN.out.kept (HT.out.1.drew) (.inr (Nat.zero_le _))) HV.out.1 (by omega) (by omega) (HV.out.2.quiet (HT.out.1.drew))).mono ?_
                rintro e w9 ⟨tb, tcap, rfl, o9⟩
                replace o9 : Out 0 0 wr w9 := ((Out.refl 0 0 wr).drew).trans o9
                refine hK.out _ _ ?hS60 (fun hHeld2 => ?rest60)
                case hS60 => exact ⟨o9.cell c0 (.inr (Nat.zero_le _)), o9.cell c1 (.inr (Nat.zero_le _)), lk1 (HP0.out.2.kept (HT.out.1.trans o9) (.inr (Nat.zero_le _)))⟩
                clear hK KK
                (try clear hHeld)
                have hHeld := hHeld2
                clear hHeld2
                (try simp only [Act.put, xa, xb, xc, xd, xe, xf])
                refine wpAnyT_one (i := 10) (by kernel_rfl) rfl (fun KK hK => ?_)
                simp only [xa, xb, xc]
                go_simp
                obtain ⟨X, hX⟩ : ∃ X, w9.alloc (.cells #[.int .i64 1, .int .i64 8, .slice none 0 0, .slice (some ⟨tb, 0, none⟩) 2 tcap, .slice none 0 0] 32) = X := ⟨_, rfl⟩
                obtain ⟨eb, heb⟩ : ∃ eb, w9.heap.size = eb := ⟨_, rfl⟩
                rw [hX, heb]
                have bX : Bl X eb #[.int .i64 1, .int .i64 8, .slice none 0 0, .slice (some ⟨tb, 0, none⟩) 2 tcap, .slice none 0 0] 32 := (by rw [← hX, ← heb]; exact Bl.new _ _ _)
                replace o9 : Out 0 0 wr X := o9.trans (hX ▸ (Out.refl 0 0 w9).alloc _)
                clear hX heb
                refine hK.out _ _ ?hS61 (fun hHeld2 => ?rest61)
                case hS61 => exact ⟨o9.cell c0 (.inr (Nat.zero_le _)), o9.cell c1 (.inr (Nat.zero_le _)), lk1 (HP0.out.2.kept (HT.out.1.trans o9) (.inr (Nat.zero_le _)))⟩
                clear hK KK
                (try clear hHeld)
                have hHeld := hHeld2
                clear hHeld2
                (try simp only [Act.put, xa, xb, xc, xd, xe, xf])
                refine wpAnyT_one (i := 11) (by kernel_rfl) rfl (fun KK hK => ?_)
                simp only [xa, xb, xc]
                obtain ⟨a', cap', Z, q1, q2, q3⟩ := app_nd (HT.out.2.2.1.kept o9 (.inr (Nat.zero_le _))) bX
                refine app_sr X _ _ _ _ rfl _ _ rfl rfl q1 ?_
                refine hK.out _ _ ?hS62 (fun hHeld2 => ?rest62)
                case hS62 => exact ⟨q3.cell (o9.cell c0 (.inr (Nat.zero_le _))) (fun e => HT.out.2.2.2.1 e.symm), q3.cell (o9.cell c1 (.inr (Nat.zero_le _))) (by have := hhp.out; have := HT.out.2.2.2.2.2; omega), lk1 ((HP0.out.2.kept (HT.out.1.trans o9) (.inr (Nat.zero_le _))).fx q3 (by have := hmp.out; have := HT.out.2.2.2.2.2; omega))⟩
                clear hK KK
                (try clear hHeld)
                have hHeld := hHeld2
                clear hHeld2
                (try simp only [Act.put, xa, xb, xc, xd, xe, xf])
                refine tkT 12 ?_
                refine wpAnyT_last (by kernel_rfl) rfl (fun KK hK => ?_)
                simp only [xa, xb, xc]
                have bZ := (HT.out.2.1.kept o9 (.inr (Nat.zero_le _))).fx q3 (fun e => HT.out.2.2.2.1 e.symm)
                have z1 := bZ.frozen 0
                have z2 := bZ.cell (i := 0) rfl
                go_simp
                refine hK.out _ _ ?_
                clear hK KK
                (try simp only [Act.put, xa, xb, xc, xd, xe, xf])
                refine wpAnyT_done (by kernel_rfl) ?_ _
                obtain ⟨Y, hY⟩ : ∃ Y, Z.setCell ⟨ob, 0, none⟩ (.slice (some ⟨a', 0, none⟩) 1 cap') = Y := ⟨_, rfl⟩
                (try rw [hY])
                have HY : Hid (Out 0 0 W0 Y ∧ ∃ a ac, Bl Y ob #[.slice (some ⟨a, 0, none⟩) 1 ac, .slice (some ⟨cb, 0, none⟩) 1 ccap] 26) := by
                  have xY : Fx (fun k => k = ob) Z Y := hY ▸ Fx.set (S := fun k => k = ob) (Fx.refl _ Z) (p := ⟨ob, 0, none⟩) (.inl rfl) _
                  exact hid_mk ⟨(((Fx.of_out (S := fun _ => False) (HT.out.1.trans o9)).then q3 (fun k h1 h2 => by have := HT.out.2.2.2.2.2; omega)).then xY (fun k h1 h2 => by have := HT.out.2.2.2.2.1; omega)).out (fun _ _ q => q), a', cap', hY ▸ bZ.set 0 _⟩
                clear hHeld z1 z2 bZ q1 q2 q3 hY bX o9 c0 c1 hlk
                go_wp2
                exact ⟨.inr ⟨rfl, HY.out⟩, by decide⟩
              · obtain ⟨o0, bz, hz⟩ := HZ.out
                have zz := bz.kept q1 (.inr (Nat.zero_le _))
                have f0 := q2.cell (i := 0) rfl
                have f1 := q2.cell (i := 1) rfl
                have g0 := zz.cell (i := 0) rfl
                have g1 := zz.cell (i := 1) rfl
                have i0 := zz.frozen 0
                have i1 := zz.frozen 1
                have HF := hid_mk (And.intro zz (And.intro (o0.trans q1) hz))
                clear o0 bz hz zz q1 q2
                go_wp2_with fail
                obtain ⟨zz, oF, hz⟩ := HF.out
                exact bodyPost_ret (results_cell1 Tryz.results11 rfl (load_gr ((zz.set 0 _).set 1 _))) rfl ⟨_, _, _, _, rfl, (oF.setCell (p := ⟨z, 0, none⟩) (.inr (by show _ ≤ z; omega)) _).setCell (p := ⟨z, 1, none⟩) (.inr (by show _ ≤ z; omega)) _⟩
          · exact AllReadyH.nil
        · exact AllReadyH.nil
      · refine AllReadyH.cons rfl (fun KK hK => ?_) ?_
        · simp only [xa, xb, xc]
          go_simp
          obtain ⟨wA, hwA⟩ : ∃ wA, wC.alloc (.cells #[.slice none 0 0, .slice none 0 0] 26) = wA := ⟨_, rfl⟩
          obtain ⟨ob, hob⟩ : ∃ ob, wC.heap.size = ob := ⟨_, rfl⟩
          rw [hwA, hob]
          have hsz := oC.size
          have oY : Out 0 0 wC wA := hwA ▸ (Out.refl 0 0 wC).alloc _
          replace oC := oC.trans oY
          clear oY
          have HOut : Hid (Bl wA ob #[.slice none 0 0, .slice none 0 0] 26) := hid_mk (by rw [← hwA, ← hob]; exact Bl.new _ _ _)
          have Hob : Hid (W0.heap.size ≤ ob) := hid_mk (by omega)
          clear hwA hob hsz
          refine hK.out _ _ ?hS64 (fun hHeld2 => ?rest64)
          case hS64 => exact ⟨oC.cell c0 (.inr (Nat.zero_le _)), oC.heap hm0 (.inr (Nat.zero_le _)), mlen (oC.heap hm0 (.inr (Nat.zero_le _))) hes⟩
          clear hK KK
          (try clear hHeld)
          have hHeld := hHeld2
          clear hHeld2
          (try simp only [Act.put, xa, xb, xc, xd, xe, xf])
          refine wpAnyH_ready (rs := [5]) (by kernel_rfl) (by simp) ?_
          refine AllReadyH.cons rfl (fun KK hK => ?_) ?_
          · simp only [xa, xb, xc]
            go_simp
            obtain ⟨wM, hwM⟩ : ∃ wM, wA.alloc (.cells #[.int .i64 0, .int .i64 0, .slice none 0 0, .slice none 0 0, .slice none 0 0] 32) = wM := ⟨_, rfl⟩
            obtain ⟨sb, hsb⟩ : ∃ sb, wA.heap.size = sb := ⟨_, rfl⟩
            rw [hwM, hsb]
            have hsz := oC.size
            have oY : Out 0 0 wA wM := hwM ▸ (Out.refl 0 0 wA).alloc _
            replace oC := oC.trans oY
            replace HOut := hid_mk (HOut.out.kept oY (.inr (Nat.zero_le _)))
            clear oY
            have HRow : Hid (Bl wM sb #[.int .i64 0, .int .i64 0, .slice none 0 0, .slice none 0 0, .slice none 0 0] 32) := hid_mk (by rw [← hwM, ← hsb]; exact Bl.new _ _ _)
            have Hsb : Hid (W0.heap.size ≤ sb) := hid_mk (by omega)
            clear hwM hsb hsz
            refine hK.out _ _ ?hS65 (fun hHeld2 => ?rest65)
            case hS65 => exact ⟨oC.cell c0 (.inr (Nat.zero_le _)), oC.heap hm0 (.inr (Nat.zero_le _)), mlen (oC.heap hm0 (.inr (Nat.zero_le _))) hes⟩
            clear hK KK
            (try clear hHeld)
            have hHeld := hHeld2
            clear hHeld2
            (try simp only [Act.put, xa, xb, xc, xd, xe, xf])
            refine tk 8 ?_
            refine wpAnyH_ready (rs := [10]) (by kernel_rfl) (by simp) ?_
            refine AllReadyH.cons rfl (fun KK hK => ?_) ?_
            · simp only [xa, xb, xc]
              have f0 := HOut.out.cell (i := 0) rfl
              have g0 := HOut.out.frozen 0
              have f1 := HOut.out.cell (i := 1) rfl
              have g1 := HOut.out.frozen 1
              go_simp
              obtain ⟨wS, hwS⟩ : ∃ wS, (wM.setCell ⟨ob, 0, none⟩ (.slice (some ⟨sb, 0, none⟩) 0 1)).setCell ⟨ob, 1, none⟩ (.slice (some ⟨cb, 0, none⟩) 1 ccap) = wS := ⟨_, rfl⟩
              rw [hwS]
              have xS : Fx (fun j => j = ob) wM wS := hwS ▸ ((Fx.refl (fun j => j = ob) wM).set (p := ⟨ob, 0, none⟩) (.inl rfl) _).set (p := ⟨ob, 1, none⟩) (.inl rfl) _
              have bS : Bl wS ob #[.slice (some ⟨sb, 0, none⟩) 0 1, .slice (some ⟨cb, 0, none⟩) 1 ccap] 26 := hwS ▸ (HOut.out.set 0 _).set 1 _
              have hne : sb ≠ ob := fun e => by subst e; have h1 := HOut.out; have h2 := HRow.out; unfold Bl at h1 h2; rw [h1] at h2; simp at h2
              have rS : Bl wS sb #[.int .i64 0, .int .i64 0, .slice none 0 0, .slice none 0 0, .slice none 0 0] 32 := HRow.out.fx xS hne
              have hol := HOut.out.lt
              clear hwS f0 f1 g0 g1 HOut HRow
              refine hK.out _ _ ?hS67 (fun hHeld2 => ?rest67)
              case hS67 => exact ⟨xS.cell (oC.cell c0 (.inr (Nat.zero_le _))) (by have := HP0.out.1.lt; have := Hob.out; omega), xS.heap (oC.heap hm0 (.inr (Nat.zero_le _))) (by have := HP0.out.2.lt; have := Hob.out; omega), mlen (xS.heap (oC.heap hm0 (.inr (Nat.zero_le _))) (by have := HP0.out.2.lt; have := Hob.out; omega)) hes⟩
              clear hK KK
              (try clear hHeld)
              have hHeld := hHeld2
              clear hHeld2
              (try simp only [Act.put, xa, xb, xc, xd, xe, xf])
              refine wpAnyH_done (by kernel_rfl) ?_ _
              have oS : Out 0 0 W0 wS := ((Fx.of_out (S := fun _ => False) oC).then xS (fun j h1 h2 => by have := Hob.out; omega)).out (fun _ _ q => q)
              have e0 := (HP0.out.1.kept oS (.inr (Nat.zero_le _))).cell (i := 0) rfl
              have oK : Out 0 0 wS (wS.alloc (.cells #[.map (some m)] 57)) := (Out.refl 0 0 wS).alloc _
              have HK := hid_mk (sorted_one (oneN (Bl.new wS #[.map (some m)] 57) ((HP0.out.2.kept oS (.inr (Nat.zero_le _))).kept oK (.inr (Nat.zero_le _))) (a0 := 1) rfl (fun a v hv => by unfold fS at hv; by_cases ha : a = 1; exact ha; rw [if_neg ha] at hv; by_cases ha2 : a = 2 <;> simp [ha2] at hv)))
              have HS := hid_mk (And.intro oS (And.intro bS (And.intro rS (And.intro oK (And.intro hne (And.intro Hob.out Hsb.out))))))
              clear oC xS bS rS oS oK hHeld c0 hms hm0 hes hne hol Hob Hsb
              go_wp2_with fail
              refine (keysN_any _ _).mono ?_
              rintro e w1 ⟨rfl, rfl⟩
              go_wp2_with fail
              refine HK.out.mono ?_
              rintro e w2 ⟨kb, kc, rfl, o2, k2, k3⟩
              obtain ⟨oS, bS, rS, oK, hne, hob, hsb⟩ := HS.out
              have oT := oK.trans o2
              have HT := hid_mk (And.intro (oS.trans oT) (And.intro (bS.kept oT (.inr (Nat.zero_le _))) (And.intro (rS.kept oT (.inr (Nat.zero_le _))) (And.intro hne (And.intro hob hsb)))))
              clear o2 k3 oS bS rS oK hne hob hsb oT HS HK e0
              go_wp2_with fail
              go_loopw [24] (fun c wr => (c = .int .i64 0 ∧ wr = w2) ∨ (c = .int .i64 1 ∧ Out 0 0 W0 wr ∧ ∃ a ac, Bl wr ob #[.slice (some ⟨a, 0, none⟩) 1 ac, .slice (some ⟨cb, 0, none⟩) 1 ccap] 26)) (fun c _ => 1 - (intOf c).toNat)
              case atStart => exact .inl ⟨rfl, rfl⟩
              case round =>
                rcases hrel with ⟨rfl, rfl⟩ | ⟨rfl, q1, a, ac, q2⟩
                · obtain ⟨oW, bS, rS, hne, hob, hsb⟩ := HT.out
                  have c0 := bS.cell (i := 0) rfl
                  have c1 := (HP0.out.1.kept oW (.inr (Nat.zero_le _))).cell (i := 0) rfl
                  have hlk := lk1 (HP0.out.2.kept oW (.inr (Nat.zero_le _)))
                  have hmp := hid_mk HP0.out.2.lt
                  have hhp := hid_mk HP0.out.1.lt
                  clear oW bS rS hne hob hsb
                  go_upto_region 5 with fail
                  refine wp_region_T (S := fun w' => w'.cell? ⟨ob, 0, none⟩ = some (.slice (some ⟨sb, 0, none⟩) 0 1) ∧ w'.cell? ⟨h, 0, none⟩ = some (.map (some m)) ∧ (Instr.lookup 57 (.map (some m)) (.int .i64 1) false).run Tryz.prog w' = .ok (.pointer (some ⟨n1, 0, none⟩)) w') (z := 13) (by kernel_rfl) ?hS68 (fun hHeld => ?rest68)
                  case hS68 => exact ⟨c0, c1, lk1 (HP0.out.2.kept (HT.out.1.drew) (.inr (Nat.zero_le _)))⟩
                  refine tkT 0 ?_
                  refine tkT 1 ?_
                  refine tkT 2 ?_
                  refine tkT 3 ?_
                  refine tkT 4 ?_
                  refine tkT 5 ?_
                  refine tkT 6 ?_
                  refine tkT 7 ?_
                  refine tkT 8 ?_
                  refine wpAnyT_one (i := 9) (by kernel_rfl) rfl (fun KK hK => ?_)
                  simp only [xa, xb, xc]
                  go_simp
                  refine (ntell_at (l := l) (HN.out.kept (HT.out.1.drew) (.inr (Nat.zero_le _))) HV.out.1 (by omega) (by omega) (HV.out.2.quiet (HT.out.1.drew))).mono ?_
                  rintro e w9 ⟨tb, tcap, rfl, o9⟩
                  replace o9 : Out 0 0 wr w9 := ((Out.refl 0 0 wr).drew).trans o9
                  refine hK.out _ _ ?hS78 (fun hHeld2 => ?rest78)
                  case hS78 => exact ⟨o9.cell c0 (.inr (Nat.zero_le _)), o9.cell c1 (.inr (Nat.zero_le _)), lk1 (HP0.out.2.kept (HT.out.1.trans o9) (.inr (Nat.zero_le _)))⟩
                  clear hK KK
                  (try clear hHeld)
                  have hHeld := hHeld2
                  clear hHeld2
                  (try simp only [Act.put, xa, xb, xc, xd, xe, xf])
                  refine wpAnyT_one (i := 10) (by kernel_rfl) rfl (fun KK hK => ?_)
                  simp only [xa, xb, xc]
                  go_simp
                  obtain ⟨X, hX⟩ : ∃ X, w9.alloc (.cells #[.int .i64 1, .int .i64 8, .slice none 0 0, .slice (some ⟨tb, 0, none⟩) 2 tcap, .slice none 0 0] 32) = X := ⟨_, rfl⟩
                  obtain ⟨eb, heb⟩ : ∃ eb, w9.heap.size = eb := ⟨_, rfl⟩
                  rw [hX, heb]
                  have bX : Bl X eb #[.int .i64 1, .int .i64 8, .slice none 0 0, .slice (some ⟨tb, 0, none⟩) 2 tcap, .slice none 0 0] 32 := (by rw [← hX, ← heb]; exact Bl.new _ _ _)
                  replace o9 : Out 0 0 wr X := o9.trans (hX ▸ (Out.refl 0 0 w9).alloc _)
                  clear hX heb
                  refine hK.out _ _ ?hS79 (fun hHeld2 => ?rest79)
                  case hS79 => exact ⟨o9.cell c0 (.inr (Nat.zero_le _)), o9.cell c1 (.inr (Nat.zero_le _)), lk1 (HP0.out.2.kept (HT.out.1.trans o9) (.inr (Nat.zero_le _)))⟩
                  clear hK KK
                  (try clear hHeld)
                  have hHeld := hHeld2
                  clear hHeld2
                  (try simp only [Act.put, xa, xb, xc, xd, xe, xf])
                  refine wpAnyT_one (i := 11) (by kernel_rfl) rfl (fun KK hK => ?_)
                  simp only [xa, xb, xc]
                  obtain ⟨a', cap', Z, q1, q2, q3⟩ := app_nd (HT.out.2.2.1.kept o9 (.inr (Nat.zero_le _))) bX
                  refine app_sr X _ _ _ _ rfl _ _ rfl rfl q1 ?_
                  refine hK.out _ _ ?hS80 (fun hHeld2 => ?rest80)
                  case hS80 => exact ⟨q3.cell (o9.cell c0 (.inr (Nat.zero_le _))) (fun e => HT.out.2.2.2.1 e.symm), q3.cell (o9.cell c1 (.inr (Nat.zero_le _))) (by have := hhp.out; have := HT.out.2.2.2.2.2; omega), lk1 ((HP0.out.2.kept (HT.out.1.trans o9) (.inr (Nat.zero_le _))).fx q3 (by have := hmp.out; have := HT.out.2.2.2.2.2; omega))⟩
                  clear hK KK
                  (try clear hHeld)
                  have hHeld := hHeld2
                  clear hHeld2
                  (try simp only [Act.put, xa, xb, xc, xd, xe, xf])
                  refine tkT 12 ?_
                  refine wpAnyT_last (by kernel_rfl) rfl (fun KK hK => ?_)
                  simp only [xa, xb, xc]
                  have bZ := (HT.out.2.1.kept o9 (.inr (Nat.zero_le _))).fx q3 (fun e => HT.out.2.2.2.1 e.symm)
                  have z1 := bZ.frozen 0
                  have z2 := bZ.cell (i := 0) rfl
                  go_simp
                  refine hK.out _ _ ?_
                  clear hK KK
                  (try simp only [Act.put, xa, xb, xc, xd, xe, xf])
                  refine wpAnyT_done (by kernel_rfl) ?_ _
                  obtain ⟨Y, hY⟩ : ∃ Y, Z.setCell ⟨ob, 0, none⟩ (.slice (some ⟨a', 0, none⟩) 1 cap') = Y := ⟨_, rfl⟩
                  (try rw [hY])
                  have HY : Hid (Out 0 0 W0 Y ∧ ∃ a ac, Bl Y ob #[.slice (some ⟨a, 0, none⟩) 1 ac, .slice (some ⟨cb, 0, none⟩) 1 ccap] 26) := by
                    have xY : Fx (fun k => k = ob) Z Y := hY ▸ Fx.set (S := fun k => k = ob) (Fx.refl _ Z) (p := ⟨ob, 0, none⟩) (.inl rfl) _
                    exact hid_mk ⟨(((Fx.of_out (S := fun _ => False) (HT.out.1.trans o9)).then q3 (fun k h1 h2 => by have := HT.out.2.2.2.2.2; omega)).then xY (fun k h1 h2 => by have := HT.out.2.2.2.2.1; omega)).out (fun _ _ q => q), a', cap', hY ▸ bZ.set 0 _⟩
                  clear hHeld z1 z2 bZ q1 q2 q3 hY bX o9 c0 c1 hlk
                  go_wp2
                  exact ⟨.inr ⟨rfl, HY.out⟩, by decide⟩
                · obtain ⟨o0, bz, hz⟩ := HZ.out
                  have zz := bz.kept q1 (.inr (Nat.zero_le _))
                  have f0 := q2.cell (i := 0) rfl
                  have f1 := q2.cell (i := 1) rfl
                  have g0 := zz.cell (i := 0) rfl
                  have g1 := zz.cell (i := 1) rfl
                  have i0 := zz.frozen 0
                  have i1 := zz.frozen 1
                  have HF := hid_mk (And.intro zz (And.intro (o0.trans q1) hz))
                  clear o0 bz hz zz q1 q2
                  go_wp2_with fail
                  obtain ⟨zz, oF, hz⟩ := HF.out
                  exact bodyPost_ret (results_cell1 Tryz.results11 rfl (load_gr ((zz.set 0 _).set 1 _))) rfl ⟨_, _, _, _, rfl, (oF.setCell (p := ⟨z, 0, none⟩) (.inr (by show _ ≤ z; omega)) _).setCell (p := ⟨z, 1, none⟩) (.inr (by show _ ≤ z; omega)) _⟩
            · exact AllReadyH.nil
          · exact AllReadyH.nil
        · exact AllReadyH.nil
    · refine AllReadyH.cons rfl (fun KK hK => ?_) ?_
      · simp only [xa, xb, xc]
        go_simp
        obtain ⟨wA, hwA⟩ : ∃ wA, (W0.alloc (.cells #[.slice none 0 0, .slice none 0 0] 26)).drew = wA := ⟨_, rfl⟩
        obtain ⟨ob, hob⟩ : ∃ ob, W0.heap.size = ob := ⟨_, rfl⟩
        rw [hwA, hob]
        clear oC
        have oC : Out 0 0 W0 wA := hwA ▸ ((Out.refl 0 0 W0).alloc _).drew
        have hsz : W0.heap.size ≤ ob := by omega
        have HOut : Hid (Bl wA ob #[.slice none 0 0, .slice none 0 0] 26) := hid_mk (by rw [← hwA, ← hob]; exact (Bl.new _ _ _).kept ((Out.refl 0 0 _).drew) (.inr (Nat.zero_le _)))
        have Hob : Hid (W0.heap.size ≤ ob) := hid_mk (by omega)
        clear hwA hob hsz
        refine hK.out _ _ ?hS82 (fun hHeld2 => ?rest82)
        case hS82 => exact ⟨oC.cell c0 (.inr (Nat.zero_le _)), oC.heap hm0 (.inr (Nat.zero_le _)), mlen (oC.heap hm0 (.inr (Nat.zero_le _))) hes⟩
        clear hK KK
        (try clear hHeld)
        have hHeld := hHeld2
        clear hHeld2
        (try simp only [Act.put, xa, xb, xc, xd, xe, xf])
        refine wpAnyH_ready (rs := [5, 7]) (by kernel_rfl) (by simp) ?_
        refine AllReadyH.cons rfl (fun KK hK => ?_) ?_
        · simp only [xa, xb, xc]
          go_simp
          obtain ⟨wM, hwM⟩ : ∃ wM, wA.alloc (.cells #[.int .i64 0, .int .i64 0, .slice none 0 0, .slice none 0 0, .slice none 0 0] 32) = wM := ⟨_, rfl⟩
          obtain ⟨sb, hsb⟩ : ∃ sb, wA.heap.size = sb := ⟨_, rfl⟩
          rw [hwM, hsb]
          have hsz := oC.size
          have oY : Out 0 0 wA wM := hwM ▸ (Out.refl 0 0 wA).alloc _
          replace oC := oC.trans oY
          replace HOut := hid_mk (HOut.out.kept oY (.inr (Nat.zero_le _)))
          clear oY
          have HRow : Hid (Bl wM sb #[.int .i64 0, .int .i64 0, .slice none 0 0, .slice none 0 0, .slice none 0 0] 32) := hid_mk (by rw [← hwM, ← hsb]; exact Bl.new _ _ _)
          have Hsb : Hid (W0.heap.size ≤ sb) := hid_mk (by omega)
          clear hwM hsb hsz
          refine hK.out _ _ ?hS83 (fun hHeld2 => ?rest83)
          case hS83 => exact ⟨oC.cell c0 (.inr (Nat.zero_le _)), oC.heap hm0 (.inr (Nat.zero_le _)), mlen (oC.heap hm0 (.inr (Nat.zero_le _))) hes⟩
          clear hK KK
          (try clear hHeld)
          have hHeld := hHeld2
          clear hHeld2
          (try simp only [Act.put, xa, xb, xc, xd, xe, xf])
          refine wpAnyH_ready (rs := [7]) (by kernel_rfl) (by simp) ?_
          refine AllReadyH.cons rfl (fun KK hK => ?_) ?_
          · simp only [xa, xb, xc]
            go_simp
            refine (clone_vs (n := 1) (c := 1) (l := [(2, 1)]) rfl (by omega) (by omega) (HR.out.quiet oC)).mono ?_
            rintro e wC ⟨cb, ccap, rfl, oX, hcb⟩
            replace oC := oC.trans oX
            replace HOut := hid_mk (HOut.out.kept oX (.inr (Nat.zero_le _)))
            replace HRow := hid_mk (HRow.out.kept oX (.inr (Nat.zero_le _)))
            clear oX hcb
            refine hK.out _ _ ?hS84 (fun hHeld2 => ?rest84)
            case hS84 => exact ⟨oC.cell c0 (.inr (Nat.zero_le _)), oC.heap hm0 (.inr (Nat.zero_le _)), mlen (oC.heap hm0 (.inr (Nat.zero_le _))) hes⟩
            clear hK KK
            (try clear hHeld)
            have hHeld := hHeld2
            clear hHeld2
            (try simp only [Act.put, xa, xb, xc, xd, xe, xf])
            refine tk 8 ?_
            refine wpAnyH_ready (rs := [10]) (by kernel_rfl) (by simp) ?_
            refine AllReadyH.cons rfl (fun KK hK => ?_) ?_
            · simp only [xa, xb, xc]
              have f0 := HOut.out.cell (i := 0) rfl
              have g0 := HOut.out.frozen 0
              have f1 := HOut.out.cell (i := 1) rfl
              have g1 := HOut.out.frozen 1
              go_simp
              obtain ⟨wS, hwS⟩ : ∃ wS, (wC.setCell ⟨ob, 0, none⟩ (.slice (some ⟨sb, 0, none⟩) 0 1)).setCell ⟨ob, 1, none⟩ (.slice (some ⟨cb, 0, none⟩) 1 ccap) = wS := ⟨_, rfl⟩
              rw [hwS]
              have xS : Fx (fun j => j = ob) wC wS := hwS ▸ ((Fx.refl (fun j => j = ob) wC).set (p := ⟨ob, 0, none⟩) (.inl rfl) _).set (p := ⟨ob, 1, none⟩) (.inl rfl) _
              have bS : Bl wS ob #[.slice (some ⟨sb, 0, none⟩) 0 1, .slice (some ⟨cb, 0, none⟩) 1 ccap] 26 := hwS ▸ (HOut.out.set 0 _).set 1 _
              have hne : sb ≠ ob := fun e => by subst e; have h1 := HOut.out; have h2 := HRow.out; unfold Bl at h1 h2; rw [h1] at h2; simp at h2
              have rS : Bl wS sb #[.int .i64 0, .int .i64 0, .slice none 0 0, .slice none 0 0, .slice none 0 0] 32 := HRow.out.fx xS hne
              have hol := HOut.out.lt
              clear hwS f0 f1 g0 g1 HOut HRow
              refine hK.out _ _ ?hS86 (fun hHeld2 => ?rest86)
              case hS86 => exact ⟨xS.cell (oC.cell c0 (.inr (Nat.zero_le _))) (by have := HP0.out.1.lt; have := Hob.out; omega), xS.heap (oC.heap hm0 (.inr (Nat.zero_le _))) (by have := HP0.out.2.lt; have := Hob.out; omega), mlen (xS.heap (oC.heap hm0 (.inr (Nat.zero_le _))) (by have := HP0.out.2.lt; have := Hob.out; omega)) hes⟩
              clear hK KK
              (try clear hHeld)
              have hHeld := hHeld2
              clear hHeld2
              (try simp only [Act.put, xa, xb, xc, xd, xe, xf])
              refine wpAnyH_done (by kernel_rfl) ?_ _
              have oS : Out 0 0 W0 wS := ((Fx.of_out (S := fun _ => False) oC).then xS (fun j h1 h2 => by have := Hob.out; omega)).out (fun _ _ q => q)
              have e0 := (HP0.out.1.kept oS (.inr (Nat.zero_le _))).cell (i := 0) rfl
              have oK : Out 0 0 wS (wS.alloc (.cells #[.map (some m)] 57)) := (Out.refl 0 0 wS).alloc _
              have HK := hid_mk (sorted_one (oneN (Bl.new wS #[.map (some m)] 57) ((HP0.out.2.kept oS (.inr (Nat.zero_le _))).kept oK (.inr (Nat.zero_le _))) (a0 := 1) rfl (fun a v hv => by unfold fS at hv; by_cases ha : a = 1; exact ha; rw [if_neg ha] at hv; by_cases ha2 : a = 2 <;> simp [ha2] at hv)))
              have HS := hid_mk (And.intro oS (And.intro bS (And.intro rS (And.intro oK (And.intro hne (And.intro Hob.out Hsb.out))))))
              clear oC xS bS rS oS oK hHeld c0 hms hm0 hes hne hol Hob Hsb
              go_wp2_with fail
              refine (keysN_any _ _).mono ?_
              rintro e w1 ⟨rfl, rfl⟩
              go_wp2_with fail
              refine HK.out.mono ?_
              rintro e w2 ⟨kb, kc, rfl, o2, k2, k3⟩
              obtain ⟨oS, bS, rS, oK, hne, hob, hsb⟩ := HS.out
              have oT := oK.trans o2
              have HT := hid_mk (And.intro (oS.trans oT) (And.intro (bS.kept oT (.inr (Nat.zero_le _))) (And.intro (rS.kept oT (.inr (Nat.zero_le _))) (And.intro hne (And.intro hob hsb)))))
              clear o2 k3 oS bS rS oK hne hob hsb oT HS HK e0
              go_wp2_with fail
              go_loopw [24] (fun c wr => (c = .int .i64 0 ∧ wr = w2) ∨ (c = .int .i64 1 ∧ Out 0 0 W0 wr ∧ ∃ a ac, Bl wr ob #[.slice (some ⟨a, 0, none⟩) 1 ac, .slice (some ⟨cb, 0, none⟩) 1 ccap] 26)) (fun c _ => 1 - (intOf c).toNat)
              case atStart => exact .inl ⟨rfl, rfl⟩
              case round =>
                rcases hrel with ⟨rfl, rfl⟩ | ⟨rfl, q1, a, ac, q2⟩
                · obtain ⟨oW, bS, rS, hne, hob, hsb⟩ := HT.out
                  have c0 := bS.cell (i := 0) rfl
                  have c1 := (HP0.out.1.kept oW (.inr (Nat.zero_le _))).cell (i := 0) rfl
                  have hlk := lk1 (HP0.out.2.kept oW (.inr (Nat.zero_le _)))
                  have hmp := hid_mk HP0.out.2.lt
                  have hhp := hid_mk HP0.out.1.lt
                  clear oW bS rS hne hob hsb
                  go_upto_region 5 with fail
                  refine wp_region_T (S := fun w' => w'.cell? ⟨ob, 0, none⟩ = some (.slice (some ⟨sb, 0, none⟩) 0 1) ∧ w'.cell? ⟨h, 0, none⟩ = some (.map (some m)) ∧ (Instr.lookup 57 (.map (some m)) (.int .i64 1) false).run Tryz.prog w' = .ok (.pointer (some ⟨n1, 0, none⟩)) w') (z := 13) (by kernel_rfl) ?hS87 (fun hHeld => ?rest87)
                  case hS87 => exact ⟨c0, c1, lk1 (HP0.out.2.kept (HT.out.1.drew) (.inr (Nat.zero_le _)))⟩
                  refine tkT 0 ?_
                  refine tkT 1 ?_
                  refine tkT 2 ?_
                  refine tkT 3 ?_
                  refine tkT 4 ?_
                  refine tkT 5 ?_
                  refine tkT 6 ?_
                  refine tkT 7 ?_
                  refine tkT 8 ?_
                  refine wpAnyT_one (i := 9) (by kernel_rfl) rfl (fun KK hK => ?_)
                  simp only [xa, xb, xc]
                  go_simp
                  refine (ntell_at (l := l) (HN.out.kept (HT.out.1.drew) (.inr (Nat.zero_le _))) HV.out.1 (by omega) (by omega) (HV.out.2.quiet (HT.out.1.drew))).mono ?_
                  rintro e w9 ⟨tb, tcap, rfl, o9⟩
                  replace o9 : Out 0 0 wr w9 := ((Out.refl 0 0 wr).drew).trans o9
                  refine hK.out _ _ ?hS97 (fun hHeld2 => ?rest97)
                  case hS97 => exact ⟨o9.cell c0 (.inr (Nat.zero_le _)), o9.cell c1 (.inr (Nat.zero_le _)), lk1 (HP0.out.2.kept (HT.out.1.trans o9) (.inr (Nat.zero_le _)))⟩
                  clear hK KK
                  (try clear hHeld)
                  have hHeld := hHeld2
                  clear hHeld2
                  (try simp only [Act.put, xa, xb, xc, xd, xe, xf])
                  refine wpAnyT_one (i := 10) (by kernel_rfl) rfl (fun KK hK => ?_)
                  simp only [xa, xb, xc]
                  go_simp
                  obtain ⟨X, hX⟩ : ∃ X, w9.alloc (.cells #[.int .i64 1, .int .i64 8, .slice none 0 0, .slice (some ⟨tb, 0, none⟩) 2 tcap, .slice none 0 0] 32) = X := ⟨_, rfl⟩
                  obtain ⟨eb, heb⟩ : ∃ eb, w9.heap.size = eb := ⟨_, rfl⟩
                  rw [hX, heb]
                  have bX : Bl X eb #[.int .i64 1, .int .i64 8, .slice none 0 0, .slice (some ⟨tb, 0, none⟩) 2 tcap, .slice none 0 0] 32 := (by rw [← hX, ← heb]; exact Bl.new _ _ _)
                  replace o9 : Out 0 0 wr X := o9.trans (hX ▸ (Out.refl 0 0 w9).alloc _)
                  clear hX heb
                  refine hK.out _ _ ?hS98 (fun hHeld2 => ?rest98)
                  case hS98 => exact ⟨o9.cell c0 (.inr (Nat.zero_le _)), o9.cell c1 (.inr (Nat.zero_le _)), lk1 (HP0.out.2.kept (HT.out.1.trans o9) (.inr (Nat.zero_le _)))⟩
                  clear hK KK
                  (try clear hHeld)
                  have hHeld := hHeld2
                  clear hHeld2
                  (try simp only [Act.put, xa, xb, xc, xd, xe, xf])
                  refine wpAnyT_one (i := 11) (by kernel_rfl) rfl (fun KK hK => ?_)
                  simp only [xa, xb, xc]
                  obtain ⟨a', cap', Z, q1, q2, q3⟩ := app_nd (HT.out.2.2.1.kept o9 (.inr (Nat.zero_le _))) bX
                  refine app_sr X _ _ _ _ rfl _ _ rfl rfl q1 ?_
                  refine hK.out _ _ ?hS99 (fun hHeld2 => ?rest99)
                  case hS99 => exact ⟨q3.cell (o9.cell c0 (.inr (Nat.zero_le _))) (fun e => HT.out.2.2.2.1 e.symm), q3.cell (o9.cell c1 (.inr (Nat.zero_le _))) (by have := hhp.out; have := HT.out.2.2.2.2.2; omega), lk1 ((HP0.out.2.kept (HT.out.1.trans o9) (.inr (Nat.zero_le _))).fx q3 (by have := hmp.out; have := HT.out.2.2.2.2.2; omega))⟩
                  clear hK KK
                  (try clear hHeld)
                  have hHeld := hHeld2
                  clear hHeld2
                  (try simp only [Act.put, xa, xb, xc, xd, xe, xf])
                  refine tkT 12 ?_
                  refine wpAnyT_last (by kernel_rfl) rfl (fun KK hK => ?_)
                  simp only [xa, xb, xc]
                  have bZ := (HT.out.2.1.kept o9 (.inr (Nat.zero_le _))).fx q3 (fun e => HT.out.2.2.2.1 e.symm)
                  have z1 := bZ.frozen 0
                  have z2 := bZ.cell (i := 0) rfl
                  go_simp
                  refine hK.out _ _ ?_
                  clear hK KK
                  (try simp only [Act.put, xa, xb, xc, xd, xe, xf])
                  refine wpAnyT_done (by kernel_rfl) ?_ _
                  obtain ⟨Y, hY⟩ : ∃ Y, Z.setCell ⟨ob, 0, none⟩ (.slice (some ⟨a', 0, none⟩) 1 cap') = Y := ⟨_, rfl⟩
                  (try rw [hY])
                  have HY : Hid (Out 0 0 W0 Y ∧ ∃ a ac, Bl Y ob #[.slice (some ⟨a, 0, none⟩) 1 ac, .slice (some ⟨cb, 0, none⟩) 1 ccap] 26) := by
                    have xY : Fx (fun k => k = ob) Z Y := hY ▸ Fx.set (S := fun k => k = ob) (Fx.refl _ Z) (p := ⟨ob, 0, none⟩) (.inl rfl) _
                    exact hid_mk ⟨(((Fx.of_out (S := fun _ => False) (HT.out.1.trans o9)).then q3 (fun k h1 h2 => by have := HT.out.2.2.2.2.2; omega)).then xY (fun k h1 h2 => by have := HT.out.2.2.2.2.1; omega)).out (fun _ _ q => q), a', cap', hY ▸ bZ.set 0 _⟩
                  clear hHeld z1 z2 bZ q1 q2 q3 hY bX o9 c0 c1 hlk
                  go_wp2
                  exact ⟨.inr ⟨rfl, HY.out⟩, by decide⟩
                · obtain ⟨o0, bz, hz⟩ := HZ.out
                  have zz := bz.kept q1 (.inr (Nat.zero_le _))
                  have f0 := q2.cell (i := 0) rfl
                  have f1 := q2.cell (i := 1) rfl
                  have g0 := zz.cell (i := 0) rfl
                  have g1 := zz.cell (i := 1) rfl
                  have i0 := zz.frozen 0
                  have i1 := zz.frozen 1
                  have HF := hid_mk (And.intro zz (And.intro (o0.trans q1) hz))
                  clear o0 bz hz zz q1 q2
                  go_wp2_with fail
                  obtain ⟨zz, oF, hz⟩ := HF.out
                  exact bodyPost_ret (results_cell1 Tryz.results11 rfl (load_gr ((zz.set 0 _).set 1 _))) rfl ⟨_, _, _, _, rfl, (oF.setCell (p := ⟨z, 0, none⟩) (.inr (by show _ ≤ z; omega)) _).setCell (p := ⟨z, 1, none⟩) (.inr (by show _ ≤ z; omega)) _⟩
            · exact AllReadyH.nil
          · exact AllReadyH.nil
        · refine AllReadyH.cons rfl (fun KK hK => ?_) ?_
          · simp only [xa, xb, xc]
            go_simp
            refine (clone_vs (n := 1) (c := 1) (l := [(2, 1)]) rfl (by omega) (by omega) (HR.out.quiet oC)).mono ?_
            rintro e wC ⟨cb, ccap, rfl, oX, hcb⟩
            replace oC := oC.trans oX
            replace HOut := hid_mk (HOut.out.kept oX (.inr (Nat.zero_le _)))
            clear oX hcb
            refine hK.out _ _ ?hS101 (fun hHeld2 => ?rest101)
            case hS101 => exact ⟨oC.cell c0 (.inr (Nat.zero_le _)), oC.heap hm0 (.inr (Nat.zero_le _)), mlen (oC.heap hm0 (.inr (Nat.zero_le _))) hes⟩
            clear hK KK
            (try clear hHeld)
            have hHeld := hHeld2
            clear hHeld2
            (try simp only [Act.put, xa, xb, xc, xd, xe, xf])
            refine wpAnyH_ready (rs := [5]) (by kernel_rfl) (by simp) ?_
            refine AllReadyH.cons rfl (fun KK hK => ?_) ?_
            · simp only [xa, xb, xc]
              go_simp
              obtain ⟨wM, hwM⟩ : ∃ wM, wC.alloc (.cells #[.int .i64 0, .int .i64 0, .slice none 0 0, .slice none 0 0, .slice none 0 0] 32) = wM := ⟨_, rfl⟩
              obtain ⟨sb, hsb⟩ : ∃ sb, wC.heap.size = sb := ⟨_, rfl⟩
              rw [hwM, hsb]
              have hsz := oC.size
              have oY : Out 0 0 wC wM := hwM ▸ (Out.refl 0 0 wC).alloc _
              replace oC := oC.trans oY
              replace HOut := hid_mk (HOut.out.kept oY (.inr (Nat.zero_le _)))
              clear oY
              have HRow : Hid (Bl wM sb #[.int .i64 0, .int .i64 0, .slice none 0 0, .slice none 0 0, .slice none 0 0] 32) := hid_mk (by rw [← hwM, ← hsb]; exact Bl.new _ _ _)
              have Hsb : Hid (W0.heap.size ≤ sb) := hid_mk (by omega)
              clear hwM hsb hsz
              refine hK.out _ _ ?hS102 (fun hHeld2 => ?rest102)
              case hS102 => exact ⟨oC.cell c0 (.inr (Nat.zero_le _)), oC.heap hm0 (.inr (Nat.zero_le _)), mlen (oC.heap hm0 (.inr (Nat.zero_le _))) hes⟩
              clear hK KK
              (try clear hHeld)
              have hHeld := hHeld2
              clear hHeld2
              (try simp only [Act.put, xa, xb, xc, xd, xe, xf])
              refine tk 8 ?_
              refine wpAnyH_ready (rs := [10]) (by kernel_rfl) (by simp) ?_
              refine AllReadyH.cons rfl (fun KK hK => ?_) ?_
              · simp only [xa, xb, xc]
                have f0 := HOut.out.cell (i := 0) rfl
                have g0 := HOut.out.frozen 0
                have f1 := HOut.out.cell (i := 1) rfl
                have g1 := HOut.out.frozen 1
                go_simp
                obtain ⟨wS, hwS⟩ : ∃ wS, (wM.setCell ⟨ob, 0, none⟩ (.slice (some ⟨sb, 0, none⟩) 0 1)).setCell ⟨ob, 1, none⟩ (.slice (some ⟨cb, 0, none⟩) 1 ccap) = wS := ⟨_, rfl⟩
                rw [hwS]
                have xS : Fx (fun j => j = ob) wM wS := hwS ▸ ((Fx.refl (fun j => j = ob) wM).set (p := ⟨ob, 0, none⟩) (.inl rfl) _).set (p := ⟨ob, 1, none⟩) (.inl rfl) _
                have bS : Bl wS ob #[.slice (some ⟨sb, 0, none⟩) 0 1, .slice (some ⟨cb, 0, none⟩) 1 ccap] 26 := hwS ▸ (HOut.out.set 0 _).set 1 _
                have hne : sb ≠ ob := fun e => by subst e; have h1 := HOut.out; have h2 := HRow.out; unfold Bl at h1 h2; rw [h1] at h2; simp at h2
                have rS : Bl wS sb #[.int .i64 0, .int .i64 0, .slice none 0 0, .slice none 0 0, .slice none 0 0] 32 := HRow.out.fx xS hne
                have hol := HOut.out.lt
                clear hwS f0 f1 g0 g1 HOut HRow
                refine hK.out _ _ ?hS104 (fun hHeld2 => ?rest104)
                case hS104 => exact ⟨xS.cell (oC.cell c0 (.inr (Nat.zero_le _))) (by have := HP0.out.1.lt; have := Hob.out; omega), xS.heap (oC.heap hm0 (.inr (Nat.zero_le _))) (by have := HP0.out.2.lt; have := Hob.out; omega), mlen (xS.heap (oC.heap hm0 (.inr (Nat.zero_le _))) (by have := HP0.out.2.lt; have := Hob.out; omega)) hes⟩
                clear hK KK
                (try clear hHeld)
                have hHeld := hHeld2
                clear hHeld2
                (try simp only [Act.put, xa, xb, xc, xd, xe, xf])
                refine wpAnyH_done (by kernel_rfl) ?_ _
                have oS : Out 0 0 W0 wS := ((Fx.of_out (S := fun _ => False) oC).then xS (fun j h1 h2 => by have := Hob.out; omega)).out (fun _ _ q => q)
                have e0 := (HP0.out.1.kept oS (.inr (Nat.zero_le _))).cell (i := 0) rfl
                have oK : Out 0 0 wS (wS.alloc (.cells #[.map (some m)] 57)) := (Out.refl 0 0 wS).alloc _
                have HK := hid_mk (sorted_one (oneN (Bl.new wS #[.map (some m)] 57) ((HP0.out.2.kept oS (.inr (Nat.zero_le _))).kept oK (.inr (Nat.zero_le _))) (a0 := 1) rfl (fun a v hv => by unfold fS at hv; by_cases ha : a = 1; exact ha; rw [if_neg ha] at hv; by_cases ha2 : a = 2 <;> simp [ha2] at hv)))
                have HS := hid_mk (And.intro oS (And.intro bS (And.intro rS (And.intro oK (And.intro hne (And.intro Hob.out Hsb.out))))))
                clear oC xS bS rS oS oK hHeld c0 hms hm0 hes hne hol Hob Hsb
                go_wp2_with fail
                refine (keysN_any _ _).mono ?_
                rintro e w1 ⟨rfl, rfl⟩
                go_wp2_with fail
                refine HK.out.mono ?_
                rintro e w2 ⟨kb, kc, rfl, o2, k2, k3⟩
                obtain ⟨oS, bS, rS, oK, hne, hob, hsb⟩ := HS.out
                have oT := oK.trans o2
                have HT := hid_mk (And.intro (oS.trans oT) (And.intro (bS.kept oT (.inr (Nat.zero_le _))) (And.intro (rS.kept oT (.inr (Nat.zero_le _))) (And.intro hne (And.intro hob hsb)))))
                clear o2 k3 oS bS rS oK hne hob hsb oT HS HK e0
                go_wp2_with fail
                go_loopw [24] (fun c wr => (c = .int .i64 0 ∧ wr = w2) ∨ (c = .int .i64 1 ∧ Out 0 0 W0 wr ∧ ∃ a ac, Bl wr ob #[.slice (some ⟨a, 0, none⟩) 1 ac, .slice (some ⟨cb, 0, none⟩) 1 ccap] 26)) (fun c _ => 1 - (intOf c).toNat)
                case atStart => exact .inl ⟨rfl, rfl⟩
                case round =>
                  rcases hrel with ⟨rfl, rfl⟩ | ⟨rfl, q1, a, ac, q2⟩
                  · obtain ⟨oW, bS, rS, hne, hob, hsb⟩ := HT.out
                    have c0 := bS.cell (i := 0) rfl
                    have c1 := (HP0.out.1.kept oW (.inr (Nat.zero_le _))).cell (i := 0) rfl
                    have hlk := lk1 (HP0.out.2.kept oW (.inr (Nat.zero_le _)))
                    have hmp := hid_mk HP0.out.2.lt
                    have hhp := hid_mk HP0.out.1.lt
                    clear oW bS rS hne hob hsb
                    go_upto_region 5 with fail
                    refine wp_region_T (S := fun w' => w'.cell? ⟨ob, 0, none⟩ = some (.slice (some ⟨sb, 0, none⟩) 0 1) ∧ w'.cell? ⟨h, 0, none⟩ = some (.map (some m)) ∧ (Instr.lookup 57 (.map (some m)) (.int .i64 1) false).run Tryz.prog w' = .ok (.pointer (some ⟨n1, 0, none⟩)) w') (z := 13) (by kernel_rfl) ?hS105 (fun hHeld => ?rest105)
                    case hS105 => exact ⟨c0, c1, lk1 (HP0.out.2.kept (HT.out.1.drew) (.inr (Nat.zero_le _)))⟩
                    refine tkT 0 ?_
                    refine tkT 1 ?_
                    refine tkT 2 ?_
                    refine tkT 3 ?_
                    refine tkT 4 ?_
                    refine tkT 5 ?_
                    refine tkT 6 ?_
                    refine tkT 7 ?_
                    refine tkT 8 ?_
                    refine wpAnyT_one (i := 9) (by kernel_rfl) rfl (fun KK hK => ?_)
                    simp only [xa, xb, xc]
                    go_simp
                    refine (ntell_at (l := l) (HN.out.kept (HT.out.1.drew) (.inr (Nat.zero_le _))) HV.out.1 (by omega) (by omega) (HV.out.2.quiet (HT.out.1.drew))).mono ?_
                    rintro e w9 ⟨tb, tcap, rfl, o9⟩
                    replace o9 : Out 0 0 wr w9 := ((Out.refl 0 0 wr).drew).trans o9
                    refine hK.out _ _ ?hS115 (fun hHeld2 => ?rest115)
                    case hS115 => exact ⟨o9.cell c0 (.inr (Nat.zero_le _)), o9.cell c1 (.inr (Nat.zero_le _)), lk1 (HP0.out.2.kept (HT.out.1.trans o9) (.inr (Nat.zero_le _)))⟩
                    clear hK KK
                    (try clear hHeld)
                    have hHeld := hHeld2
                    clear hHeld2
                    (try simp only [Act.put, xa, xb, xc, xd, xe, xf])
                    refine wpAnyT_one (i := 10) (by kernel_rfl) rfl (fun KK hK => ?_)
                    simp only [xa, xb, xc]
                    go_simp
                    obtain ⟨X, hX⟩ : ∃ X, w9.alloc (.cells #[.int .i64 1, .int .i64 8, .slice none 0 0, .slice (some ⟨tb, 0, none⟩) 2 tcap, .slice none 0 0] 32) = X := ⟨_, rfl⟩
                    obtain ⟨eb, heb⟩ : ∃ eb, w9.heap.size = eb := ⟨_, rfl⟩
                    rw [hX, heb]
                    have bX : Bl X eb #[.int .i64 1, .int .i64 8, .slice none 0 0, .slice (some ⟨tb, 0, none⟩) 2 tcap, .slice none 0 0] 32 := (by rw [← hX, ← heb]; exact Bl.new _ _ _)
                    replace o9 : Out 0 0 wr X := o9.trans (hX ▸ (Out.refl 0 0 w9).alloc _)
                    clear hX heb
                    refine hK.out _ _ ?hS116 (fun hHeld2 => ?rest116)
                    case hS116 => exact ⟨o9.cell c0 (.inr (Nat.zero_le _)), o9.cell c1 (.inr (Nat.zero_le _)), lk1 (HP0.out.2.kept (HT.out.1.trans o9) (.inr (Nat.zero_le _)))⟩
                    clear hK KK
                    (try clear hHeld)
                    have hHeld := hHeld2
                    clear hHeld2
                    (try simp only [Act.put, xa, xb, xc, xd, xe, xf])
                    refine wpAnyT_one (i := 11) (by kernel_rfl) rfl (fun KK hK => ?_)
                    simp only [xa, xb, xc]
                    obtain ⟨a', cap', Z, q1, q2, q3⟩ := app_nd (HT.out.2.2.1.kept o9 (.inr (Nat.zero_le _))) bX
                    refine app_sr X _ _ _ _ rfl _ _ rfl rfl q1 ?_
                    refine hK.out _ _ ?hS117 (fun hHeld2 => ?rest117)
                    case hS117 => exact ⟨q3.cell (o9.cell c0 (.inr (Nat.zero_le _))) (fun e => HT.out.2.2.2.1 e.symm), q3.cell (o9.cell c1 (.inr (Nat.zero_le _))) (by have := hhp.out; have := HT.out.2.2.2.2.2; omega), lk1 ((HP0.out.2.kept (HT.out.1.trans o9) (.inr (Nat.zero_le _))).fx q3 (by have := hmp.out; have := HT.out.2.2.2.2.2; omega))⟩
                    clear hK KK
                    (try clear hHeld)
                    have hHeld := hHeld2
                    clear hHeld2
                    (try simp only [Act.put, xa, xb, xc, xd, xe, xf])
                    refine tkT 12 ?_
                    refine wpAnyT_last (by kernel_rfl) rfl (fun KK hK => ?_)
                    simp only [xa, xb, xc]
                    have bZ := (HT.out.2.1.kept o9 (.inr (Nat.zero_le _))).fx q3 (fun e => HT.out.2.2.2.1 e.symm)
                    have z1 := bZ.frozen 0
                    have z2 := bZ.cell (i := 0) rfl
                    go_simp
                    refine hK.out _ _ ?_
                    clear hK KK
                    (try simp only [Act.put, xa, xb, xc, xd, xe, xf])
                    refine wpAnyT_done (by kernel_rfl) ?_ _
                    obtain ⟨Y, hY⟩ : ∃ Y, Z.setCell ⟨ob, 0, none⟩ (.slice (some ⟨a', 0, none⟩) 1 cap') = Y := ⟨_, rfl⟩
                    (try rw [hY])
                    have HY : Hid (Out 0 0 W0 Y ∧ ∃ a ac, Bl Y ob #[.slice (some ⟨a, 0, none⟩) 1 ac, .slice (some ⟨cb, 0, none⟩) 1 ccap] 26) := by
                      have xY : Fx (fun k => k = ob) Z Y := hY ▸ Fx.set (S := fun k => k = ob) (Fx.refl _ Z) (p := ⟨ob, 0, none⟩) (.inl rfl) _
                      exact hid_mk ⟨(((Fx.of_out (S := fun _ => False) (HT.out.1.trans o9)).then q3 (fun k h1 h2 => by have := HT.out.2.2.2.2.2; omega)).then xY (fun k h1 h2 => by have := HT.out.2.2.2.2.1; omega)).out (fun _ _ q => q), a', cap', hY ▸ bZ.set 0 _⟩
                    clear hHeld z1 z2 bZ q1 q2 q3 hY bX o9 c0 c1 hlk
                    go_wp2
                    exact ⟨.inr ⟨rfl, HY.out⟩, by decide⟩
                  · obtain ⟨o0, bz, hz⟩ := HZ.out
                    have zz := bz.kept q1 (.inr (Nat.zero_le _))
                    have f0 := q2.cell (i := 0) rfl
                    have f1 := q2.cell (i := 1) rfl
                    have g0 := zz.cell (i := 0) rfl
                    have g1 := zz.cell (i := 1) rfl
                    have i0 := zz.frozen 0
                    have i1 := zz.frozen 1
                    have HF := hid_mk (And.intro zz (And.intro (o0.trans q1) hz))
                    clear o0 bz hz zz q1 q2
                    go_wp2_with fail
                    obtain ⟨zz, oF, hz⟩ := HF.out
                    exact bodyPost_ret (results_cell1 Tryz.results11 rfl (load_gr ((zz.set 0 _).set 1 _))) rfl ⟨_, _, _, _, rfl, (oF.setCell (p := ⟨z, 0, none⟩) (.inr (by show _ ≤ z; omega)) _).setCell (p := ⟨z, 1, none⟩) (.inr (by show _ ≤ z; omega)) _⟩
              · exact AllReadyH.nil
            · exact AllReadyH.nil
          · exact AllReadyH.nil
      · exact AllReadyH.nil
end Go.Proofs.YtocncffplcfpbaaGreatDoor
