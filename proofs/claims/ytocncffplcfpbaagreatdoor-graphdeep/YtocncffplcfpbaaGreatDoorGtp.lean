/- graph: (*Heap).tell of a plain graph, in general -/
import Derived.Test.YtocncffplcfpbaaGreatDoorGto
namespace Go.Proofs.YtocncffplcfpbaaGreatDoor
open Go.RowKit Go.MapKept
set_option linter.unusedVariables false
set_option linter.unusedSimpArgs false

theorem cut4 {K : Go.Act → World → Prop} {F : Nat → Nat → Nat → Nat → World → Prop} {act : Nat → Nat → Nat → Nat → Go.Act} {G : Prop} (h1 : (∀ a b c d V, F a b c d V → K (act a b c d) V) → G) (h2 : ∀ a b c d V, F a b c d V → K (act a b c d) V) : G := h1 h2
/-- the nodes that were told lie at a; their lists at tb -/
def Told (w : World) (a : Option Addr) (ac n : Nat) (K nf tb tc : Nat → Nat) (l : Nat → List VP) (B : Nat) : Prop := w.ownsRow B 32 5 (.slice a n ac) n (nCs K nf tb tc n) ∧ ∀ i, i < n → VB w (tb i) (l i)
def HtQ (W : World) (n : Nat) (K nf : Nat → Nat) (l : Nat → List VP) (nr : Nat) (rl : List VP) (e : Ending) (w' : World) : Prop := ∃ (a : Option Addr) (ac cb cc : Nat) (tb tc : Nat → Nat), e = .returned (.agg #[.slice a n ac, .slice (some ⟨cb, 0, none⟩) nr cc]) ∧ Out 0 0 W w' ∧ Told w' a ac n K nf tb tc l W.heap.size ∧ VB w' cb rl ∧ W.heap.size ≤ cb
/-- where tell stands behind k nodes; the sorted keys lie at kg -/
def TLp (W0 wr : World) (ob cb nr cc n kg : Nat) (K nf : Nat → Nat) (l : Nat → List VP) (rl : List VP) (k : Nat) : Prop := Out 0 0 W0 wr ∧ ∃ (a : Option Addr) (ac : Nat) (tb tc : Nat → Nat), Bl wr ob #[.slice a k ac, .slice (some ⟨cb, 0, none⟩) nr cc] 26 ∧ Told wr a ac k K nf tb tc l W0.heap.size ∧ VB wr cb rl ∧
  ∃ cur, Bl wr kg cur 3 ∧ ∀ i, i < n → cur[i]? = some (.int .i64 ((i + 1 : Nat) : Int))
theorem own_base {w : World} {B C n sz : Nat} {E : TypeId} {v : Value} {xs : List Value} (h : w.ownsRow B E sz v n xs) (hC : C ≤ B) : w.ownsRow C E sz v n xs := by
  refine ⟨h.1, ?_⟩
  rcases h.2 with h | ⟨g, c, cur, h1, h2, h3⟩
  · exact .inl h
  · exact .inr ⟨g, c, cur, h1, Nat.le_trans hC h2, h3⟩
set_option maxRecDepth 100000 in
set_option maxHeartbeats 8000000 in
theorem htell_own {W : World} {h m n gr off nr rc : Nat} {la : Int} {K : Nat → Nat} {fa : Nat → Option Addr} {nf fc b : Nat → Nat} {l : Nat → List VP} {rl : List VP} (hP : HP W h m la (fA b n)) (hn1 : 1 ≤ n) (hn : n ≤ 400000)
    (hN : ∀ i, i < n → Bl W (b i) (ndc (K i) (.slice none 0 0) (.slice (fa i) (nf i) (fc i))) 94 ∧ VsAt W (fa i) (l i) ∧ (l i).length = nf i ∧ 0 < nf i ∧ nf i ≤ 100000) (hr : VsAt W (some ⟨gr, off, none⟩) rl) (hrl : rl.length = nr) (hr0 : 0 < nr) (hr1 : nr ≤ 400000) :
    Calls Tryz.prog 11 #[.pointer (some ⟨h, 0, none⟩), .slice (some ⟨gr, off, none⟩) nr rc] W (HtQ W n K nf l nr rl) := by
  obtain ⟨W0, hW0⟩ : ∃ W0, W.alloc (.cells #[.slice none 0 0, .slice none 0 0] 26) = W0 := ⟨_, rfl⟩
  obtain ⟨z, hz⟩ : ∃ z, W.heap.size = z := ⟨_, rfl⟩
  have o0 : Out 0 0 W W0 := hW0 ▸ (Out.refl 0 0 W).alloc _
  have bz : Bl W0 z #[.slice none 0 0, .slice none 0 0] 26 := by rw [← hW0, ← hz]; exact Bl.new _ _ _
  have P0 := hP.quiet o0
  have c0 := P0.1.cell (i := 0) rfl
  have hdn : ∀ y, fA b n y ≠ none ↔ 1 ≤ y ∧ y ≤ (n : Int) := fun y => ⟨fun q => fA_dom q, fun q => fA_ne q⟩
  obtain ⟨es, clock, hm0, hes⟩ := mp_len P0.2 hdn
  have HP0 := hid_mk P0
  have HN : Hid (∀ i, i < n → Bl W0 (b i) (ndc (K i) (.slice none 0 0) (.slice (fa i) (nf i) (fc i))) 94 ∧ VsAt W0 (fa i) (l i) ∧ (l i).length = nf i ∧ 0 < nf i ∧ nf i ≤ 100000) := hid_mk (fun i hi => ⟨(hN i hi).1.kept o0 (.inr (Nat.zero_le _)), (hN i hi).2.1.quiet o0, (hN i hi).2.2⟩)
  have HR := hid_mk (And.intro hrl (And.intro hr0 (And.intro hr1 (hr.quiet o0))))
  have HZ := hid_mk (And.intro o0 (And.intro bz hz))
  have HD := hid_mk (And.intro hdn (And.intro hn hn1))
  have oC0 : Out 0 0 W0 W0.drew := (Out.refl 0 0 W0).drew
  have hms := ms_n5 hn
  clear hN o0 bz hP P0 hr hrl hr0 hr1 hdn hn hn1
  go_enter Tryz.func11, Tryz.ntmps11
  go_upto_region 1 with fail
  (try rw [hW0]); (try rw [hz])
  clear hW0 hz
  rename_i Kc hKc
  apply cut4 (K := Kc) (F := fun sb cb cc ob V => Out 0 0 W0 V ∧ Bl V ob #[.slice (some ⟨sb, 0, none⟩) 0 n, .slice (some ⟨cb, 0, none⟩) nr cc] 26 ∧ Bl V sb (MC n) 32 ∧ VB V cb rl ∧ W0.heap.size ≤ sb ∧ W0.heap.size ≤ cb ∧ W0.heap.size ≤ ob)
  · intro HK
    refine wp_region_held_drew (S := fun w' => w'.cell? ⟨h, 0, none⟩ = some (.map (some m)) ∧ w'.heap[m]? = some (.map es clock) ∧ (Builtin.len_ #[57] 3 #[.map (some m)]).run Tryz.prog w' = .ok (.int .i64 (n : Int)) w') (by kernel_rfl) ?hS1 (fun hHeld => ?rest1)
    case hS1 => exact ⟨c0, hm0, mlen_n (w := W0.drew) hm0 hes⟩
    refine tk 0 ?_
    refine tk 1 ?_
    refine tk 2 ?_
    refine tk 3 ?_
    refine tk 4 ?_
    refine tk 6 ?_
    refine wpAnyH_ready (rs := [5, 7, 9]) (by kernel_rfl) (by simp) ?_
    refine AllReadyH.cons rfl (fun KK hK => ?_) ?_
    · simp only [xa, xb, xc]
      go_simp
      obtain ⟨wM, hwM⟩ : ∃ wM, (W0.alloc (.cells (MC n) 32)).drew = wM := ⟨_, rfl⟩
      obtain ⟨sb, hsb⟩ : ∃ sb, W0.heap.size = sb := ⟨_, rfl⟩
      rw [hwM, hsb]
      have oC : Out 0 0 W0 wM := hwM ▸ ((Out.refl 0 0 W0).alloc _).drew
      have hsz : W0.heap.size ≤ sb := by omega
      have HRow : Hid (Bl wM sb (MC n) 32) := hid_mk (by rw [← hwM, ← hsb]; exact (Bl.new _ _ _).kept ((Out.refl 0 0 _).drew) (.inr (Nat.zero_le _)))
      have Hsb : Hid (W0.heap.size ≤ sb) := hid_mk (by omega)
      (try clear hwM hsb hsz)
      refine hK.out _ _ ?hS8 (fun hHeld2 => ?rest8)
      case hS8 => exact ⟨oC.cell c0 (.inr (Nat.zero_le _)), oC.heap hm0 (.inr (Nat.zero_le _)), mlen_n (oC.heap hm0 (.inr (Nat.zero_le _))) hes⟩
      (try clear hK KK)
      (try clear hHeld)
      have hHeld := hHeld2
      clear hHeld2
      (try simp only [Act.put, xa, xb, xc, xd, xe, xf])
      refine wpAnyH_ready (rs := [7, 9]) (by kernel_rfl) (by simp) ?_
      refine AllReadyH.cons rfl (fun KK hK => ?_) ?_
      · simp only [xa, xb, xc]
        go_simp
        refine (clone_own HR.out.1 HR.out.2.1 (by have := HR.out.2.2.1; omega) (HR.out.2.2.2.quiet oC)).mono ?_
        rintro e wC ⟨cb, ccap, rfl, oX, hcb, hvb⟩
        have HCB : Hid (W0.heap.size ≤ cb) := hid_mk (Nat.le_trans (oC.size) hcb)
        replace oC := oC.trans oX
        replace HRow := hid_mk (HRow.out.kept oX (.inr (Nat.zero_le _)))
        have HVB := hid_mk hvb
        refine hK.out _ _ ?hS9 (fun hHeld2 => ?rest9)
        case hS9 => exact ⟨oC.cell c0 (.inr (Nat.zero_le _)), oC.heap hm0 (.inr (Nat.zero_le _)), mlen_n (oC.heap hm0 (.inr (Nat.zero_le _))) hes⟩
        (try clear hK KK)
        (try clear hHeld)
        have hHeld := hHeld2
        clear hHeld2
        (try simp only [Act.put, xa, xb, xc, xd, xe, xf])
        refine tk 8 ?_
        refine wpAnyH_ready (rs := [9]) (by kernel_rfl) (by simp) ?_
        refine AllReadyH.cons rfl (fun KK hK => ?_) ?_
        · simp only [xa, xb, xc]
          go_simp
          obtain ⟨wA, hwA⟩ : ∃ wA, wC.alloc (.cells #[.slice none 0 0, .slice none 0 0] 26) = wA := ⟨_, rfl⟩
          obtain ⟨ob, hob⟩ : ∃ ob, wC.heap.size = ob := ⟨_, rfl⟩
          rw [hwA, hob]
          have hsz := oC.size
          have oY : Out 0 0 wC wA := hwA ▸ (Out.refl 0 0 wC).alloc _
          replace oC := oC.trans oY
          replace HRow := hid_mk (HRow.out.kept oY (.inr (Nat.zero_le _)))
          replace HVB := hid_mk (HVB.out.quiet oY)
          have HOut : Hid (Bl wA ob #[.slice none 0 0, .slice none 0 0] 26) := hid_mk (by rw [← hwA, ← hob]; exact Bl.new _ _ _)
          have Hob : Hid (W0.heap.size ≤ ob) := hid_mk (by omega)
          (try clear hwA hob hsz)
          refine hK.out _ _ ?hS11 (fun hHeld2 => ?rest11)
          case hS11 => exact ⟨oC.cell c0 (.inr (Nat.zero_le _)), oC.heap hm0 (.inr (Nat.zero_le _)), mlen_n (oC.heap hm0 (.inr (Nat.zero_le _))) hes⟩
          (try clear hK KK)
          (try clear hHeld)
          have hHeld := hHeld2
          clear hHeld2
          (try simp only [Act.put, xa, xb, xc, xd, xe, xf])
          refine wpAnyH_ready (rs := [10]) (by kernel_rfl) (by simp) ?_
          refine AllReadyH.cons rfl (fun KK hK => ?_) ?_
          · simp only [xa, xb, xc]
            have f0 := HOut.out.cell (i := 0) rfl
            have g0 := HOut.out.frozen 0
            have f1 := HOut.out.cell (i := 1) rfl
            have g1 := HOut.out.frozen 1
            go_simp
            obtain ⟨wS, hwS⟩ : ∃ wS, (wA.setCell ⟨ob, 0, none⟩ (.slice (some ⟨sb, 0, none⟩) 0 n)).setCell ⟨ob, 1, none⟩ (.slice (some ⟨cb, 0, none⟩) nr ccap) = wS := ⟨_, rfl⟩
            rw [hwS]
            have xS : Fx (fun j => j = ob) wA wS := hwS ▸ ((Fx.refl (fun j => j = ob) wA).set (p := ⟨ob, 0, none⟩) (.inl rfl) _).set (p := ⟨ob, 1, none⟩) (.inl rfl) _
            have bS : Bl wS ob #[.slice (some ⟨sb, 0, none⟩) 0 n, .slice (some ⟨cb, 0, none⟩) nr ccap] 26 := hwS ▸ (HOut.out.set 0 _).set 1 _
            have hne : sb ≠ ob := fun e => by subst e; have h1 := HOut.out; have h2 := HRow.out; unfold Bl at h1 h2; rw [h1] at h2; simp at h2
            have rS : Bl wS sb (MC n) 32 := HRow.out.fx xS hne
            have vS : VB wS cb rl := HVB.out.fx xS (HVB.out.ne HOut.out (by decide))
            have hol := HOut.out.lt
            refine hK.out _ _ ?hS12 (fun hHeld2 => ?rest12)
            case hS12 => exact ⟨xS.cell (oC.cell c0 (.inr (Nat.zero_le _))) (by have := HP0.out.1.lt; have := Hob.out; omega), xS.heap (oC.heap hm0 (.inr (Nat.zero_le _))) (by have := HP0.out.2.lt; have := Hob.out; omega), mlen_n (xS.heap (oC.heap hm0 (.inr (Nat.zero_le _))) (by have := HP0.out.2.lt; have := Hob.out; omega)) hes⟩
            (try clear hK KK)
            (try clear hHeld)
            have hHeld := hHeld2
            clear hHeld2
            (try simp only [Act.put, xa, xb, xc, xd, xe, xf])
            refine wpAnyH_done (by kernel_rfl) ?_ _
            exact HK sb cb ccap ob _ ⟨((Fx.of_out (S := fun _ => False) oC).then xS (fun j h1 h2 => by have := Hob.out; omega)).out (fun _ _ q => q), bS, rS, vS, Hsb.out, HCB.out, Hob.out⟩
          · exact AllReadyH.nil
        · exact AllReadyH.nil
      · refine AllReadyH.cons rfl (fun KK hK => ?_) ?_
        · simp only [xa, xb, xc]
          go_simp
          obtain ⟨wA, hwA⟩ : ∃ wA, wM.alloc (.cells #[.slice none 0 0, .slice none 0 0] 26) = wA := ⟨_, rfl⟩
          obtain ⟨ob, hob⟩ : ∃ ob, wM.heap.size = ob := ⟨_, rfl⟩
          rw [hwA, hob]
          have hsz := oC.size
          have oY : Out 0 0 wM wA := hwA ▸ (Out.refl 0 0 wM).alloc _
          replace oC := oC.trans oY
          replace HRow := hid_mk (HRow.out.kept oY (.inr (Nat.zero_le _)))
          have HOut : Hid (Bl wA ob #[.slice none 0 0, .slice none 0 0] 26) := hid_mk (by rw [← hwA, ← hob]; exact Bl.new _ _ _)
          have Hob : Hid (W0.heap.size ≤ ob) := hid_mk (by omega)
          (try clear hwA hob hsz)
          refine hK.out _ _ ?hS13 (fun hHeld2 => ?rest13)
          case hS13 => exact ⟨oC.cell c0 (.inr (Nat.zero_le _)), oC.heap hm0 (.inr (Nat.zero_le _)), mlen_n (oC.heap hm0 (.inr (Nat.zero_le _))) hes⟩
          (try clear hK KK)
          (try clear hHeld)
          have hHeld := hHeld2
          clear hHeld2
          (try simp only [Act.put, xa, xb, xc, xd, xe, xf])
          refine wpAnyH_ready (rs := [7]) (by kernel_rfl) (by simp) ?_
          refine AllReadyH.cons rfl (fun KK hK => ?_) ?_
          · simp only [xa, xb, xc]
            go_simp
            refine (clone_own HR.out.1 HR.out.2.1 (by have := HR.out.2.2.1; omega) (HR.out.2.2.2.quiet oC)).mono ?_
            rintro e wC ⟨cb, ccap, rfl, oX, hcb, hvb⟩
            have HCB : Hid (W0.heap.size ≤ cb) := hid_mk (Nat.le_trans (oC.size) hcb)
            replace oC := oC.trans oX
            replace HOut := hid_mk (HOut.out.kept oX (.inr (Nat.zero_le _)))
            replace HRow := hid_mk (HRow.out.kept oX (.inr (Nat.zero_le _)))
            have HVB := hid_mk hvb
            refine hK.out _ _ ?hS14 (fun hHeld2 => ?rest14)
            case hS14 => exact ⟨oC.cell c0 (.inr (Nat.zero_le _)), oC.heap hm0 (.inr (Nat.zero_le _)), mlen_n (oC.heap hm0 (.inr (Nat.zero_le _))) hes⟩
            (try clear hK KK)
            (try clear hHeld)
            have hHeld := hHeld2
            clear hHeld2
            (try simp only [Act.put, xa, xb, xc, xd, xe, xf])
            refine tk 8 ?_
            refine wpAnyH_ready (rs := [10]) (by kernel_rfl) (by simp) ?_
            refine AllReadyH.cons rfl (fun KK hK => ?_) ?_
            · simp only [xa, xb, xc]
              have f0 := HOut.out.cell (i := 0) rfl
              have g0 := HOut.out.frozen 0
              have f1 := HOut.out.cell (i := 1) rfl
              have g1 := HOut.out.frozen 1
              go_simp
              obtain ⟨wS, hwS⟩ : ∃ wS, (wC.setCell ⟨ob, 0, none⟩ (.slice (some ⟨sb, 0, none⟩) 0 n)).setCell ⟨ob, 1, none⟩ (.slice (some ⟨cb, 0, none⟩) nr ccap) = wS := ⟨_, rfl⟩
              rw [hwS]
              have xS : Fx (fun j => j = ob) wC wS := hwS ▸ ((Fx.refl (fun j => j = ob) wC).set (p := ⟨ob, 0, none⟩) (.inl rfl) _).set (p := ⟨ob, 1, none⟩) (.inl rfl) _
              have bS : Bl wS ob #[.slice (some ⟨sb, 0, none⟩) 0 n, .slice (some ⟨cb, 0, none⟩) nr ccap] 26 := hwS ▸ (HOut.out.set 0 _).set 1 _
              have hne : sb ≠ ob := fun e => by subst e; have h1 := HOut.out; have h2 := HRow.out; unfold Bl at h1 h2; rw [h1] at h2; simp at h2
              have rS : Bl wS sb (MC n) 32 := HRow.out.fx xS hne
              have vS : VB wS cb rl := HVB.out.fx xS (HVB.out.ne HOut.out (by decide))
              have hol := HOut.out.lt
              refine hK.out _ _ ?hS16 (fun hHeld2 => ?rest16)
              case hS16 => exact ⟨xS.cell (oC.cell c0 (.inr (Nat.zero_le _))) (by have := HP0.out.1.lt; have := Hob.out; omega), xS.heap (oC.heap hm0 (.inr (Nat.zero_le _))) (by have := HP0.out.2.lt; have := Hob.out; omega), mlen_n (xS.heap (oC.heap hm0 (.inr (Nat.zero_le _))) (by have := HP0.out.2.lt; have := Hob.out; omega)) hes⟩
              (try clear hK KK)
              (try clear hHeld)
              have hHeld := hHeld2
              clear hHeld2
              (try simp only [Act.put, xa, xb, xc, xd, xe, xf])
              refine wpAnyH_done (by kernel_rfl) ?_ _
              exact HK sb cb ccap ob _ ⟨((Fx.of_out (S := fun _ => False) oC).then xS (fun j h1 h2 => by have := Hob.out; omega)).out (fun _ _ q => q), bS, rS, vS, Hsb.out, HCB.out, Hob.out⟩
            · exact AllReadyH.nil
          · exact AllReadyH.nil
        · exact AllReadyH.nil
    · refine AllReadyH.cons rfl (fun KK hK => ?_) ?_
      · simp only [xa, xb, xc]
        go_simp
        refine (clone_own HR.out.1 HR.out.2.1 (by have := HR.out.2.2.1; omega) (HR.out.2.2.2.quiet oC0)).mono ?_
        rintro e wC ⟨cb, ccap, rfl, oX, hcb, hvb⟩
        have HCB : Hid (W0.heap.size ≤ cb) := hid_mk (Nat.le_trans (oC0.size) hcb)
        have oC := oC0.trans oX
        have HVB := hid_mk hvb
        refine hK.out _ _ ?hS17 (fun hHeld2 => ?rest17)
        case hS17 => exact ⟨oC.cell c0 (.inr (Nat.zero_le _)), oC.heap hm0 (.inr (Nat.zero_le _)), mlen_n (oC.heap hm0 (.inr (Nat.zero_le _))) hes⟩
        (try clear hK KK)
        (try clear hHeld)
        have hHeld := hHeld2
        clear hHeld2
        (try simp only [Act.put, xa, xb, xc, xd, xe, xf])
        refine wpAnyH_ready (rs := [5, 9]) (by kernel_rfl) (by simp) ?_
        refine AllReadyH.cons rfl (fun KK hK => ?_) ?_
        · simp only [xa, xb, xc]
          go_simp
          obtain ⟨wM, hwM⟩ : ∃ wM, wC.alloc (.cells (MC n) 32) = wM := ⟨_, rfl⟩
          obtain ⟨sb, hsb⟩ : ∃ sb, wC.heap.size = sb := ⟨_, rfl⟩
          rw [hwM, hsb]
          have hsz := oC.size
          have oY : Out 0 0 wC wM := hwM ▸ (Out.refl 0 0 wC).alloc _
          replace oC := oC.trans oY
          replace HVB := hid_mk (HVB.out.quiet oY)
          have HRow : Hid (Bl wM sb (MC n) 32) := hid_mk (by rw [← hwM, ← hsb]; exact Bl.new _ _ _)
          have Hsb : Hid (W0.heap.size ≤ sb) := hid_mk (by omega)
          (try clear hwM hsb hsz)
          refine hK.out _ _ ?hS18 (fun hHeld2 => ?rest18)
          case hS18 => exact ⟨oC.cell c0 (.inr (Nat.zero_le _)), oC.heap hm0 (.inr (Nat.zero_le _)), mlen_n (oC.heap hm0 (.inr (Nat.zero_le _))) hes⟩
          (try clear hK KK)
          (try clear hHeld)
          have hHeld := hHeld2
          clear hHeld2
          (try simp only [Act.put, xa, xb, xc, xd, xe, xf])
          refine tk 8 ?_
          refine wpAnyH_ready (rs := [9]) (by kernel_rfl) (by simp) ?_
          refine AllReadyH.cons rfl (fun KK hK => ?_) ?_
          · simp only [xa, xb, xc]
            go_simp
            obtain ⟨wA, hwA⟩ : ∃ wA, wM.alloc (.cells #[.slice none 0 0, .slice none 0 0] 26) = wA := ⟨_, rfl⟩
            obtain ⟨ob, hob⟩ : ∃ ob, wM.heap.size = ob := ⟨_, rfl⟩
            rw [hwA, hob]
            have hsz := oC.size
            have oY : Out 0 0 wM wA := hwA ▸ (Out.refl 0 0 wM).alloc _
            replace oC := oC.trans oY
            replace HRow := hid_mk (HRow.out.kept oY (.inr (Nat.zero_le _)))
            replace HVB := hid_mk (HVB.out.quiet oY)
            have HOut : Hid (Bl wA ob #[.slice none 0 0, .slice none 0 0] 26) := hid_mk (by rw [← hwA, ← hob]; exact Bl.new _ _ _)
            have Hob : Hid (W0.heap.size ≤ ob) := hid_mk (by omega)
            (try clear hwA hob hsz)
            refine hK.out _ _ ?hS20 (fun hHeld2 => ?rest20)
            case hS20 => exact ⟨oC.cell c0 (.inr (Nat.zero_le _)), oC.heap hm0 (.inr (Nat.zero_le _)), mlen_n (oC.heap hm0 (.inr (Nat.zero_le _))) hes⟩
            (try clear hK KK)
            (try clear hHeld)
            have hHeld := hHeld2
            clear hHeld2
            (try simp only [Act.put, xa, xb, xc, xd, xe, xf])
            refine wpAnyH_ready (rs := [10]) (by kernel_rfl) (by simp) ?_
            refine AllReadyH.cons rfl (fun KK hK => ?_) ?_
            · simp only [xa, xb, xc]
              have f0 := HOut.out.cell (i := 0) rfl
              have g0 := HOut.out.frozen 0
              have f1 := HOut.out.cell (i := 1) rfl
              have g1 := HOut.out.frozen 1
              go_simp
              obtain ⟨wS, hwS⟩ : ∃ wS, (wA.setCell ⟨ob, 0, none⟩ (.slice (some ⟨sb, 0, none⟩) 0 n)).setCell ⟨ob, 1, none⟩ (.slice (some ⟨cb, 0, none⟩) nr ccap) = wS := ⟨_, rfl⟩
              rw [hwS]
              have xS : Fx (fun j => j = ob) wA wS := hwS ▸ ((Fx.refl (fun j => j = ob) wA).set (p := ⟨ob, 0, none⟩) (.inl rfl) _).set (p := ⟨ob, 1, none⟩) (.inl rfl) _
              have bS : Bl wS ob #[.slice (some ⟨sb, 0, none⟩) 0 n, .slice (some ⟨cb, 0, none⟩) nr ccap] 26 := hwS ▸ (HOut.out.set 0 _).set 1 _
              have hne : sb ≠ ob := fun e => by subst e; have h1 := HOut.out; have h2 := HRow.out; unfold Bl at h1 h2; rw [h1] at h2; simp at h2
              have rS : Bl wS sb (MC n) 32 := HRow.out.fx xS hne
              have vS : VB wS cb rl := HVB.out.fx xS (HVB.out.ne HOut.out (by decide))
              have hol := HOut.out.lt
              refine hK.out _ _ ?hS21 (fun hHeld2 => ?rest21)
              case hS21 => exact ⟨xS.cell (oC.cell c0 (.inr (Nat.zero_le _))) (by have := HP0.out.1.lt; have := Hob.out; omega), xS.heap (oC.heap hm0 (.inr (Nat.zero_le _))) (by have := HP0.out.2.lt; have := Hob.out; omega), mlen_n (xS.heap (oC.heap hm0 (.inr (Nat.zero_le _))) (by have := HP0.out.2.lt; have := Hob.out; omega)) hes⟩
              (try clear hK KK)
              (try clear hHeld)
              have hHeld := hHeld2
              clear hHeld2
              (try simp only [Act.put, xa, xb, xc, xd, xe, xf])
              refine wpAnyH_done (by kernel_rfl) ?_ _
              exact HK sb cb ccap ob _ ⟨((Fx.of_out (S := fun _ => False) oC).then xS (fun j h1 h2 => by have := Hob.out; omega)).out (fun _ _ q => q), bS, rS, vS, Hsb.out, HCB.out, Hob.out⟩
            · exact AllReadyH.nil
          · exact AllReadyH.nil
        · refine AllReadyH.cons rfl (fun KK hK => ?_) ?_
          · simp only [xa, xb, xc]
            go_simp
            obtain ⟨wA, hwA⟩ : ∃ wA, wC.alloc (.cells #[.slice none 0 0, .slice none 0 0] 26) = wA := ⟨_, rfl⟩
            obtain ⟨ob, hob⟩ : ∃ ob, wC.heap.size = ob := ⟨_, rfl⟩
            rw [hwA, hob]
            have hsz := oC.size
            have oY : Out 0 0 wC wA := hwA ▸ (Out.refl 0 0 wC).alloc _
            replace oC := oC.trans oY
            replace HVB := hid_mk (HVB.out.quiet oY)
            have HOut : Hid (Bl wA ob #[.slice none 0 0, .slice none 0 0] 26) := hid_mk (by rw [← hwA, ← hob]; exact Bl.new _ _ _)
            have Hob : Hid (W0.heap.size ≤ ob) := hid_mk (by omega)
            (try clear hwA hob hsz)
            refine hK.out _ _ ?hS22 (fun hHeld2 => ?rest22)
            case hS22 => exact ⟨oC.cell c0 (.inr (Nat.zero_le _)), oC.heap hm0 (.inr (Nat.zero_le _)), mlen_n (oC.heap hm0 (.inr (Nat.zero_le _))) hes⟩
            (try clear hK KK)
            (try clear hHeld)
            have hHeld := hHeld2
            clear hHeld2
            (try simp only [Act.put, xa, xb, xc, xd, xe, xf])
            refine wpAnyH_ready (rs := [5]) (by kernel_rfl) (by simp) ?_
            refine AllReadyH.cons rfl (fun KK hK => ?_) ?_
            · simp only [xa, xb, xc]
              go_simp
              obtain ⟨wM, hwM⟩ : ∃ wM, wA.alloc (.cells (MC n) 32) = wM := ⟨_, rfl⟩
              obtain ⟨sb, hsb⟩ : ∃ sb, wA.heap.size = sb := ⟨_, rfl⟩
              rw [hwM, hsb]
              have hsz := oC.size
              have oY : Out 0 0 wA wM := hwM ▸ (Out.refl 0 0 wA).alloc _
              replace oC := oC.trans oY
              replace HOut := hid_mk (HOut.out.kept oY (.inr (Nat.zero_le _)))
              replace HVB := hid_mk (HVB.out.quiet oY)
              have HRow : Hid (Bl wM sb (MC n) 32) := hid_mk (by rw [← hwM, ← hsb]; exact Bl.new _ _ _)
              have Hsb : Hid (W0.heap.size ≤ sb) := hid_mk (by omega)
              (try clear hwM hsb hsz)
              refine hK.out _ _ ?hS23 (fun hHeld2 => ?rest23)
              case hS23 => exact ⟨oC.cell c0 (.inr (Nat.zero_le _)), oC.heap hm0 (.inr (Nat.zero_le _)), mlen_n (oC.heap hm0 (.inr (Nat.zero_le _))) hes⟩
              (try clear hK KK)
              (try clear hHeld)
              have hHeld := hHeld2
              clear hHeld2
              (try simp only [Act.put, xa, xb, xc, xd, xe, xf])
              refine tk 8 ?_
              refine wpAnyH_ready (rs := [10]) (by kernel_rfl) (by simp) ?_
              refine AllReadyH.cons rfl (fun KK hK => ?_) ?_
              · simp only [xa, xb, xc]
                have f0 := HOut.out.cell (i := 0) rfl
                have g0 := HOut.out.frozen 0
                have f1 := HOut.out.cell (i := 1) rfl
                have g1 := HOut.out.frozen 1
                go_simp
                obtain ⟨wS, hwS⟩ : ∃ wS, (wM.setCell ⟨ob, 0, none⟩ (.slice (some ⟨sb, 0, none⟩) 0 n)).setCell ⟨ob, 1, none⟩ (.slice (some ⟨cb, 0, none⟩) nr ccap) = wS := ⟨_, rfl⟩
                rw [hwS]
                have xS : Fx (fun j => j = ob) wM wS := hwS ▸ ((Fx.refl (fun j => j = ob) wM).set (p := ⟨ob, 0, none⟩) (.inl rfl) _).set (p := ⟨ob, 1, none⟩) (.inl rfl) _
                have bS : Bl wS ob #[.slice (some ⟨sb, 0, none⟩) 0 n, .slice (some ⟨cb, 0, none⟩) nr ccap] 26 := hwS ▸ (HOut.out.set 0 _).set 1 _
                have hne : sb ≠ ob := fun e => by subst e; have h1 := HOut.out; have h2 := HRow.out; unfold Bl at h1 h2; rw [h1] at h2; simp at h2
                have rS : Bl wS sb (MC n) 32 := HRow.out.fx xS hne
                have vS : VB wS cb rl := HVB.out.fx xS (HVB.out.ne HOut.out (by decide))
                have hol := HOut.out.lt
                refine hK.out _ _ ?hS25 (fun hHeld2 => ?rest25)
                case hS25 => exact ⟨xS.cell (oC.cell c0 (.inr (Nat.zero_le _))) (by have := HP0.out.1.lt; have := Hob.out; omega), xS.heap (oC.heap hm0 (.inr (Nat.zero_le _))) (by have := HP0.out.2.lt; have := Hob.out; omega), mlen_n (xS.heap (oC.heap hm0 (.inr (Nat.zero_le _))) (by have := HP0.out.2.lt; have := Hob.out; omega)) hes⟩
                (try clear hK KK)
                (try clear hHeld)
                have hHeld := hHeld2
                clear hHeld2
                (try simp only [Act.put, xa, xb, xc, xd, xe, xf])
                refine wpAnyH_done (by kernel_rfl) ?_ _
                exact HK sb cb ccap ob _ ⟨((Fx.of_out (S := fun _ => False) oC).then xS (fun j h1 h2 => by have := Hob.out; omega)).out (fun _ _ q => q), bS, rS, vS, Hsb.out, HCB.out, Hob.out⟩
              · exact AllReadyH.nil
            · exact AllReadyH.nil
          · exact AllReadyH.nil
      · refine AllReadyH.cons rfl (fun KK hK => ?_) ?_
        · simp only [xa, xb, xc]
          go_simp
          obtain ⟨wA, hwA⟩ : ∃ wA, (W0.alloc (.cells #[.slice none 0 0, .slice none 0 0] 26)).drew = wA := ⟨_, rfl⟩
          obtain ⟨ob, hob⟩ : ∃ ob, W0.heap.size = ob := ⟨_, rfl⟩
          rw [hwA, hob]
          have oC : Out 0 0 W0 wA := hwA ▸ ((Out.refl 0 0 W0).alloc _).drew
          have hsz : W0.heap.size ≤ ob := by omega
          have HOut : Hid (Bl wA ob #[.slice none 0 0, .slice none 0 0] 26) := hid_mk (by rw [← hwA, ← hob]; exact (Bl.new _ _ _).kept ((Out.refl 0 0 _).drew) (.inr (Nat.zero_le _)))
          have Hob : Hid (W0.heap.size ≤ ob) := hid_mk (by omega)
          (try clear hwA hob hsz)
          refine hK.out _ _ ?hS26 (fun hHeld2 => ?rest26)
          case hS26 => exact ⟨oC.cell c0 (.inr (Nat.zero_le _)), oC.heap hm0 (.inr (Nat.zero_le _)), mlen_n (oC.heap hm0 (.inr (Nat.zero_le _))) hes⟩
          (try clear hK KK)
          (try clear hHeld)
          have hHeld := hHeld2
          clear hHeld2
          (try simp only [Act.put, xa, xb, xc, xd, xe, xf])
          refine wpAnyH_ready (rs := [5, 7]) (by kernel_rfl) (by simp) ?_
          refine AllReadyH.cons rfl (fun KK hK => ?_) ?_
          · simp only [xa, xb, xc]
            go_simp
            obtain ⟨wM, hwM⟩ : ∃ wM, wA.alloc (.cells (MC n) 32) = wM := ⟨_, rfl⟩
            obtain ⟨sb, hsb⟩ : ∃ sb, wA.heap.size = sb := ⟨_, rfl⟩
            rw [hwM, hsb]
            have hsz := oC.size
            have oY : Out 0 0 wA wM := hwM ▸ (Out.refl 0 0 wA).alloc _
            replace oC := oC.trans oY
            replace HOut := hid_mk (HOut.out.kept oY (.inr (Nat.zero_le _)))
            have HRow : Hid (Bl wM sb (MC n) 32) := hid_mk (by rw [← hwM, ← hsb]; exact Bl.new _ _ _)
            have Hsb : Hid (W0.heap.size ≤ sb) := hid_mk (by omega)
            (try clear hwM hsb hsz)
            refine hK.out _ _ ?hS27 (fun hHeld2 => ?rest27)
            case hS27 => exact ⟨oC.cell c0 (.inr (Nat.zero_le _)), oC.heap hm0 (.inr (Nat.zero_le _)), mlen_n (oC.heap hm0 (.inr (Nat.zero_le _))) hes⟩
            (try clear hK KK)
            (try clear hHeld)
            have hHeld := hHeld2
            clear hHeld2
            (try simp only [Act.put, xa, xb, xc, xd, xe, xf])
            refine wpAnyH_ready (rs := [7]) (by kernel_rfl) (by simp) ?_
            refine AllReadyH.cons rfl (fun KK hK => ?_) ?_
            · simp only [xa, xb, xc]
              go_simp
              refine (clone_own HR.out.1 HR.out.2.1 (by have := HR.out.2.2.1; omega) (HR.out.2.2.2.quiet oC)).mono ?_
              rintro e wC ⟨cb, ccap, rfl, oX, hcb, hvb⟩
              have HCB : Hid (W0.heap.size ≤ cb) := hid_mk (Nat.le_trans (oC.size) hcb)
              replace oC := oC.trans oX
              replace HOut := hid_mk (HOut.out.kept oX (.inr (Nat.zero_le _)))
              replace HRow := hid_mk (HRow.out.kept oX (.inr (Nat.zero_le _)))
              have HVB := hid_mk hvb
              refine hK.out _ _ ?hS28 (fun hHeld2 => ?rest28)
              case hS28 => exact ⟨oC.cell c0 (.inr (Nat.zero_le _)), oC.heap hm0 (.inr (Nat.zero_le _)), mlen_n (oC.heap hm0 (.inr (Nat.zero_le _))) hes⟩
              (try clear hK KK)
              (try clear hHeld)
              have hHeld := hHeld2
              clear hHeld2
              (try simp only [Act.put, xa, xb, xc, xd, xe, xf])
              refine tk 8 ?_
              refine wpAnyH_ready (rs := [10]) (by kernel_rfl) (by simp) ?_
              refine AllReadyH.cons rfl (fun KK hK => ?_) ?_
              · simp only [xa, xb, xc]
                have f0 := HOut.out.cell (i := 0) rfl
                have g0 := HOut.out.frozen 0
                have f1 := HOut.out.cell (i := 1) rfl
                have g1 := HOut.out.frozen 1
                go_simp
                obtain ⟨wS, hwS⟩ : ∃ wS, (wC.setCell ⟨ob, 0, none⟩ (.slice (some ⟨sb, 0, none⟩) 0 n)).setCell ⟨ob, 1, none⟩ (.slice (some ⟨cb, 0, none⟩) nr ccap) = wS := ⟨_, rfl⟩
                rw [hwS]
                have xS : Fx (fun j => j = ob) wC wS := hwS ▸ ((Fx.refl (fun j => j = ob) wC).set (p := ⟨ob, 0, none⟩) (.inl rfl) _).set (p := ⟨ob, 1, none⟩) (.inl rfl) _
                have bS : Bl wS ob #[.slice (some ⟨sb, 0, none⟩) 0 n, .slice (some ⟨cb, 0, none⟩) nr ccap] 26 := hwS ▸ (HOut.out.set 0 _).set 1 _
                have hne : sb ≠ ob := fun e => by subst e; have h1 := HOut.out; have h2 := HRow.out; unfold Bl at h1 h2; rw [h1] at h2; simp at h2
                have rS : Bl wS sb (MC n) 32 := HRow.out.fx xS hne
                have vS : VB wS cb rl := HVB.out.fx xS (HVB.out.ne HOut.out (by decide))
                have hol := HOut.out.lt
                refine hK.out _ _ ?hS30 (fun hHeld2 => ?rest30)
                case hS30 => exact ⟨xS.cell (oC.cell c0 (.inr (Nat.zero_le _))) (by have := HP0.out.1.lt; have := Hob.out; omega), xS.heap (oC.heap hm0 (.inr (Nat.zero_le _))) (by have := HP0.out.2.lt; have := Hob.out; omega), mlen_n (xS.heap (oC.heap hm0 (.inr (Nat.zero_le _))) (by have := HP0.out.2.lt; have := Hob.out; omega)) hes⟩
                (try clear hK KK)
                (try clear hHeld)
                have hHeld := hHeld2
                clear hHeld2
                (try simp only [Act.put, xa, xb, xc, xd, xe, xf])
                refine wpAnyH_done (by kernel_rfl) ?_ _
                exact HK sb cb ccap ob _ ⟨((Fx.of_out (S := fun _ => False) oC).then xS (fun j h1 h2 => by have := Hob.out; omega)).out (fun _ _ q => q), bS, rS, vS, Hsb.out, HCB.out, Hob.out⟩
              · exact AllReadyH.nil
            · exact AllReadyH.nil
          · refine AllReadyH.cons rfl (fun KK hK => ?_) ?_
            · simp only [xa, xb, xc]
              go_simp
              refine (clone_own HR.out.1 HR.out.2.1 (by have := HR.out.2.2.1; omega) (HR.out.2.2.2.quiet oC)).mono ?_
              rintro e wC ⟨cb, ccap, rfl, oX, hcb, hvb⟩
              have HCB : Hid (W0.heap.size ≤ cb) := hid_mk (Nat.le_trans (oC.size) hcb)
              replace oC := oC.trans oX
              replace HOut := hid_mk (HOut.out.kept oX (.inr (Nat.zero_le _)))
              have HVB := hid_mk hvb
              refine hK.out _ _ ?hS31 (fun hHeld2 => ?rest31)
              case hS31 => exact ⟨oC.cell c0 (.inr (Nat.zero_le _)), oC.heap hm0 (.inr (Nat.zero_le _)), mlen_n (oC.heap hm0 (.inr (Nat.zero_le _))) hes⟩
              (try clear hK KK)
              (try clear hHeld)
              have hHeld := hHeld2
              clear hHeld2
              (try simp only [Act.put, xa, xb, xc, xd, xe, xf])
              refine wpAnyH_ready (rs := [5]) (by kernel_rfl) (by simp) ?_
              refine AllReadyH.cons rfl (fun KK hK => ?_) ?_
              · simp only [xa, xb, xc]
                go_simp
                obtain ⟨wM, hwM⟩ : ∃ wM, wC.alloc (.cells (MC n) 32) = wM := ⟨_, rfl⟩
                obtain ⟨sb, hsb⟩ : ∃ sb, wC.heap.size = sb := ⟨_, rfl⟩
                rw [hwM, hsb]
                have hsz := oC.size
                have oY : Out 0 0 wC wM := hwM ▸ (Out.refl 0 0 wC).alloc _
                replace oC := oC.trans oY
                replace HOut := hid_mk (HOut.out.kept oY (.inr (Nat.zero_le _)))
                replace HVB := hid_mk (HVB.out.quiet oY)
                have HRow : Hid (Bl wM sb (MC n) 32) := hid_mk (by rw [← hwM, ← hsb]; exact Bl.new _ _ _)
                have Hsb : Hid (W0.heap.size ≤ sb) := hid_mk (by omega)
                (try clear hwM hsb hsz)
                refine hK.out _ _ ?hS32 (fun hHeld2 => ?rest32)
                case hS32 => exact ⟨oC.cell c0 (.inr (Nat.zero_le _)), oC.heap hm0 (.inr (Nat.zero_le _)), mlen_n (oC.heap hm0 (.inr (Nat.zero_le _))) hes⟩
                (try clear hK KK)
                (try clear hHeld)
                have hHeld := hHeld2
                clear hHeld2
                (try simp only [Act.put, xa, xb, xc, xd, xe, xf])
                refine tk 8 ?_
                refine wpAnyH_ready (rs := [10]) (by kernel_rfl) (by simp) ?_
                refine AllReadyH.cons rfl (fun KK hK => ?_) ?_
                · simp only [xa, xb, xc]
                  have f0 := HOut.out.cell (i := 0) rfl
                  have g0 := HOut.out.frozen 0
                  have f1 := HOut.out.cell (i := 1) rfl
                  have g1 := HOut.out.frozen 1
                  go_simp
                  obtain ⟨wS, hwS⟩ : ∃ wS, (wM.setCell ⟨ob, 0, none⟩ (.slice (some ⟨sb, 0, none⟩) 0 n)).setCell ⟨ob, 1, none⟩ (.slice (some ⟨cb, 0, none⟩) nr ccap) = wS := ⟨_, rfl⟩
                  rw [hwS]
                  have xS : Fx (fun j => j = ob) wM wS := hwS ▸ ((Fx.refl (fun j => j = ob) wM).set (p := ⟨ob, 0, none⟩) (.inl rfl) _).set (p := ⟨ob, 1, none⟩) (.inl rfl) _
                  have bS : Bl wS ob #[.slice (some ⟨sb, 0, none⟩) 0 n, .slice (some ⟨cb, 0, none⟩) nr ccap] 26 := hwS ▸ (HOut.out.set 0 _).set 1 _
                  have hne : sb ≠ ob := fun e => by subst e; have h1 := HOut.out; have h2 := HRow.out; unfold Bl at h1 h2; rw [h1] at h2; simp at h2
                  have rS : Bl wS sb (MC n) 32 := HRow.out.fx xS hne
                  have vS : VB wS cb rl := HVB.out.fx xS (HVB.out.ne HOut.out (by decide))
                  have hol := HOut.out.lt
                  refine hK.out _ _ ?hS34 (fun hHeld2 => ?rest34)
                  case hS34 => exact ⟨xS.cell (oC.cell c0 (.inr (Nat.zero_le _))) (by have := HP0.out.1.lt; have := Hob.out; omega), xS.heap (oC.heap hm0 (.inr (Nat.zero_le _))) (by have := HP0.out.2.lt; have := Hob.out; omega), mlen_n (xS.heap (oC.heap hm0 (.inr (Nat.zero_le _))) (by have := HP0.out.2.lt; have := Hob.out; omega)) hes⟩
                  (try clear hK KK)
                  (try clear hHeld)
                  have hHeld := hHeld2
                  clear hHeld2
                  (try simp only [Act.put, xa, xb, xc, xd, xe, xf])
                  refine wpAnyH_done (by kernel_rfl) ?_ _
                  exact HK sb cb ccap ob _ ⟨((Fx.of_out (S := fun _ => False) oC).then xS (fun j h1 h2 => by have := Hob.out; omega)).out (fun _ _ q => q), bS, rS, vS, Hsb.out, HCB.out, Hob.out⟩
                · exact AllReadyH.nil
              · exact AllReadyH.nil
            · exact AllReadyH.nil
        · exact AllReadyH.nil
  · intro sb cb ccap ob V hF
    apply hKc
    have HF := hid_mk hF
    clear hF hKc Kc oC0 hms hm0 hes c0
    have e0 := (HP0.out.1.kept HF.out.1 (.inr (Nat.zero_le _))).cell (i := 0) rfl
    have oK : Out 0 0 V (V.alloc (.cells #[.map (some m)] 57)) := (Out.refl 0 0 V).alloc _
    have HK := hid_mk (sorted_gen (n := n) (genN (Bl.new V #[.map (some m)] 57) ((HP0.out.2.kept HF.out.1 (.inr (Nat.zero_le _))).kept oK (.inr (Nat.zero_le _)))) (fun y hy => (HD.out.1 y).1 hy) (by have := HD.out.2.1; omega) ⟨1, (HD.out.1 1).2 (by have := HD.out.2.2; omega)⟩)
    have HOK := hid_mk oK
    clear oK
    go_wp2_with fail
    refine (keysN_any _ _).mono ?_
    rintro e w1 ⟨rfl, rfl⟩
    go_wp2_with fail
    refine HK.out.mono ?_
    rintro e w2 ⟨ks, ka, kc, rfl, k1, k2, k3, o2, ow⟩
    have hkn : ks.length = n := all_len (f := fA b n) ⟨k1, fun a ha => (k2 a).1 ha⟩ (fun a ha => (k2 a).2 ha) HD.out.1
    rw [hkn] at ow
    obtain ⟨kg, cur, rfl, -, -, hkb, -, -, -, htk⟩ := own_cellsX ow (by have := HD.out.2.2; omega)
    have HT : Hid (TLp W0 w2 ob cb nr ccap n kg K nf l rl 0) := by
      obtain ⟨f1, f2, f3, f4, f5, f6, f7⟩ := HF.out
      have oT := HOK.out.trans o2
      refine hid_mk ⟨f1.trans oT, some ⟨sb, 0, none⟩, n, fun _ => 0, fun _ => 0, f2.kept oT (.inr (Nat.zero_le _)), ⟨?_, fun i hi => absurd hi (by omega)⟩, f4.quiet oT, cur, hkb, fun i hi => ?_⟩
      · have hb3 := f3.kept oT (.inr (Nat.zero_le _))
        exact ⟨by simp [nCs], .inr ⟨sb, n, MC n, rfl, f5, hb3, Nat.zero_le _, by have := HD.out.2.1; unfold maxLen; omega, size_madeCells _ _, by simp [nCs]⟩⟩
      · have h1 := sorted_at k3 k1 (fun y => (k2 y).trans (HD.out.1 y)) hkn hi
        have h2 : (iws ks)[i]? = some (.int .i64 ((i + 1 : Nat) : Int)) := by rw [List.getElem?_map, h1]; rfl
        rw [← htk, List.getElem?_take_of_lt (by omega)] at h2
        simpa using h2
    have HB := hid_mk (And.intro HF.out.2.2.2.2.1 (And.intro HF.out.2.2.2.2.2.1 HF.out.2.2.2.2.2.2))
    rw [hkn]
    clear o2 ow hkb htk k1 k2 k3 hkn HF HK HOK e0
    go_wp2_with fail
    go_loopw [24] (fun c wr => ∃ k : Nat, c = .int .i64 k ∧ k ≤ n ∧ TLp W0 wr ob cb nr ccap n kg K nf l rl k) (fun c _ => n - (intOf c).toNat)
    case atStart => exact ⟨0, rfl, Nat.zero_le _, HT.out⟩
    case round =>
      obtain ⟨k, rfl, hkn, hTL⟩ := hrel
      by_cases hgo : k < n
      · obtain ⟨l1, l2⟩ := lt_d hgo
        obtain ⟨t1, a, ac, tb, tc, t2, ⟨t3, t4⟩, t5, cur, t6, t7⟩ := hTL
        have d0 := t6.cell (t7 k hgo)
        have hkl : (k : Int) < (n : Int) := by omega
        obtain ⟨n1, n2, n3, n4, n5⟩ := HN.out k hgo
        obtain ⟨gf, go, hfa⟩ : ∃ gf go, fa k = some ⟨gf, go, none⟩ := by
          rcases n2 with q | ⟨g, o, q, _⟩
          · rw [q] at n3; simp at n3; omega
          · exact ⟨g, o, q⟩
        rw [hfa] at n1 n2
        have c0 := t2.cell (i := 0) rfl
        have c1 := (HP0.out.1.kept t1 (.inr (Nat.zero_le _))).cell (i := 0) rfl
        have hfk : fA b n ((k + 1 : Nat) : Int) = some (.pointer (some ⟨b k, 0, none⟩)) := by
          unfold fA
          rw [if_pos ⟨by omega, by omega⟩, show (((k + 1 : Nat) : Int) - 1).toNat = k by omega]
        have lkA : ∀ w', MpAt w' m (fA b n) → (Instr.lookup 57 (.map (some m)) (.int .i64 ((k + 1 : Nat) : Int)) false).run Tryz.prog w' = .ok (.pointer (some ⟨b k, 0, none⟩)) w' := by
          intro w' hm
          have lk := mp_look false Tryz.underlying57 Tryz.underlying3 (zero_np _) hm ((k + 1 : Nat) : Int)
          rw [if_neg (by simp), hfk] at lk
          exact lk
        obtain ⟨ix, hid⟩ : ∃ ix : Int, ((k + 1 : Nat) : Int) = ix := ⟨_, rfl⟩
        rw [hid] at d0 lkA
        have HLK := hid_mk lkA
        have HN1 := hid_mk (ntell_own (id := ix) (n1.kept (t1.drew) (.inr (Nat.zero_le _))) n3 n4 (by omega) (n2.quiet (t1.drew)))
        have HTL := hid_mk (And.intro t1 (And.intro t2 (And.intro t3 (And.intro t4 (And.intro t5 (And.intro t6 t7))))))
        have HK1 := hid_mk (And.intro hgo (And.intro hid (And.intro HP0.out.1.lt HP0.out.2.lt)))
        clear t1 t2 t3 t4 t5 t6 t7 n1 n2 n3 n4 n5 hfa hfk lkA hid hkn hgo
        go_upto_region 5 with fail
        refine wp_region_T (S := fun w' => w'.cell? ⟨ob, 0, none⟩ = some (.slice a k ac) ∧ w'.cell? ⟨h, 0, none⟩ = some (.map (some m)) ∧ (Instr.lookup 57 (.map (some m)) (.int .i64 ix) false).run Tryz.prog w' = .ok (.pointer (some ⟨b k, 0, none⟩)) w') (z := 13) (by kernel_rfl) ?hS35 (fun hHeld => ?rest35)
        case hS35 => exact ⟨c0, c1, HLK.out _ (HP0.out.2.kept (HTL.out.1.drew) (.inr (Nat.zero_le _)))⟩
        refine tkT 0 ?_
        refine tkT 1 ?_
        refine tkT 2 ?_
        refine tkT 3 ?_
        refine tkT 4 ?_
        refine tkT 5 ?_
        refine tkT 6 ?_
        refine tkT 7 ?_
        refine tkT 8 ?_
        refine wpAnyT_one (i := 9) (by kernel_rfl) rfl (fun KK hK => ?_)
        simp only [xa, xb, xc]
        go_simp
        refine HN1.out.mono ?_
        rintro e w9 ⟨tb', tcap, rfl, o9, b9, v9⟩
        replace o9 : Out 0 0 wr w9 := ((Out.refl 0 0 wr).drew).trans o9
        refine hK.out _ _ ?hS45 (fun hHeld2 => ?rest45)
        case hS45 => exact ⟨o9.cell c0 (.inr (Nat.zero_le _)), o9.cell c1 (.inr (Nat.zero_le _)), HLK.out _ (HP0.out.2.kept (HTL.out.1.trans o9) (.inr (Nat.zero_le _)))⟩
        clear hK KK
        (try clear hHeld)
        have hHeld := hHeld2
        clear hHeld2
        (try simp only [Act.put, xa, xb, xc, xd, xe, xf])
        refine wpAnyT_one (i := 10) (by kernel_rfl) rfl (fun KK hK => ?_)
        simp only [xa, xb, xc]
        go_simp
        obtain ⟨X, hX⟩ : ∃ X, w9.alloc (.cells #[.int .i64 ix, .int .i64 (K k : Int), .slice none 0 0, .slice (some ⟨tb', 0, none⟩) (nf k) tcap, .slice none 0 0] 32) = X := ⟨_, rfl⟩
        obtain ⟨eb, heb⟩ : ∃ eb, w9.heap.size = eb := ⟨_, rfl⟩
        rw [hX, heb]
        have bX : Bl X eb #[.int .i64 ix, .int .i64 (K k : Int), .slice none 0 0, .slice (some ⟨tb', 0, none⟩) (nf k) tcap, .slice none 0 0] 32 := (by rw [← hX, ← heb]; exact Bl.new _ _ _)
        have oX : Out 0 0 w9 X := hX ▸ (Out.refl 0 0 w9).alloc _
        have vX := v9.quiet oX
        replace o9 : Out 0 0 wr X := o9.trans oX
        clear hX heb oX v9
        refine hK.out _ _ ?hS46 (fun hHeld2 => ?rest46)
        case hS46 => exact ⟨o9.cell c0 (.inr (Nat.zero_le _)), o9.cell c1 (.inr (Nat.zero_le _)), HLK.out _ (HP0.out.2.kept (HTL.out.1.trans o9) (.inr (Nat.zero_le _)))⟩
        clear hK KK
        (try clear hHeld)
        have hHeld := hHeld2
        clear hHeld2
        (try simp only [Act.put, xa, xb, xc, xd, xe, xf])
        refine wpAnyT_one (i := 11) (by kernel_rfl) rfl (fun KK hK => ?_)
        simp only [xa, xb, xc]
        obtain ⟨a', cap', Z, q1, q2, q3, q4⟩ := app_at (w := X) (m := 1) (c := 1) (sa := some ⟨eb, 0, none⟩) Tryz.underlying23 info_nd rfl (by decide) (by decide) (ys := [.int .i64 ix, .int .i64 (K k : Int), .slice none 0 0, .slice (some ⟨tb', 0, none⟩) (nf k) tcap, .slice none 0 0]) (own_fx (S := fun _ => False) HTL.out.2.2.1 (Fx.of_out o9) (fun _ _ => id)) (Nat.le_trans HTL.out.1.size o9.size) (.inr ⟨eb, 0, rfl, fun j u hj => (by rw [Nat.zero_add]; exact bX.cell (by rw [← hj]; simp))⟩) rfl (nd_one _ _ _ _ _) (by have := HD.out.2.1; have := HK1.out.1; omega) (by omega) 23
        refine app_sr X _ _ _ _ rfl _ _ rfl rfl q1 ?_
        refine hK.out _ _ ?hS47 (fun hHeld2 => ?rest47)
        case hS47 => exact ⟨q3.cell (o9.cell c0 (.inr (Nat.zero_le _))) (fun e => own_ot HTL.out.2.2.1 HTL.out.2.1 (by decide) e), q3.cell (o9.cell c1 (.inr (Nat.zero_le _))) (fun e => by have := (own_ge HTL.out.2.2.1 e).1; have := HK1.out.2.2.1; omega), HLK.out _ ((HP0.out.2.kept (HTL.out.1.trans o9) (.inr (Nat.zero_le _))).fx q3 (fun e => by have := (own_ge HTL.out.2.2.1 e).1; have := HK1.out.2.2.2; omega))⟩
        clear hK KK
        (try clear hHeld)
        have hHeld := hHeld2
        clear hHeld2
        (try simp only [Act.put, xa, xb, xc, xd, xe, xf])
        refine tkT 12 ?_
        refine wpAnyT_last (by kernel_rfl) rfl (fun KK hK => ?_)
        simp only [xa, xb, xc]
        have bZ := (HTL.out.2.1.kept o9 (.inr (Nat.zero_le _))).fx q3 (fun e => own_ot HTL.out.2.2.1 HTL.out.2.1 (by decide) e)
        have z1 := bZ.frozen 0
        have z2 := bZ.cell (i := 0) rfl
        go_simp
        refine hK.out _ _ ?_
        clear hK KK
        (try simp only [Act.put, xa, xb, xc, xd, xe, xf])
        refine wpAnyT_done (by kernel_rfl) ?_ _
        obtain ⟨Y, hY⟩ : ∃ Y, Z.setCell ⟨ob, 0, none⟩ (.slice a' (k + 1) cap') = Y := ⟨_, rfl⟩
        (try rw [hY])
        have HY : Hid (TLp W0 Y ob cb nr ccap n kg K nf l rl (k + 1)) := by
          obtain ⟨t1, t2, t3, t4, t5, t6, t7⟩ := HTL.out
          obtain ⟨hgo, hid, -⟩ := HK1.out
          have xY : Fx (fun j => j = ob) Z Y := hY ▸ Fx.set (S := fun j => j = ob) (Fx.refl _ Z) (p := ⟨ob, 0, none⟩) (.inl rfl) _
          have own9 := own_fx (S := fun _ => False) t3 (Fx.of_out o9) (fun _ _ => id)
          have vbk : ∀ b' l', VB wr b' l' → VB Y b' l' := fun b' l' hv => ((hv.quiet o9).fx q3 (fun e => by obtain ⟨c, hc, _⟩ := hv; exact own_ot t3 hc (by decide) e)).fx xY (hv.ne t2 (by decide))
          refine hid_mk ⟨(((Fx.of_out (S := fun _ => False) (t1.trans o9)).then q3 (fun j h1 h2 => by have := (own_ge t3 h2).1; omega)).then xY (fun j h1 h2 => by have := HB.out.2.2; omega)).out (fun _ _ q => q), a', cap', (fun i => if i = k then tb' else tb i), (fun i => if i = k then tcap else tc i), hY ▸ bZ.set 0 _, ⟨?_, fun i hi => ?_⟩, vbk _ _ t5, cur, ((t6.kept o9 (.inr (Nat.zero_le _))).fx q3 (fun e => own_ot t3 t6 (by decide) e)).fx xY (fun e => by subst e; have h1 := t6; have h2 := t2; unfold Bl at h1 h2; rw [h1] at h2; simp at h2), t7⟩
          · rw [nCs_up K nf tb tc k tb' tcap, hid]
            exact own_fx q2 xY (fun g hg e => own_ot q2 bZ (by decide) (e ▸ hg))
          · by_cases hik : i = k
            · subst hik
              simp only [if_true]
              exact (vX.fx q3 (fun e => by obtain ⟨c, hc, _⟩ := vX; exact own_ot own9 hc (by decide) e)).fx xY (vX.ne (t2.kept o9 (.inr (Nat.zero_le _))) (by decide))
            · simp only [if_neg hik]
              exact vbk _ _ (t4 i (by omega))
        clear hHeld z1 z2 bZ q1 q2 q3 q4 hY bX o9 c0 c1 b9 vX d0 HN1
        go_wp2
        exact ⟨⟨k + 1, up_v HK1.out.1 (by have := HD.out.2.1; omega), HK1.out.1, HY.out⟩, by rw [up_w HK1.out.1 (by have := HD.out.2.1; omega)]; exact ms_n HK1.out.1⟩
      · obtain rfl : n = k := by omega
        have l1 : decide ((n : Int) < (n : Int)) = false := by simp
        obtain ⟨t1, a, ac, tb, tc, t2, ⟨t3, t4⟩, t5, cur, t6, t7⟩ := hTL
        obtain ⟨o0, bz, hz⟩ := HZ.out
        have zz := bz.kept t1 (.inr (Nat.zero_le _))
        have f0 := t2.cell (i := 0) rfl
        have f1 := t2.cell (i := 1) rfl
        have g0 := zz.cell (i := 0) rfl
        have g1 := zz.cell (i := 1) rfl
        have i0 := zz.frozen 0
        have i1 := zz.frozen 1
        have HFZ := hid_mk (And.intro zz (And.intro (o0.trans t1) (And.intro hz (And.intro t3 (And.intro t4 (And.intro t5 o0.size))))))
        clear o0 bz hz zz t1 t2 t3 t4 t5 t6 t7
        go_wp2_with fail
        obtain ⟨zz, oF, hz, t3, t4, t5, hsz⟩ := HFZ.out
        have xz := ((Fx.refl (fun j => j = z) wr).set (p := ⟨z, 0, none⟩) (.inl rfl) (.slice a n ac)).set (p := ⟨z, 1, none⟩) (.inl rfl) (.slice (some ⟨cb, 0, none⟩) nr ccap)
        have t3' := own_fx t3 xz (fun g hg e => own_ot t3 zz (by decide) (e ▸ hg))
        have hBo := HB.out
        refine bodyPost_ret (results_cell1 Tryz.results11 rfl (load_gr ((zz.set 0 _).set 1 _))) rfl ⟨a, ac, cb, ccap, tb, tc, rfl, (oF.setCell (p := ⟨z, 0, none⟩) (.inr (by show _ ≤ z; omega)) _).setCell (p := ⟨z, 1, none⟩) (.inr (by show _ ≤ z; omega)) _, ⟨own_base t3' hsz, fun i hi => (t4 i hi).fx xz ((t4 i hi).ne zz (by decide))⟩, t5.fx xz (t5.ne zz (by decide)), by omega⟩
end Go.Proofs.YtocncffplcfpbaaGreatDoor
