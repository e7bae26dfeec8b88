/- package code: a function is read, walked -/
import Derived.Test.YtkghabmgofgclaaDoorUx
namespace Go.Proofs.YtkghabmgofgclaaDoor
open Go.RowKit
set_option linter.unusedVariables false
set_option linter.unusedSimpArgs false

/-- what reading a function leaves -/
def FnQ (w : World) (r B : Nat) (ba : Option Addr) (n cap : Nat) (bs : List Int) (a : Nat) (e : Ending) (w' : World) : Prop := Out r (r + 1) w w' ∧ ((∃ f c, funR bs a = .inr (f, c) ∧ RD w' r B ba n cap bs c ∧ ∃ gc, w.heap.size ≤ gc ∧ e = .returned (.agg #[.int .i64 f.1, .int .i64 f.2.1, .int .i64 f.2.2.1, .slice (some ⟨gc, 0, none⟩) f.2.2.2.length f.2.2.2.length]) ∧ CR w' gc f.2.2.2.length f.2.2.2) ∨ ∃ x q, funR bs a = .inl (x, q) ∧ e = .panicked [stopP x (q : Int)])
theorem FnQ.err {w w' : World} {r B n cap a q : Nat} {ba : Option Addr} {bs : List Int} {x : Int} (o : Out r (r + 1) w w') (h : funR bs a = .inl (x, q)) : FnQ w r B ba n cap bs a (.panicked [stopP x (q : Int)]) w' := ⟨o, .inr ⟨x, q, h, rfl⟩⟩
theorem FnQ.ok {w w' : World} {r B n cap a c gc m : Nat} {ba : Option Addr} {bs : List Int} {x y z : Int} {l : List (Int × Int)} (o : Out r (r + 1) w w') (h : funR bs a = .inr ((x, y, z, l), c)) (hr : RD w' r B ba n cap bs c) (hg : w.heap.size ≤ gc) (hm : l.length = m) (hc : CR w' gc m l) : FnQ w r B ba n cap bs a (.returned (.agg #[.int .i64 x, .int .i64 y, .int .i64 z, .slice (some ⟨gc, 0, none⟩) m m])) w' := by
  subst hm
  exact ⟨o, .inl ⟨(x, y, z, l), c, h, hr, gc, hg, rfl, hc⟩⟩
set_option maxRecDepth 100000 in
set_option maxHeartbeats 2000000 in
theorem rfun_any {w : World} {r B n cap : Nat} {ba : Option Addr} {bs : List Int} {a : Nat} (h : RD w r B ba n cap bs a) :
    Calls Tryd.prog 86 #[.pointer (some ⟨r, 0, none⟩)] w fun e w' => FnQ w r B ba n cap bs a e w' := by
  have HS0 := hid_mk (fs_new h)
  clear h
  go_enter Tryd.func86, Tryd.ntmps86
  go_wp2_with fail
  refine (rnum_any HS0.out.2.2.1 0 8).mono ?_
  rintro e V1 ⟨ho, ⟨x1, c1, hn, rfl, hrd⟩ | ⟨x, q, hn, rfl⟩⟩
  · have h1 := hid_mk hn
    have HT1 := hid_mk (HS0.out.step ho hrd)
    clear hn ho hrd
    have s0 := HT1.out.2.1.cell (i := 0) rfl
    have s1 := HT1.out.2.1.frozen 0
    have HS1 := hid_mk (HT1.out.set 0 (.int .i64 (x1 : Int)))
    go_wp2_with fail
    clear s0 s1
    refine (rnum_any HS1.out.2.2.1 0 64).mono ?_
    rintro e V2 ⟨ho, ⟨x2, c2, hn, rfl, hrd⟩ | ⟨x, q, hn, rfl⟩⟩
    · have h2 := hid_mk hn
      have HT2 := hid_mk (HS1.out.step ho hrd)
      clear hn ho hrd
      have s0 := HT2.out.2.1.cell (i := 1) rfl
      have s1 := HT2.out.2.1.frozen 1
      have HS2 := hid_mk (HT2.out.set 1 (.int .i64 (x2 : Int)))
      go_wp2_with fail
      clear s0 s1
      refine (rnum_any HS2.out.2.2.1 0 64).mono ?_
      rintro e V3 ⟨ho, ⟨x3, c3, hn, rfl, hrd⟩ | ⟨x, q, hn, rfl⟩⟩
      · have h3 := hid_mk hn
        have HT3 := hid_mk (HS2.out.step ho hrd)
        clear hn ho hrd
        have s0 := HT3.out.2.1.cell (i := 2) rfl
        have s1 := HT3.out.2.1.frozen 2
        have HS3 := hid_mk (HT3.out.set 2 (.int .i64 (x3 : Int)))
        go_wp2_with fail
        clear s0 s1
        refine (rnum_any HS3.out.2.2.1 0 4096).mono ?_
        rintro e V4 ⟨ho, ⟨m, c4, hn, rfl, hrd⟩ | ⟨x, q, hn, rfl⟩⟩
        · have h4 := hid_mk hn
          have HT4 := hid_mk (HS3.out.step ho hrd)
          clear hn ho hrd
          have s0 := HT4.out.2.1.cell (i := 3) rfl
          have s1 := HT4.out.2.1.frozen 3
          obtain ⟨cur, hcs, hmk⟩ := make_any Tryd.underlying39 info_ins (by decide) m (Nat.le_trans (num_in h4.out).2 (by decide))
          obtain ⟨gc, hgc⟩ : ∃ g, V4.heap.size = g := ⟨_, rfl⟩
          have HQ := hid_mk (CR.new V4 cur m hcs)
          have hV : Hid (w.heap.size + 2 ≤ V4.heap.size) := hid_mk (by have := HT4.out.2.1.lt; omega)
          have HS4 := hid_mk ((HT4.out.quiet ((Out.refl 0 0 V4).alloc (.cells cur 61))).set 3 (.slice (some ⟨V4.heap.size, 0, none⟩) m m))
          have s2 := ((HT4.out.quiet ((Out.refl 0 0 V4).alloc (.cells cur 61))).2.1).cell (i := 3) rfl
          have s3 := ((HT4.out.quiet ((Out.refl 0 0 V4).alloc (.cells cur 61))).2.1).frozen 3
          have hm4 : (m : Int) ≤ 4096 := by have := (num_in h4.out).2; omega
          have s4 := HS4.out.2.1.cell (i := 3) rfl
          have HQ4 : Hid (CR ((V4.alloc (.cells cur 61)).setCell ⟨w.heap.size + 1, 3, none⟩ (.slice (some ⟨V4.heap.size, 0, none⟩) m m)) V4.heap.size m []) := hid_mk (HQ.out.kept (lo := w.heap.size + 1) (hi := w.heap.size + 2) ((Out.refl _ _ _).setCell (p := ⟨w.heap.size + 1, 3, none⟩) (.inl ⟨Nat.le_refl _, Nat.lt_succ_self _⟩) _) (.inr hV.out))
          go_wp2_with fail
          clear s0 s1 s2 s3 s4 hmk hcs HQ
          rw [hgc] at HS4 HQ4 hV
          clear hgc HT4
          go_loopw [21] (fun x wr => ∃ (i : Nat) (vs : List (Int × Int)) (c : Nat), x = .int .i64 i ∧ i ≤ m ∧ vs.length = i ∧ repR i insR bs c4 = .inr (vs, c) ∧ FS w wr r B ba n cap bs c #[.int .i64 (x1 : Int), .int .i64 (x2 : Int), .int .i64 (x3 : Int), .slice (some ⟨gc, 0, none⟩) m m] ∧ CR wr gc m vs) (fun x _ => m - (intOf x).toNat)
          case atStart => exact ⟨0, [], c4, rfl, Nat.zero_le _, rfl, rfl, HS4.out, HQ4.out⟩
          case round =>
            obtain ⟨i, vs, c, rfl, him, hvl, hrep, hfs, hcr⟩ := hrel
            have HP := hid_mk hrep
            have HF := hid_mk hfs
            have HC := hid_mk hcr
            have HL := hid_mk hvl
            have t3 := hfs.2.1.cell (i := 3) rfl
            clear hrep hfs hcr hvl
            by_cases hgo : i < m
            · have g1 : (i : Int) < (m : Int) := by omega
              go_wp2
              refine wp_region_held_drew (S := fun w' => w'.cell? ⟨w.heap.size + 1, 3, none⟩ = some (.slice (some ⟨gc, 0, none⟩) m m)) (by kernel_rfl) t3 (fun hHeld => ?_)
              refine tk 0 ?_
              refine tk 1 ?_
              refine tk 2 ?_
              refine tk 3 ?_
              refine wpAnyH_ready (rs := [4]) (by kernel_rfl) (by simp) ?_
              refine AllReadyH.cons rfl (fun KK hK => ?_) AllReadyH.nil
              simp only [xa, xb, xc]
              go_simp
              have HFZ := hid_mk (HF.out.quiet ((Out.refl 0 0 wr).drew))
              refine (rins_any HFZ.out.2.2.1).mono ?_
              rintro e w3 ⟨ho, ⟨⟨u, v⟩, c5, hn, rfl, hrd⟩ | ⟨x, q, hn, rfl⟩⟩
              · have HN := hid_mk hn
                have HF3 := hid_mk (HFZ.out.step ho hrd)
                have HC3 := hid_mk ((HC.out.kept ((Out.refl 0 0 wr).drew) (.inr (Nat.zero_le _))).kept ho (by have := HF.out.2.2.2.2; have := hV.out; omega))
                clear hn ho hrd
                refine hK.out _ _ (HF3.out.2.1.cell (i := 3) rfl) (fun _ => ?_)
                refine tk 5 ?_
                refine wpAnyH_ready (rs := [6]) (by kernel_rfl) (by simp) ?_
                refine AllReadyH.cons rfl (fun KK hK => ?_) AllReadyH.nil
                simp only [xa, xb, xc]
                obtain ⟨⟨o0, y0⟩, ⟨o1, y1⟩, z0, z1⟩ := HC3.out.cells hgo
                have y2 : (w3.setCell ⟨gc, i * 2, none⟩ (.int .i64 u)).cell? ⟨gc, i * 2 + 1, none⟩ = some o1 := by
                  obtain ⟨cs, q1, q2, q3⟩ := HC3.out
                  refine (q1.set _ _).cell ?_
                  rw [Array.getElem?_setIfInBounds_ne (by omega)]
                  have := y1
                  unfold Bl at q1
                  simpa [World.cell?, q1] using this
                have z2 : (w3.setCell ⟨gc, i * 2, none⟩ (.int .i64 u)).frozen? ⟨gc, i * 2 + 1, none⟩ = false := by
                  obtain ⟨cs, q1, q2, q3⟩ := HC3.out
                  exact (q1.set _ _).frozen _
                go_simp
                have o5 : Out gc (gc + 1) w3 ((w3.setCell ⟨gc, i * 2, none⟩ (.int .i64 u)).setCell ⟨gc, i * 2 + 1, none⟩ (.int .i64 v)) := ((Out.refl gc (gc + 1) w3).setCell (p := ⟨gc, i * 2, none⟩) (.inl ⟨Nat.le_refl _, Nat.lt_succ_self _⟩) _).setCell (p := ⟨gc, i * 2 + 1, none⟩) (.inl ⟨Nat.le_refl _, Nat.lt_succ_self _⟩) _
                have HF5 := hid_mk (HF3.out.far o5 (by have := hV.out; omega))
                have HC5 := hid_mk (HC3.out.set (by rw [HL.out]; exact hgo) u v)
                rw [HL.out] at HC5
                clear y0 y1 y2 z0 z1 z2 o5
                refine hK.out _ _ (HF5.out.2.1.cell (i := 3) rfl) (fun _ => ?_)
                refine wpAnyH_done (by kernel_rfl) ?_ _
                go_wp2
                go_roundw
                case rel => exact ⟨i + 1, vs ++ [(u, v)], c5, by go_num, by omega, by rw [List.length_append, HL.out]; rfl, rep_up HP.out HN.out, HF5.out, HC5.out⟩
                case measure => simp [intOf]; omega
              · exact ⟨rfl, FnQ.err (HFZ.out.2.2.2.1.trans ho) (by unfold funR; rw [bnd_ok h1.out, bnd_ok h2.out, bnd_ok h3.out, bnd_ok h4.out, bnd_err (rep_err HP.out hn hgo)])⟩
            · have hiE : i = m := by omega
              subst hiE
              have g1 : ¬ ((i : Int) < (i : Int)) := by omega
              have f0 := HF.out.2.1.cell (i := 0) rfl
              have f1 := HF.out.2.1.cell (i := 1) rfl
              have f2 := HF.out.2.1.cell (i := 2) rfl
              have y0 := HF.out.1.cell (i := 0) rfl
              have y1 := HF.out.1.cell (i := 1) rfl
              have y2 := HF.out.1.cell (i := 2) rfl
              have y3 := HF.out.1.cell (i := 3) rfl
              have z0 := HF.out.1.frozen 0
              have z1 := HF.out.1.frozen 1
              have z2 := HF.out.1.frozen 2
              have z3 := HF.out.1.frozen 3
              go_wp2
              have b9 := (((HF.out.1.set 0 (.int .i64 (x1 : Int))).set 1 (.int .i64 (x2 : Int))).set 2 (.int .i64 (x3 : Int))).set 3 (.slice (some ⟨gc, 0, none⟩) i i)
              have o9 : Out w.heap.size (w.heap.size + 1) wr ((((wr.setCell ⟨w.heap.size, 0, none⟩ (.int .i64 (x1 : Int))).setCell ⟨w.heap.size, 1, none⟩ (.int .i64 (x2 : Int))).setCell ⟨w.heap.size, 2, none⟩ (.int .i64 (x3 : Int))).setCell ⟨w.heap.size, 3, none⟩ (.slice (some ⟨gc, 0, none⟩) i i)) := ((((Out.refl w.heap.size (w.heap.size + 1) wr).setCell (p := ⟨w.heap.size, 0, none⟩) (.inl ⟨Nat.le_refl _, Nat.lt_succ_self _⟩) _).setCell (p := ⟨w.heap.size, 1, none⟩) (.inl ⟨Nat.le_refl _, Nat.lt_succ_self _⟩) _).setCell (p := ⟨w.heap.size, 2, none⟩) (.inl ⟨Nat.le_refl _, Nat.lt_succ_self _⟩) _).setCell (p := ⟨w.heap.size, 3, none⟩) (.inl ⟨Nat.le_refl _, Nat.lt_succ_self _⟩) _
              refine ret_cell Tryd.results86 rfl rfl (load_fn b9) (FnQ.ok (HF.out.2.2.2.1.past o9 (Nat.le_refl _)) ?_ (HF.out.2.2.1.off o9 HF.out.2.2.2.2) (by have := hV.out; omega) HL.out (HC.out.kept o9 (by have := hV.out; omega)))
              unfold funR
              rw [bnd_ok h1.out, bnd_ok h2.out, bnd_ok h3.out, bnd_ok h4.out, bnd_ok HP.out]; rfl
        · exact ⟨rfl, FnQ.err (HS3.out.2.2.2.1.trans ho) (by unfold funR; rw [bnd_ok h1.out, bnd_ok h2.out, bnd_ok h3.out, bnd_err hn])⟩
      · exact ⟨rfl, FnQ.err (HS2.out.2.2.2.1.trans ho) (by unfold funR; rw [bnd_ok h1.out, bnd_ok h2.out, bnd_err hn])⟩
    · exact ⟨rfl, FnQ.err (HS1.out.2.2.2.1.trans ho) (by unfold funR; rw [bnd_ok h1.out, bnd_err hn])⟩
  · exact ⟨rfl, FnQ.err (HS0.out.2.2.2.1.trans ho) (by unfold funR; rw [bnd_err hn])⟩
end Go.Proofs.YtkghabmgofgclaaDoor
