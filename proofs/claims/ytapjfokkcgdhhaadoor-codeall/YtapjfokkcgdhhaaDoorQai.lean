import Derived.Test.YtapjfokkcgdhhaaDoorQah
import Derived.Laws.MakeOwn
namespace Go.Proofs.YtapjfokkcgdhhaaDoor
open Go.RowKit
set_option linter.unusedVariables false
set_option linter.unusedSimpArgs false

theorem make_any {T E : TypeId} {z : Value} {sz by_ : Nat} (hT : Tryd.prog.underlying T = some (.slice E)) (hi : (Tryd.prog.info? E).map (fun i => (i.zero, i.size, i.bytes)) = some (some z, sz, by_)) (hb : by_ ≤ 1000) (m : Nat) (hm : m ≤ 100000) :
    ∃ cur : Array Value, cur.size = m * sz ∧ ∀ w : World, (Instr.makeSlice T (.int .i64 (m : Int)) (.int .i64 (m : Int))).run Tryd.prog w = .ok (.slice (some ⟨w.heap.size, 0, none⟩) m m) (w.alloc (.cells cur E)) := by
  obtain ⟨i0, hi, hz0, hz1, hz2⟩ := info_p hi
  refine ⟨madeCells z.cells (m * sz), size_madeCells _ _, fun w => ?_⟩
  have hbm : (by_ : Int) * (m : Int) ≤ 1000 * 100000 := by
    have : by_ * m ≤ 1000 * 100000 := Nat.mul_le_mul hb hm
    have h2 : ((by_ * m : Nat) : Int) ≤ ((1000 * 100000 : Nat) : Int) := Int.ofNat_le.2 this
    simpa using h2
  have := run_make (P := Tryd.prog) w T E i0 _ hT hi hz0 .i64 .i64 (m : Int) (m : Int) (by omega) (Int.le_refl _) (by rw [hz2]; omega) (by omega)
  rw [this, hz1]
  simp
theorem info_ins : (Tryd.prog.info? 61).map (fun i => (i.zero, i.size, i.bytes)) = some (some (.agg #[.int .i64 0, .int .i64 0]), 2, 16) := by kernel_rfl
/-- a row of m instructions, of which the first are these -/
def CR (w : World) (g m : Nat) (vs : List (Int × Int)) : Prop := ∃ cs : Array Value, Bl w g cs 61 ∧ cs.size = m * 2 ∧ ∀ (j : Nat) x, vs[j]? = some x → cs[j * 2]? = some (.int .i64 x.1) ∧ cs[j * 2 + 1]? = some (.int .i64 x.2)
theorem CR.of {w w' : World} {g m : Nat} {vs : List (Int × Int)} (h : CR w g m vs) (e : w'.heap[g]? = w.heap[g]?) : CR w' g m vs := by
  obtain ⟨cs, h1, h2, h3⟩ := h
  exact ⟨cs, e.trans h1, h2, h3⟩
theorem CR.lt {w : World} {g m : Nat} {vs : List (Int × Int)} (h : CR w g m vs) : g < w.heap.size := by
  obtain ⟨cs, h1, h2, h3⟩ := h
  exact h1.lt
theorem CR.kept {w w' : World} {g m lo hi : Nat} {vs : List (Int × Int)} (h : CR w g m vs) (o : Out lo hi w w') (h2 : g < lo ∨ hi ≤ g) : CR w' g m vs := h.of (o.block h.lt h2)
theorem CR.set {w : World} {g m : Nat} {vs : List (Int × Int)} (h : CR w g m vs) (hi : vs.length < m) (u v : Int) : CR ((w.setCell ⟨g, vs.length * 2, none⟩ (.int .i64 u)).setCell ⟨g, vs.length * 2 + 1, none⟩ (.int .i64 v)) g m (vs ++ [(u, v)]) := by
  obtain ⟨cs, h1, h2, h3⟩ := h
  refine ⟨_, (h1.set _ _).set _ _, by simpa using h2, fun j x hj => ?_⟩
  simp only [Array.getElem?_setIfInBounds, Array.size_setIfInBounds]
  rcases Nat.lt_or_ge j vs.length with q | q
  · rw [List.getElem?_append_left q] at hj
    obtain ⟨k1, k2⟩ := h3 j x hj
    rw [if_neg (by omega), if_neg (by omega), if_neg (by omega), if_neg (by omega)]
    exact ⟨k1, k2⟩
  · rw [List.getElem?_append_right q] at hj
    have e : j = vs.length := by
      rcases Nat.eq_or_lt_of_le q with q | q
      · exact q.symm
      · rw [List.getElem?_eq_none (by simp; omega)] at hj; cases hj
    subst e
    simp at hj
    subst hj
    rw [if_neg (by omega), if_pos rfl, if_pos (by omega), if_pos rfl, if_pos (by omega)]
    exact ⟨rfl, rfl⟩
theorem CR.cells {w : World} {g m : Nat} {vs : List (Int × Int)} (h : CR w g m vs) {i : Nat} (hi : i < m) : (∃ x, w.cell? ⟨g, i * 2, none⟩ = some x) ∧ (∃ x, w.cell? ⟨g, i * 2 + 1, none⟩ = some x) ∧ w.frozen? ⟨g, i * 2, none⟩ = false ∧ w.frozen? ⟨g, i * 2 + 1, none⟩ = false := by
  obtain ⟨cs, h1, h2, h3⟩ := h
  exact ⟨⟨_, h1.cell (Array.getElem?_eq_getElem (by omega))⟩, ⟨_, h1.cell (Array.getElem?_eq_getElem (by omega))⟩, h1.frozen _, h1.frozen _⟩
theorem CR.new (w : World) (cur : Array Value) (m : Nat) (h : cur.size = m * 2) : CR (w.alloc (.cells cur 61)) w.heap.size m [] := ⟨cur, Bl.new w cur _, h, fun j x hj => by simp at hj⟩
/-- in the midst of reading a function: the result's cell, the function's own -/
def FS (w W : World) (r B : Nat) (ba : Option Addr) (n cap : Nat) (bs : List Int) (c : Nat) (cs : Array Value) : Prop :=
  Bl W w.heap.size #[.int .i64 0, .int .i64 0, .int .i64 0, .slice none 0 0] 40 ∧ Bl W (w.heap.size + 1) cs 40 ∧ RD W r B ba n cap bs c ∧ Out r (r + 1) w W ∧ r < w.heap.size
section
variable {w W W2 : World} {r B n cap c c2 : Nat} {ba : Option Addr} {bs : List Int} {cs : Array Value}
theorem FS.step (h : FS w W r B ba n cap bs c cs) (o : Out r (r + 1) W W2) (hr : RD W2 r B ba n cap bs c2) : FS w W2 r B ba n cap bs c2 cs :=
  ⟨h.1.kept o (by have := h.2.2.2.2; omega), h.2.1.kept o (by have := h.2.2.2.2; omega), hr, h.2.2.2.1.trans o, h.2.2.2.2⟩
theorem FS.set (h : FS w W r B ba n cap bs c cs) (j : Nat) (v : Value) : FS w (W.setCell ⟨w.heap.size + 1, j, none⟩ v) r B ba n cap bs c (cs.setIfInBounds j v) := by
  have o : Out (w.heap.size + 1) (w.heap.size + 2) W (W.setCell ⟨w.heap.size + 1, j, none⟩ v) := (Out.refl _ _ W).setCell (p := ⟨w.heap.size + 1, j, none⟩) (.inl ⟨Nat.le_refl _, Nat.lt_succ_self _⟩) _
  exact ⟨h.1.kept o (.inl (by omega)), h.2.1.set j v, h.2.2.1.off o (by have := h.2.2.2.2; omega), h.2.2.2.1.setCell (.inr (by simp)) _, h.2.2.2.2⟩
theorem FS.quiet (h : FS w W r B ba n cap bs c cs) (o : Out 0 0 W W2) : FS w W2 r B ba n cap bs c cs :=
  ⟨h.1.kept o (.inr (Nat.zero_le _)), h.2.1.kept o (.inr (Nat.zero_le _)), h.2.2.1.out o, h.2.2.2.1.trans (o.any _ _), h.2.2.2.2⟩
theorem FS.far (h : FS w W r B ba n cap bs c cs) {g : Nat} (o : Out g (g + 1) W W2) (hg : w.heap.size + 1 < g) : FS w W2 r B ba n cap bs c cs :=
  ⟨h.1.kept o (.inl (by omega)), h.2.1.kept o (.inl (by omega)), h.2.2.1.off o (by have := h.2.2.2.2; omega), h.2.2.2.1.past o (by omega), h.2.2.2.2⟩
end
theorem fs_new {w : World} {r B n cap c : Nat} {ba : Option Addr} {bs : List Int} (h : RD w r B ba n cap bs c) : FS w ((w.alloc (.cells #[.int .i64 0, .int .i64 0, .int .i64 0, .slice none 0 0] 40)).alloc (.cells #[.int .i64 0, .int .i64 0, .int .i64 0, .slice none 0 0] 40)) r B ba n cap bs c #[.int .i64 0, .int .i64 0, .int .i64 0, .slice none 0 0] := by
  refine ⟨(Bl.new w _ _).alloc _, ?_, (h.alloc _).alloc _, ((Out.refl _ _ _).alloc _).alloc _, h.lt⟩
  have := Bl.new (w.alloc (.cells #[.int .i64 0, .int .i64 0, .int .i64 0, .slice none 0 0] 40)) #[.int .i64 0, .int .i64 0, .int .i64 0, .slice none 0 0] 40
  rwa [size_alloc] at this
theorem infoFn (v0 v1 v2 v3 : Value) : (Tryd.prog.info? 40).map (·.size) = some (#[v0, v1, v2, v3] : Array Value).size := by kernel_rfl
theorem load_fn {w : World} {g : Nat} {v0 v1 v2 v3 : Value} (hg : Bl w g #[v0, v1, v2, v3] 40) : (loadVar 40 ⟨g, 0, none⟩).run Tryd.prog w = .ok (.agg #[v0, v1, v2, v3]) w :=
  run_loadVar_row w g 40 40 _ (0, 0) _ hg Tryd.underlying40 rfl (infoFn v0 v1 v2 v3)
end Go.Proofs.YtapjfokkcgdhhaaDoor
namespace Go.Proofs.YtapjfokkcgdhhaaDoor
open Go.RowKit
set_option linter.unusedVariables false
set_option linter.unusedSimpArgs false

/-- what reading a function leaves -/
def FnQ (w : World) (r B : Nat) (ba : Option Addr) (n cap : Nat) (bs : List Int) (a : Nat) (e : Ending) (w' : World) : Prop := Out r (r + 1) w w' ∧ ((∃ f c, funR bs a = .inr (f, c) ∧ RD w' r B ba n cap bs c ∧ ∃ gc, w.heap.size ≤ gc ∧ e = .returned (.agg #[.int .i64 f.1, .int .i64 f.2.1, .int .i64 f.2.2.1, .slice (some ⟨gc, 0, none⟩) f.2.2.2.length f.2.2.2.length]) ∧ CR w' gc f.2.2.2.length f.2.2.2) ∨ ∃ x q, funR bs a = .inl (x, q) ∧ e = .panicked [stopP x (q : Int)])
theorem FnQ.err {w w' : World} {r B n cap a q : Nat} {ba : Option Addr} {bs : List Int} {x : Int} (o : Out r (r + 1) w w') (h : funR bs a = .inl (x, q)) : FnQ w r B ba n cap bs a (.panicked [stopP x (q : Int)]) w' := ⟨o, .inr ⟨x, q, h, rfl⟩⟩
theorem FnQ.ok {w w' : World} {r B n cap a c gc m : Nat} {ba : Option Addr} {bs : List Int} {x y z : Int} {l : List (Int × Int)} (o : Out r (r + 1) w w') (h : funR bs a = .inr ((x, y, z, l), c)) (hr : RD w' r B ba n cap bs c) (hg : w.heap.size ≤ gc) (hm : l.length = m) (hc : CR w' gc m l) : FnQ w r B ba n cap bs a (.returned (.agg #[.int .i64 x, .int .i64 y, .int .i64 z, .slice (some ⟨gc, 0, none⟩) m m])) w' := by
  subst hm
  exact ⟨o, .inl ⟨(x, y, z, l), c, h, hr, gc, hg, rfl, hc⟩⟩
set_option maxRecDepth 100000 in
set_option maxHeartbeats 2000000 in
theorem rfun_any {w : World} {r B n cap : Nat} {ba : Option Addr} {bs : List Int} {a : Nat} (h : RD w r B ba n cap bs a) :
    Calls Tryd.prog 56 #[.pointer (some ⟨r, 0, none⟩)] w fun e w' => FnQ w r B ba n cap bs a e w' := by
  have HS0 := hid_mk (fs_new h)
  clear h
  go_enter Tryd.func56, Tryd.ntmps56
  go_wp2_with fail
  refine (rnum_any HS0.out.2.2.1 0 8).mono ?_
  rintro e V1 ⟨ho, ⟨x1, c1, hn, rfl, hrd⟩ | ⟨x, q, hn, rfl⟩⟩
  · have h1 := hid_mk hn
    have HT1 := hid_mk (HS0.out.step ho hrd)
    clear hn ho hrd
    have s0 := HT1.out.2.1.cell (i := 0) rfl
    have s1 := HT1.out.2.1.frozen 0
    have HS1 := hid_mk (HT1.out.set 0 (.int .i64 (x1 : Int)))
    go_wp2_with fail
    clear s0 s1
    refine (rnum_any HS1.out.2.2.1 0 64).mono ?_
    rintro e V2 ⟨ho, ⟨x2, c2, hn, rfl, hrd⟩ | ⟨x, q, hn, rfl⟩⟩
    · have h2 := hid_mk hn
      have HT2 := hid_mk (HS1.out.step ho hrd)
      clear hn ho hrd
      have s0 := HT2.out.2.1.cell (i := 1) rfl
      have s1 := HT2.out.2.1.frozen 1
      have HS2 := hid_mk (HT2.out.set 1 (.int .i64 (x2 : Int)))
      go_wp2_with fail
      clear s0 s1
      refine (rnum_any HS2.out.2.2.1 0 64).mono ?_
      rintro e V3 ⟨ho, ⟨x3, c3, hn, rfl, hrd⟩ | ⟨x, q, hn, rfl⟩⟩
      · have h3 := hid_mk hn
        have HT3 := hid_mk (HS2.out.step ho hrd)
        clear hn ho hrd
        have s0 := HT3.out.2.1.cell (i := 2) rfl
        have s1 := HT3.out.2.1.frozen 2
        have HS3 := hid_mk (HT3.out.set 2 (.int .i64 (x3 : Int)))
        go_wp2_with fail
        clear s0 s1
        refine (rnum_any HS3.out.2.2.1 0 4096).mono ?_
        rintro e V4 ⟨ho, ⟨m, c4, hn, rfl, hrd⟩ | ⟨x, q, hn, rfl⟩⟩
        · have h4 := hid_mk hn
          have HT4 := hid_mk (HS3.out.step ho hrd)
          clear hn ho hrd
          have s0 := HT4.out.2.1.cell (i := 3) rfl
          have s1 := HT4.out.2.1.frozen 3
          obtain ⟨cur, hcs, hmk⟩ := make_any Tryd.underlying38 info_ins (by decide) m (Nat.le_trans (num_in h4.out).2 (by decide))
          obtain ⟨gc, hgc⟩ : ∃ g, V4.heap.size = g := ⟨_, rfl⟩
          have HQ := hid_mk (CR.new V4 cur m hcs)
          have hV : Hid (w.heap.size + 2 ≤ V4.heap.size) := hid_mk (by have := HT4.out.2.1.lt; omega)
          have HS4 := hid_mk ((HT4.out.quiet ((Out.refl 0 0 V4).alloc (.cells cur 61))).set 3 (.slice (some ⟨V4.heap.size, 0, none⟩) m m))
          have s2 := ((HT4.out.quiet ((Out.refl 0 0 V4).alloc (.cells cur 61))).2.1).cell (i := 3) rfl
          have s3 := ((HT4.out.quiet ((Out.refl 0 0 V4).alloc (.cells cur 61))).2.1).frozen 3
          have hm4 : (m : Int) ≤ 4096 := by have := (num_in h4.out).2; omega
          have s4 := HS4.out.2.1.cell (i := 3) rfl
          have HQ4 : Hid (CR ((V4.alloc (.cells cur 61)).setCell ⟨w.heap.size + 1, 3, none⟩ (.slice (some ⟨V4.heap.size, 0, none⟩) m m)) V4.heap.size m []) := hid_mk (HQ.out.kept (lo := w.heap.size + 1) (hi := w.heap.size + 2) ((Out.refl _ _ _).setCell (p := ⟨w.heap.size + 1, 3, none⟩) (.inl ⟨Nat.le_refl _, Nat.lt_succ_self _⟩) _) (.inr hV.out))
          go_wp2_with fail
          clear s0 s1 s2 s3 s4 hmk hcs HQ
          rw [hgc] at HS4 HQ4 hV
          clear hgc HT4
          go_loopw [21] (fun x wr => ∃ (i : Nat) (vs : List (Int × Int)) (c : Nat), x = .int .i64 i ∧ i ≤ m ∧ vs.length = i ∧ repR i insR bs c4 = .inr (vs, c) ∧ FS w wr r B ba n cap bs c #[.int .i64 (x1 : Int), .int .i64 (x2 : Int), .int .i64 (x3 : Int), .slice (some ⟨gc, 0, none⟩) m m] ∧ CR wr gc m vs) (fun x _ => m - (intOf x).toNat)
          case atStart => exact ⟨0, [], c4, rfl, Nat.zero_le _, rfl, rfl, HS4.out, HQ4.out⟩
          case round =>
            obtain ⟨i, vs, c, rfl, him, hvl, hrep, hfs, hcr⟩ := hrel
            have HP := hid_mk hrep
            have HF := hid_mk hfs
            have HC := hid_mk hcr
            have HL := hid_mk hvl
            have t3 := hfs.2.1.cell (i := 3) rfl
            clear hrep hfs hcr hvl
            by_cases hgo : i < m
            · have g1 : (i : Int) < (m : Int) := by omega
              go_wp2
              refine wp_region_held_drew (S := fun w' => w'.cell? ⟨w.heap.size + 1, 3, none⟩ = some (.slice (some ⟨gc, 0, none⟩) m m)) (by kernel_rfl) t3 (fun hHeld => ?_)
              refine tk 0 ?_
              refine tk 1 ?_
              refine tk 2 ?_
              refine tk 3 ?_
              refine wpAnyH_ready (rs := [4]) (by kernel_rfl) (by simp) ?_
              refine AllReadyH.cons rfl (fun KK hK => ?_) AllReadyH.nil
              simp only [xa, xb, xc]
              go_simp
              have HFZ := hid_mk (HF.out.quiet ((Out.refl 0 0 wr).drew))
              refine (rins_any HFZ.out.2.2.1).mono ?_
              rintro e w3 ⟨ho, ⟨⟨u, v⟩, c5, hn, rfl, hrd⟩ | ⟨x, q, hn, rfl⟩⟩
              · have HN := hid_mk hn
                have HF3 := hid_mk (HFZ.out.step ho hrd)
                have HC3 := hid_mk ((HC.out.kept ((Out.refl 0 0 wr).drew) (.inr (Nat.zero_le _))).kept ho (by have := HF.out.2.2.2.2; have := hV.out; omega))
                clear hn ho hrd
                refine hK.out _ _ (HF3.out.2.1.cell (i := 3) rfl) (fun _ => ?_)
                refine tk 5 ?_
                refine wpAnyH_ready (rs := [6]) (by kernel_rfl) (by simp) ?_
                refine AllReadyH.cons rfl (fun KK hK => ?_) AllReadyH.nil
                simp only [xa, xb, xc]
                obtain ⟨⟨o0, y0⟩, ⟨o1, y1⟩, z0, z1⟩ := HC3.out.cells hgo
                have y2 : (w3.setCell ⟨gc, i * 2, none⟩ (.int .i64 u)).cell? ⟨gc, i * 2 + 1, none⟩ = some o1 := by
                  obtain ⟨cs, q1, q2, q3⟩ := HC3.out
                  refine (q1.set _ _).cell ?_
                  rw [Array.getElem?_setIfInBounds_ne (by omega)]
                  have := y1
                  unfold Bl at q1
                  simpa [World.cell?, q1] using this
                have z2 : (w3.setCell ⟨gc, i * 2, none⟩ (.int .i64 u)).frozen? ⟨gc, i * 2 + 1, none⟩ = false := by
                  obtain ⟨cs, q1, q2, q3⟩ := HC3.out
                  exact (q1.set _ _).frozen _
                go_simp
                have o5 : Out gc (gc + 1) w3 ((w3.setCell ⟨gc, i * 2, none⟩ (.int .i64 u)).setCell ⟨gc, i * 2 + 1, none⟩ (.int .i64 v)) := ((Out.refl gc (gc + 1) w3).setCell (p := ⟨gc, i * 2, none⟩) (.inl ⟨Nat.le_refl _, Nat.lt_succ_self _⟩) _).setCell (p := ⟨gc, i * 2 + 1, none⟩) (.inl ⟨Nat.le_refl _, Nat.lt_succ_self _⟩) _
                have HF5 := hid_mk (HF3.out.far o5 (by have := hV.out; omega))
                have HC5 := hid_mk (HC3.out.set (by rw [HL.out]; exact hgo) u v)
                rw [HL.out] at HC5
                clear y0 y1 y2 z0 z1 z2 o5
                refine hK.out _ _ (HF5.out.2.1.cell (i := 3) rfl) (fun _ => ?_)
                refine wpAnyH_done (by kernel_rfl) ?_ _
                go_wp2
                go_roundw
                case rel => exact ⟨i + 1, vs ++ [(u, v)], c5, by go_num, by omega, by rw [List.length_append, HL.out]; rfl, rep_up HP.out HN.out, HF5.out, HC5.out⟩
                case measure => simp [intOf]; omega
              · exact ⟨rfl, FnQ.err (HFZ.out.2.2.2.1.trans ho) (by unfold funR; rw [bnd_ok h1.out, bnd_ok h2.out, bnd_ok h3.out, bnd_ok h4.out, bnd_err (rep_err HP.out hn hgo)])⟩
            · have hiE : i = m := by omega
              subst hiE
              have g1 : ¬ ((i : Int) < (i : Int)) := by omega
              have f0 := HF.out.2.1.cell (i := 0) rfl
              have f1 := HF.out.2.1.cell (i := 1) rfl
              have f2 := HF.out.2.1.cell (i := 2) rfl
              have y0 := HF.out.1.cell (i := 0) rfl
              have y1 := HF.out.1.cell (i := 1) rfl
              have y2 := HF.out.1.cell (i := 2) rfl
              have y3 := HF.out.1.cell (i := 3) rfl
              have z0 := HF.out.1.frozen 0
              have z1 := HF.out.1.frozen 1
              have z2 := HF.out.1.frozen 2
              have z3 := HF.out.1.frozen 3
              go_wp2
              have b9 := (((HF.out.1.set 0 (.int .i64 (x1 : Int))).set 1 (.int .i64 (x2 : Int))).set 2 (.int .i64 (x3 : Int))).set 3 (.slice (some ⟨gc, 0, none⟩) i i)
              have o9 : Out w.heap.size (w.heap.size + 1) wr ((((wr.setCell ⟨w.heap.size, 0, none⟩ (.int .i64 (x1 : Int))).setCell ⟨w.heap.size, 1, none⟩ (.int .i64 (x2 : Int))).setCell ⟨w.heap.size, 2, none⟩ (.int .i64 (x3 : Int))).setCell ⟨w.heap.size, 3, none⟩ (.slice (some ⟨gc, 0, none⟩) i i)) := ((((Out.refl w.heap.size (w.heap.size + 1) wr).setCell (p := ⟨w.heap.size, 0, none⟩) (.inl ⟨Nat.le_refl _, Nat.lt_succ_self _⟩) _).setCell (p := ⟨w.heap.size, 1, none⟩) (.inl ⟨Nat.le_refl _, Nat.lt_succ_self _⟩) _).setCell (p := ⟨w.heap.size, 2, none⟩) (.inl ⟨Nat.le_refl _, Nat.lt_succ_self _⟩) _).setCell (p := ⟨w.heap.size, 3, none⟩) (.inl ⟨Nat.le_refl _, Nat.lt_succ_self _⟩) _
              refine ret_cell Tryd.results56 rfl rfl (load_fn b9) (FnQ.ok (HF.out.2.2.2.1.past o9 (Nat.le_refl _)) ?_ (HF.out.2.2.1.off o9 HF.out.2.2.2.2) (by have := hV.out; omega) HL.out (HC.out.kept o9 (by have := hV.out; omega)))
              unfold funR
              rw [bnd_ok h1.out, bnd_ok h2.out, bnd_ok h3.out, bnd_ok h4.out, bnd_ok HP.out]; rfl
        · exact ⟨rfl, FnQ.err (HS3.out.2.2.2.1.trans ho) (by unfold funR; rw [bnd_ok h1.out, bnd_ok h2.out, bnd_ok h3.out, bnd_err hn])⟩
      · exact ⟨rfl, FnQ.err (HS2.out.2.2.2.1.trans ho) (by unfold funR; rw [bnd_ok h1.out, bnd_ok h2.out, bnd_err hn])⟩
    · exact ⟨rfl, FnQ.err (HS1.out.2.2.2.1.trans ho) (by unfold funR; rw [bnd_ok h1.out, bnd_err hn])⟩
  · exact ⟨rfl, FnQ.err (HS0.out.2.2.2.1.trans ho) (by unfold funR; rw [bnd_err hn])⟩
end Go.Proofs.YtapjfokkcgdhhaaDoor
