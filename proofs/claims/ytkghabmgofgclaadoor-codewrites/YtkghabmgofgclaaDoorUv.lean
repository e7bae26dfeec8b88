/- package code: an instruction is read -/
import Derived.Test.YtkghabmgofgclaaDoorUu
namespace Go.Proofs.YtkghabmgofgclaaDoor
open Go.RowKit
set_option linter.unusedVariables false
set_option linter.unusedSimpArgs false

theorem infoI (x y : Int) : (Tryd.prog.info? 61).map (·.size) = some (#[Value.int .i64 x, Value.int .i64 y] : Array Value).size := by kernel_rfl
theorem load_ins {w : World} {g : Nat} {x y : Int} (hg : Bl w g #[.int .i64 x, .int .i64 y] 61) : (loadVar 61 ⟨g, 0, none⟩).run Tryd.prog w = .ok (.agg #[.int .i64 x, .int .i64 y]) w :=
  run_loadVar_row w g 61 61 _ (0, 0) _ hg Tryd.underlying61 rfl (infoI x y)
/-- a result that lies in a cell -/
theorem ret_cell {fn : Func} {p : Tmp} {T : TypeId} {a : Act} {w : World} {A : Addr} {v : Value} {post : Ending → World → Prop} (hr : fn.results = #[.cell p T]) (hp : a.tmps.getD p undef = .pointer (some A))
    (hd : a.defers = []) (hl : (loadVar T A).run Tryd.prog w = .ok v w) (h : post (.returned v) w) : bodyPost Tryd.prog fn post Exit.ret a w := by
  refine bodyPost_ret (v := v) ?_ hd h
  have hp' : a.tmps[p]?.getD undef = .pointer (some A) := by simpa using hp
  simp only [results, hr]
  simp [Sem.run_bind, hp', asAddr, hl, Result.andThen]
theorem take_one {bs : List Int} {a : Nat} {b : Int} (h : bs[a]? = some b) : (bs.drop a).take 1 = [b] := by
  have hl := (List.getElem?_eq_some_iff.1 h).1
  have he := (List.getElem?_eq_some_iff.1 h).2
  rw [List.drop_eq_getElem_cons hl, he]; rfl
theorem op_ok {bs : List Int} {a : Nat} {b : Int} (h : bs[a]? = some b) (ho : opS b ≠ 0) : opR bs a = .inr (b, a + 1) := by
  have hl := (List.getElem?_eq_some_iff.1 h).1
  have h0 : takeR 1 bs a = .inr ([b], a + 1) := by rw [take_ok (by omega), take_one h]
  have h1 : chkR (takeR 1) (fun l => opS (l.headD 0) ≠ 0) bs a = .inr ([b], a + 1) := chk_ok h0 ho
  unfold opR
  exact (bnd_ok h1).trans rfl
theorem op_no {bs : List Int} {a : Nat} {b : Int} (h : bs[a]? = some b) (ho : opS b = 0) : insR bs a = .inl (60, a) := by
  have hl := (List.getElem?_eq_some_iff.1 h).1
  have h0 : takeR 1 bs a = .inr ([b], a + 1) := by rw [take_ok (by omega), take_one h]
  have h1 : chkR (takeR 1) (fun l => opS (l.headD 0) ≠ 0) bs a = .inl (60, a) := chk_no h0 (fun q => q ho)
  unfold insR opR
  exact bnd_err (bnd_err h1)
theorem op_end {bs : List Int} {a : Nat} (h : bs.length = a) : insR bs a = .inl (61, a) := by
  have h0 : takeR 1 bs a = .inl (61, a) := by rw [take_err (by omega) (by omega), h]
  have h1 : chkR (takeR 1) (fun l => opS (l.headD 0) ≠ 0) bs a = .inl (61, a) := chk_err h0
  unfold insR opR
  exact bnd_err (bnd_err h1)
set_option maxRecDepth 100000 in
set_option maxHeartbeats 2000000 in
theorem rins_any {w : World} {r B n cap : Nat} {ba : Option Addr} {bs : List Int} {a : Nat} (h : RD w r B ba n cap bs a) :
    Calls Tryd.prog 99 #[.pointer (some ⟨r, 0, none⟩)] w fun e w' => Out r (r + 1) w w' ∧ ((∃ x c, insR bs a = .inr (x, c) ∧ e = .returned (.agg #[.int .i64 x.1, .int .i64 x.2]) ∧ RD w' r B ba n cap bs c) ∨ ∃ x q, insR bs a = .inl (x, q) ∧ e = .panicked [stopP x (q : Int)]) := by
  have HR := hid_mk (h.alloc (.cells #[.int .i64 0, .int .i64 0] 61))
  have c1 := HR.out.1.cell (i := 1) rfl
  have hlen : Hid (bs.length = n) := h.2.2.1
  have hal : Hid (a ≤ n) := h.2.2.2.2.1
  have hrl : Hid (r < w.heap.size) := h.lt
  have HG := hid_mk (Bl.new w #[.int .i64 0, .int .i64 0] 61)
  have HO0 := hid_mk ((Out.refl r (r + 1) w).alloc (.cells #[.int .i64 0, .int .i64 0] 61))
  clear h
  by_cases hj : a + 1 ≤ n
  · obtain ⟨b, hb⟩ : ∃ b, bs[a]? = some b := ⟨_, List.getElem?_eq_getElem (by have := hlen.out; omega)⟩
    have HX := hid_mk hb
    have HT : Hid (Calls Tryd.prog 85 #[.pointer (some ⟨r, 0, none⟩), .int .i64 1] (w.alloc (.cells #[.int .i64 0, .int .i64 0] 61)) fun e w' => ∃ g off C', e = .returned (.slice (some ⟨g, off, none⟩) 1 C') ∧ w'.cell? ⟨g, off, none⟩ = some (.int .u8 b) ∧ (0 ≤ b ∧ b ≤ 255) ∧ RD w' r B ba n cap bs (a + 1) ∧ Out r (r + 1) w w' ∧ Bl w' w.heap.size #[.int .i64 0, .int .i64 0] 61) := hid_mk ((take_go HR.out 1 hj).mono fun e w' ⟨A', C', h1, _, h2, h3, h4⟩ => by
      rw [take_one HX.out] at h2
      obtain ⟨q1, q2⟩ := h2
      rcases q2 with q2 | ⟨g, off, rfl, _, q3⟩
      · cases q2
      · exact ⟨g, off, C', h1, by have := q3 0 b rfl; exact this, q1 b (by simp), h3, HO0.out.trans h4, HG.out.kept h4 (by have := hrl.out; omega)⟩)
    have hle := opS_le b
    have hcase : opS b = 0 ∨ opS b = 1 ∨ opS b = 2 ∨ opS b = 3 ∨ opS b = 4 := by omega
    have HF : Hid (∀ w2 w3 : World, Out r (r + 1) w w2 → Bl w2 w.heap.size #[.int .i64 0, .int .i64 0] 61 → Out r (r + 1) w2 w3 → Out r (r + 1) w w3 ∧ Bl w3 w.heap.size #[.int .i64 0, .int .i64 0] 61) := hid_mk fun w2 w3 o2 b2 o3 => ⟨o2.trans o3, b2.kept o3 (by have := hrl.out; omega)⟩
    have HE : Hid (∀ (w2 : World) (u v : Int) (c : Nat), Out r (r + 1) w w2 → Bl w2 w.heap.size #[.int .i64 0, .int .i64 0] 61 → RD w2 r B ba n cap bs c → Out r (r + 1) w ((w2.setCell ⟨w.heap.size, 0, none⟩ (.int .i64 u)).setCell ⟨w.heap.size, 1, none⟩ (.int .i64 v)) ∧ Bl ((w2.setCell ⟨w.heap.size, 0, none⟩ (.int .i64 u)).setCell ⟨w.heap.size, 1, none⟩ (.int .i64 v)) w.heap.size #[.int .i64 u, .int .i64 v] 61 ∧ RD ((w2.setCell ⟨w.heap.size, 0, none⟩ (.int .i64 u)).setCell ⟨w.heap.size, 1, none⟩ (.int .i64 v)) r B ba n cap bs c) := hid_mk fun w2 u v c o2 b2 hr => ⟨(o2.setCell (.inr (Nat.le_refl _)) _).setCell (.inr (Nat.le_refl _)) _, (b2.set 0 _).set 1 _, hr.off (((Out.refl w.heap.size (w.heap.size + 1) w2).setCell (p := ⟨w.heap.size, 0, none⟩) (.inl ⟨Nat.le_refl _, Nat.lt_succ_self _⟩) _).setCell (p := ⟨w.heap.size, 1, none⟩) (.inl ⟨Nat.le_refl _, Nat.lt_succ_self _⟩) _) hrl.out⟩
    clear hb hj hle
    rcases hcase with hs | hs | hs | hs | hs
    · go_enter Tryd.func99, Tryd.ntmps99
      go_wp2_with (first
        | (go_at_call 85; refine HT.out.mono ?_; rintro e w2 ⟨g, off, C', rfl, d0, ⟨b0, b1⟩, hrd, ho2, hg2⟩; have y0 := hg2.cell (i := 0) rfl; have y1 := hg2.cell (i := 1) rfl; have z0 := hg2.frozen 0; have z1 := hg2.frozen 1)
        | (go_at_call 95; refine calls_same (operandOf_at hs _) ?_)
        | (go_at_call 40; refine want_any _ _ _ ?_ ?_ <;> intro hh <;> first | (exact absurd hh (by decide)) | clear hh))
      exact ⟨rfl, ho2, .inr ⟨60, a, op_no HX.out hs, rfl⟩⟩
    · have H1 : Hid (insR bs a = .inr ((b, 0), a + 1)) := hid_mk (by unfold insR; rw [bnd_ok (op_ok HX.out (by omega))]; unfold argR; rw [if_neg (by omega), if_neg (by omega), if_neg (by omega)]; rfl)
      go_enter Tryd.func99, Tryd.ntmps99
      go_wp2_with (first
        | (go_at_call 85; refine HT.out.mono ?_; rintro e w2 ⟨g, off, C', rfl, d0, ⟨b0, b1⟩, hrd, ho2, hg2⟩; have y0 := hg2.cell (i := 0) rfl; have y1 := hg2.cell (i := 1) rfl; have z0 := hg2.frozen 0; have z1 := hg2.frozen 1)
        | (go_at_call 95; refine calls_same (operandOf_at hs _) ?_)
        | (go_at_call 40; refine want_any _ _ _ ?_ ?_ <;> intro hh <;> first | (exact absurd hh (by decide)) | clear hh))
      obtain ⟨f1, f2, f3⟩ := HE.out _ b 0 _ ho2 hg2 hrd
      exact ret_cell Tryd.results99 rfl rfl (load_ins f2) ⟨f1, .inl ⟨(b, 0), _, H1.out, rfl, f3⟩⟩
    · have H0 : Hid (insR bs a = bndR (numR 0 2097151) (fun v => pureR (b, (v : Int))) bs (a + 1)) := hid_mk (by unfold insR; rw [bnd_ok (op_ok HX.out (by omega))]; unfold argR; rw [if_pos (by omega)])
      go_enter Tryd.func99, Tryd.ntmps99
      go_wp2_with (first
        | (go_at_call 85; refine HT.out.mono ?_; rintro e w2 ⟨g, off, C', rfl, d0, ⟨b0, b1⟩, hrd, ho2, hg2⟩; have y0 := hg2.cell (i := 0) rfl; have y1 := hg2.cell (i := 1) rfl; have z0 := hg2.frozen 0; have z1 := hg2.frozen 1)
        | (go_at_call 95; refine calls_same (operandOf_at hs _) ?_)
        | (go_at_call 40; refine want_any _ _ _ ?_ ?_ <;> intro hh <;> first | (exact absurd hh (by decide)) | clear hh))
      refine (rnum_any hrd 0 2097151).mono ?_
      rintro e w3 ⟨ho3, ⟨v, c, h1, rfl, hrd3⟩ | ⟨x, q, h1, rfl⟩⟩
      · obtain ⟨ho4, hg4⟩ := HF.out _ _ ho2 hg2 ho3
        have y4 := hg4.cell (i := 0) rfl; have y5 := hg4.cell (i := 1) rfl; have z4 := hg4.frozen 0; have z5 := hg4.frozen 1
        go_wp2
        obtain ⟨f1, f2, f3⟩ := HE.out _ b (v : Int) _ ho4 hg4 hrd3
        exact ret_cell Tryd.results99 rfl rfl (load_ins f2) ⟨f1, .inl ⟨(b, (v : Int)), _, by rw [H0.out, bnd_ok h1]; rfl, rfl, f3⟩⟩
      · exact ⟨rfl, ho2.trans ho3, .inr ⟨x, q, by rw [H0.out, bnd_err h1], rfl⟩⟩
    · have H0 : Hid (insR bs a = bndR (numR 0 2305843009213693951) (fun v => pureR (b, zag v)) bs (a + 1)) := hid_mk (by unfold insR; rw [bnd_ok (op_ok HX.out (by omega))]; unfold argR; rw [if_neg (by omega), if_pos (by omega)])
      go_enter Tryd.func99, Tryd.ntmps99
      go_wp2_with (first
        | (go_at_call 85; refine HT.out.mono ?_; rintro e w2 ⟨g, off, C', rfl, d0, ⟨b0, b1⟩, hrd, ho2, hg2⟩; have y0 := hg2.cell (i := 0) rfl; have y1 := hg2.cell (i := 1) rfl; have z0 := hg2.frozen 0; have z1 := hg2.frozen 1)
        | (go_at_call 95; refine calls_same (operandOf_at hs _) ?_)
        | (go_at_call 40; refine want_any _ _ _ ?_ ?_ <;> intro hh <;> first | (exact absurd hh (by decide)) | clear hh))
      refine (rsigned_any hrd).mono ?_
      rintro e w3 ⟨ho3, ⟨v, c, h1, rfl, hrd3⟩ | ⟨x, q, h1, rfl⟩⟩
      · obtain ⟨ho4, hg4⟩ := HF.out _ _ ho2 hg2 ho3
        have y4 := hg4.cell (i := 0) rfl; have y5 := hg4.cell (i := 1) rfl; have z4 := hg4.frozen 0; have z5 := hg4.frozen 1
        go_wp2
        obtain ⟨f1, f2, f3⟩ := HE.out _ b (zag v) _ ho4 hg4 hrd3
        exact ret_cell Tryd.results99 rfl rfl (load_ins f2) ⟨f1, .inl ⟨(b, zag v), _, by rw [H0.out, bnd_ok h1]; rfl, rfl, f3⟩⟩
      · exact ⟨rfl, ho2.trans ho3, .inr ⟨x, q, by rw [H0.out, bnd_err h1], rfl⟩⟩
    · have H0 : Hid (insR bs a = bndR (takeR 8) (fun l => pureR (b, sg8 l)) bs (a + 1)) := hid_mk (by unfold insR; rw [bnd_ok (op_ok HX.out (by omega))]; unfold argR; rw [if_neg (by omega), if_neg (by omega), if_pos (by omega)])
      go_enter Tryd.func99, Tryd.ntmps99
      go_wp2_with (first
        | (go_at_call 85; refine HT.out.mono ?_; rintro e w2 ⟨g, off, C', rfl, d0, ⟨b0, b1⟩, hrd, ho2, hg2⟩; have y0 := hg2.cell (i := 0) rfl; have y1 := hg2.cell (i := 1) rfl; have z0 := hg2.frozen 0; have z1 := hg2.frozen 1)
        | (go_at_call 95; refine calls_same (operandOf_at hs _) ?_)
        | (go_at_call 40; refine want_any _ _ _ ?_ ?_ <;> intro hh <;> first | (exact absurd hh (by decide)) | clear hh))
      refine (rbits_any hrd).mono ?_
      rintro e w3 ⟨ho3, ⟨v, c, h1, rfl, hrd3⟩ | ⟨h1, rfl⟩⟩
      · obtain ⟨ho4, hg4⟩ := HF.out _ _ ho2 hg2 ho3
        have y4 := hg4.cell (i := 0) rfl; have y5 := hg4.cell (i := 1) rfl; have z4 := hg4.frozen 0; have z5 := hg4.frozen 1
        go_wp2
        obtain ⟨f1, f2, f3⟩ := HE.out _ b (sg8 v) _ ho4 hg4 hrd3
        exact ret_cell Tryd.results99 rfl rfl (load_ins f2) ⟨f1, .inl ⟨(b, sg8 v), _, by rw [H0.out, bnd_ok h1]; rfl, rfl, f3⟩⟩
      · exact ⟨rfl, ho2.trans ho3, .inr ⟨61, n, by rw [H0.out, bnd_err h1], rfl⟩⟩
  · have hae : a = n := by have := hal.out; omega
    have HT := hid_mk (take_end HR.out 1 (by omega))
    have HE := hid_mk (op_end (bs := bs) (a := a) (by rw [hlen.out, hae]))
    have HA := hid_mk hae
    clear hj hae
    go_enter Tryd.func99, Tryd.ntmps99
    go_wp2_with (go_at_call 85; refine HT.out.mono ?_; rintro e w3 ⟨rfl, ho3⟩)
    exact ⟨rfl, HO0.out.trans (ho3.any _ _), .inr ⟨61, a, HE.out, by rw [HA.out]⟩⟩
end Go.Proofs.YtkghabmgofgclaaDoor
