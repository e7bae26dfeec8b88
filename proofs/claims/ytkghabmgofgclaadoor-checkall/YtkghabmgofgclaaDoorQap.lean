import Derived.Test.YtkghabmgofgclaaDoorQao
namespace Go.Proofs.YtkghabmgofgclaaDoor
open Go.RowKit
set_option linter.unusedVariables false
set_option linter.unusedSimpArgs false

theorem own_sl {w : World} {base k sz : Nat} {T : TypeId} {v : Value} {xs : List Value} (h : w.ownsRow base T sz v k xs) : ∃ a n c, v = .slice a n c := by
  rcases h.2 with ⟨rfl, _⟩ | ⟨g, c, cur, rfl, _⟩
  · exact ⟨_, _, _, rfl⟩
  · exact ⟨_, _, _, rfl⟩
/-- the five blocks of a Check -/
theorem five_new {w V : World} {b : Nat} {cs : Array Value} (hb : w.heap.size = b) (hV : ((((w.alloc (.cells cs 25)).alloc (.cells #[.slice none 0 0, .slice none 0 0] 71)).alloc (.cells #[.int .i64 0] 3)).alloc (.cells #[.int .i64 0] 3)).alloc (.cells #[.int .i64 0] 49) = V) :
    Bl V b cs 25 ∧ Bl V (b + 1) #[.slice none 0 0, .slice none 0 0] 71 ∧ Bl V (b + 1 + 1) #[.int .i64 0] 3 ∧ Bl V (b + 1 + 1 + 1) #[.int .i64 0] 3 ∧ Bl V (b + 1 + 1 + 1 + 1) #[.int .i64 0] 49 ∧ Out 0 0 w V := by
  subst hb hV
  have e1 := Bl.new (w.alloc (.cells cs 25)) #[.slice none 0 0, .slice none 0 0] 71
  have e2 := Bl.new ((w.alloc (.cells cs 25)).alloc (.cells #[.slice none 0 0, .slice none 0 0] 71)) #[.int .i64 0] 3
  have e3 := Bl.new (((w.alloc (.cells cs 25)).alloc (.cells #[.slice none 0 0, .slice none 0 0] 71)).alloc (.cells #[.int .i64 0] 3)) #[.int .i64 0] 3
  have e4 := Bl.new ((((w.alloc (.cells cs 25)).alloc (.cells #[.slice none 0 0, .slice none 0 0] 71)).alloc (.cells #[.int .i64 0] 3)).alloc (.cells #[.int .i64 0] 3)) #[.int .i64 0] 49
  simp only [size_alloc] at e1 e2 e3 e4
  exact ⟨((((Bl.new w cs 25).alloc _).alloc _).alloc _).alloc _, ((e1.alloc _).alloc _).alloc _, (e2.alloc _).alloc _, e3.alloc _, e4, (((((Out.refl 0 0 w).alloc _).alloc _).alloc _).alloc _).alloc _⟩
/-- the blocks of a Check's own, and the act's defer -/
def CkB (w : World) (b : Nat) (cs : Array Value) : Prop := Bl w b cs 25 ∧ Bl w (b + 1) #[.slice none 0 0, .slice none 0 0] 71 ∧ Bl w (b + 1 + 1) #[.int .i64 0] 3 ∧ Bl w (b + 1 + 1 + 1) #[.int .i64 0] 3 ∧ Bl w (b + 1 + 1 + 1 + 1) #[.int .i64 0] 49
theorem CkB.kept {w w' : World} {b : Nat} {cs : Array Value} (h : CkB w b cs) (o : Out 0 0 w w') : CkB w' b cs := ⟨h.1.kept o (.inr (Nat.zero_le _)), h.2.1.kept o (.inr (Nat.zero_le _)), h.2.2.1.kept o (.inr (Nat.zero_le _)), h.2.2.2.1.kept o (.inr (Nat.zero_le _)), h.2.2.2.2.kept o (.inr (Nat.zero_le _))⟩
/-- how a Check ends behind a panic -/
theorem ck_stop {w wr : World} {b : Nat} {er : Int} {f i : Nat} {o : Sum (Int × Nat × Nat) (List Int × List (List Int))} {t : Array Value} {cs : Array Value} (hb : w.heap.size = b) (ho : Out 0 0 w wr) (h : CkB wr b cs) (he : o = .inl (er, f, i))
    (t2 : t.getD 2 undef = .pointer (some ⟨b + 1, 0, none⟩)) (t3 : t.getD 3 undef = .pointer (some ⟨b + 1 + 1, 0, none⟩)) (t4 : t.getD 4 undef = .pointer (some ⟨b + 1 + 1 + 1, 0, none⟩)) (t5 : t.getD 5 undef = .pointer (some ⟨b + 1 + 1 + 1 + 1, 0, none⟩)) :
    bodyPostD Tryd.prog Tryd.f30 (CkQ w o) (.panic [badP er f i]) { tmps := t, defers := [{ target := .fn (.func 52) #[.pointer (some ⟨b + 1 + 1, 0, none⟩), .pointer (some ⟨b + 1 + 1 + 1, 0, none⟩), .pointer (some ⟨b + 1 + 1 + 1 + 1, 0, none⟩)], args := #[] }] } wr := by
  subst he
  (try simp)
  refine leaves_cons (f := 52) (args := #[.pointer (some ⟨b + 1 + 1, 0, none⟩), .pointer (some ⟨b + 1 + 1 + 1, 0, none⟩), .pointer (some ⟨b + 1 + 1 + 1 + 1, 0, none⟩)]) (by simp) (by simp [go_sem]) ?_
  refine (catchK_stop h.2.2.1 h.2.2.2.1 h.2.2.2.2).mono ?_
  rintro e u' w9 ⟨rfl, rfl, f1, f2, f3, q9⟩
  refine leaves_ret (results_4 Tryd.results30 t2 t3 t4 t5 (load_ck (h.2.1.kept q9 (.inl (by omega)))) (load_int f1) (load_int f2) (load_err f3)) ⟨ho.past q9 (by omega), .inr ⟨er, f, i, rfl, rfl⟩⟩
/-- how it ends without one -/
theorem ck_done {w w3 : World} {b lo : Nat} {sa da : Option Addr} {sn sc dn dc : Nat} {S : List Int} {Ds : List (List Int)} {dgs : List Nat} {o : Sum (Int × Nat × Nat) (List Int × List (List Int))} {t cs : Array Value} (hb : w.heap.size = b) (ho : Out 0 0 w w3) (h : CkB w3 b cs) (hC : CkAt w3 lo (.slice sa sn sc) (.slice da dn dc) S Ds dgs) (hlo : b + 1 + 1 + 1 + 1 < lo) (he : o = .inr (S, Ds))
    (t2 : t.getD 2 undef = .pointer (some ⟨b + 1, 0, none⟩)) (t3 : t.getD 3 undef = .pointer (some ⟨b + 1 + 1, 0, none⟩)) (t4 : t.getD 4 undef = .pointer (some ⟨b + 1 + 1 + 1, 0, none⟩)) (t5 : t.getD 5 undef = .pointer (some ⟨b + 1 + 1 + 1 + 1, 0, none⟩)) :
    bodyPostD Tryd.prog Tryd.f30 (CkQ w o) .ret { tmps := t, defers := [{ target := .fn (.func 52) #[.pointer (some ⟨b + 1 + 1, 0, none⟩), .pointer (some ⟨b + 1 + 1 + 1, 0, none⟩), .pointer (some ⟨b + 1 + 1 + 1 + 1, 0, none⟩)], args := #[] }] }
      (((((w3.setCell ⟨b + 1, 0, none⟩ (.slice sa sn sc)).setCell ⟨b + 1, 1, none⟩ (.slice da dn dc)).setCell ⟨b + 1 + 1, 0, none⟩ (.int .i64 0)).setCell ⟨b + 1 + 1 + 1, 0, none⟩ (.int .i64 0)).setCell ⟨b + 1 + 1 + 1 + 1, 0, none⟩ (.int .i64 0)) := by
  subst he
  have k1 := (h.2.1.set 0 (.slice sa sn sc)).set 1 (.slice da dn dc)
  have k2 := (h.2.2.1.other (q := ⟨b + 1, 0, none⟩) (by show b + 1 ≠ b + 1 + 1; omega) (.slice sa sn sc)).other (q := ⟨b + 1, 1, none⟩) (by show b + 1 ≠ b + 1 + 1; omega) (.slice da dn dc)
  have k3 := (h.2.2.2.1.other (q := ⟨b + 1, 0, none⟩) (by show b + 1 ≠ b + 1 + 1 + 1; omega) (.slice sa sn sc)).other (q := ⟨b + 1, 1, none⟩) (by show b + 1 ≠ b + 1 + 1 + 1; omega) (.slice da dn dc)
  have k4 := (h.2.2.2.2.other (q := ⟨b + 1, 0, none⟩) (by show b + 1 ≠ b + 1 + 1 + 1 + 1; omega) (.slice sa sn sc)).other (q := ⟨b + 1, 1, none⟩) (by show b + 1 ≠ b + 1 + 1 + 1 + 1; omega) (.slice da dn dc)
  have x1 : Fx (fun z => z = b + 1) w3 ((w3.setCell ⟨b + 1, 0, none⟩ (.slice sa sn sc)).setCell ⟨b + 1, 1, none⟩ (.slice da dn dc)) := ((Fx.refl (fun z => z = b + 1) _).set (p := ⟨b + 1, 0, none⟩) (.inl rfl) _).set (p := ⟨b + 1, 1, none⟩) (.inl rfl) _
  obtain ⟨W, hW⟩ : ∃ W, (w3.setCell ⟨b + 1, 0, none⟩ (.slice sa sn sc)).setCell ⟨b + 1, 1, none⟩ (.slice da dn dc) = W := ⟨_, rfl⟩
  rw [hW] at k1 k2 k3 k4 x1 ⊢
  obtain ⟨s1, s2, s3, s4⟩ := set3 k2 k3 k4 0 0 0
  (try simp)
  refine leaves_cons (f := 52) (args := #[.pointer (some ⟨b + 1 + 1, 0, none⟩), .pointer (some ⟨b + 1 + 1 + 1, 0, none⟩), .pointer (some ⟨b + 1 + 1 + 1 + 1, 0, none⟩)]) (by simp) (by simp [go_sem]) ?_
  refine (catchK_idle s1 s2 s3).mono ?_
  rintro e u' w9 ⟨rfl, rfl, f1, f2, f3, q9⟩
  have q := s4.trans q9
  have hxq : Fx (fun z => b + 1 + 1 ≤ z ∧ z < b + 1 + 1 + 3) W w9 := ⟨q.1, q.2.1, q.2.2.1, q.size, fun z h1 h2 => q.block h1 (by omega)⟩
  refine leaves_ret (results_4 Tryd.results30 t2 t3 t4 t5 (load_ck (k1.kept q (.inl (by omega)))) (load_int f1) (load_int f2) (load_err f3)) ⟨?_, .inl ⟨S, Ds, _, _, dgs, rfl, rfl, ?_⟩⟩
  · exact out_lo ho (dg := b + 1) ((x1.wide fun z _ hz => by omega).trans (hxq.wide fun z _ hz => by omega)) (by omega)
  · exact ((hC.fx x1 (fun z h1 _ e => by omega)).fx hxq (fun z h1 _ e => by omega)).low (by omega)
theorem ch_main {x : Int} {ts : List (List Int)} {fs : List (Int × Int × Int × List (Int × Int))} {f0 : Int × Int × Int × List (Int × Int)} (h : okP (x, ts, fs)) (hf : fs[0]? = some f0) (hm : ¬ (f0.1 = 0 ∧ f0.2.2.1 = 0)) : chF x ts.length fs = .inl (70, 0, 0) := by
  cases fs with
  | nil => simp at hf
  | cons f l =>
    simp at hf
    subst hf
    have := h.2.2.2.2 f (List.mem_cons.2 (.inl rfl))
    unfold chF
    rw [if_pos]
    have h1 := this.1.1
    have h2 := this.2.2.1.1
    simp only [List.map_cons, List.headD_cons]
    omega
theorem ch_go {x : Int} {ts : List (List Int)} {fs : List (Int × Int × Int × List (Int × Int))} {f0 : Int × Int × Int × List (Int × Int)} (hf : fs[0]? = some f0) (hm : f0.1 = 0 ∧ f0.2.2.1 = 0) : chF x ts.length fs = match ptF x ts.length fs.length 0 fs with
    | some e => .inl e
    | none => gnF fs 0 [] [] fs := by
  cases fs with
  | nil => simp at hf
  | cons f l =>
    simp at hf
    subst hf
    unfold chF
    rw [if_neg (by simp only [List.map_cons, List.headD_cons]; omega)]
    rcases ptF x ts.length (f :: l).length 0 (f :: l) with _ | e <;> rfl
set_option maxRecDepth 100000 in
set_option maxHeartbeats 4000000 in
theorem check_any {w : World} {B : Nat} (hT : Ty w) (hB : B ≤ w.heap.size) (x : Int) (ts : List (List Int)) (fs : List (Int × Int × Int × List (Int × Int))) (ta fa : Option Addr) (nt tc nf fc : Nat) (hnt : ts.length = nt) (hnf : fs.length = nf) (hts : TxIn w B ta ts) (hfs : FnIn w B fa fs) (hM : ∀ f ∈ fs, MI f.2.2.2) :
    Calls Tryd.prog 30 #[.agg #[.int .i64 x, .slice ta nt tc, .slice fa nf fc]] w (CkQ w (ckV (x, ts, fs))) := by
  have hmf : ∀ (fn : Fn) (first cap : Array Value) (w : World), (Instr.makeFunc fn first cap).run Tryd.prog w = .ok (.func fn first cap) w := fun _ _ _ _ => rfl
  obtain ⟨b, hb⟩ : ∃ b, w.heap.size = b := ⟨_, rfl⟩
  obtain ⟨V, hV⟩ : ∃ V, ((((w.alloc (.cells #[.int .i64 x, .slice ta nt tc, .slice fa nf fc] 25)).alloc (.cells #[.slice none 0 0, .slice none 0 0] 71)).alloc (.cells #[.int .i64 0] 3)).alloc (.cells #[.int .i64 0] 3)).alloc (.cells #[.int .i64 0] 49) = V := ⟨_, rfl⟩
  obtain ⟨b0, b1, b2, b3, b4, oV⟩ := five_new hb hV
  have k0 := b0.cell (i := 0) rfl
  have k1 := b0.cell (i := 1) rfl
  have k2 := b0.cell (i := 2) rfl
  have HB : Hid (CkB V b #[.int .i64 x, .slice ta nt tc, .slice fa nf fc]) := hid_mk ⟨b0, b1, b2, b3, b4⟩
  have HO := hid_mk oV
  have HBZ := hid_mk hb
  have HWr := hid_mk (write_any (hT.out oV (.inr rfl)) (B := B) (Nat.le_trans hB oV.size) x ts fs ta fa nt tc nf fc hnt hnf (hts.kept (Lo.of_out oV) (Nat.le_refl _)) (hfs.kept (Lo.of_out oV) (Nat.le_refl _)) hM)
  have HH := hid_mk (And.intro hfs (And.intro hnf (And.intro hnt hB)))
  clear hT hB hnt hnf hts hfs hM b0 b1 b2 b3 b4 oV
  go_enter_defers Tryd.func30, Tryd.ntmps30
  go_wp2_with fail
  (try rw [hV])
  (try rw [hb])
  clear hV hb
  refine HWr.out.mono ?_
  rintro e w1 ⟨ra, K, cap, rfl, o1, -, -⟩
  have HO1 := hid_mk (HO.out.trans o1)
  have HB1 := hid_mk (CkB.kept HB.out o1)
  replace k0 := o1.cell k0 (.inr (Nat.zero_le _))
  replace k1 := o1.cell k1 (.inr (Nat.zero_le _))
  replace k2 := o1.cell k2 (.inr (Nat.zero_le _))
  clear o1 HWr HB HO
  by_cases hw : wrE (x, ts, fs) = 0
  · have hw2 : (wrE (x, ts, fs) == 0) = true := by simpa using hw
    have hok := (wr_zero hw).1
    have HE : Hid (ckV (x, ts, fs) = chF x ts.length fs) := hid_mk (by unfold ckV; rw [if_pos hw])
    rw [hw] at hw2 ⊢
    have HOK := hid_mk hok
    obtain ⟨f0, hf0⟩ : ∃ f0, fs[0]? = some f0 := ⟨_, List.getElem?_eq_getElem (by have := hok.2.2.2.1.1; simp only [] at this; omega)⟩
    obtain ⟨q, off, pj, cj, rfl, hq, c0, c1, c2, c3, c4⟩ := fn_cells (HH.out.1.kept (C := B) (Lo.of_out HO1.out) (Nat.le_refl _)) hf0
    have hnf0 : (0 : Int) < (nf : Int) := by have := HH.out.2.1; have := hok.2.2.2.1.1; simp only [] at this; omega
    have hnf1 : 0 < nf := by omega
    simp only [Nat.zero_mul, Nat.add_zero] at c0 c1 c2 c3
    clear hw hq c1 c3 c4 hok
    by_cases hm : f0.1 = 0 ∧ f0.2.2.1 = 0
    · have m1 : (f0.1 == 0) = true := by simpa using hm.1
      have m2 : (f0.2.2.1 == 0) = true := by simpa using hm.2
      have HE2 := hid_mk (HE.out.trans (ch_go hf0 hm))
      clear hm hf0
      go_wp2_with (first | (go_at_call 54; refine calls_same (cwant_yes _ _ _ _) ?_) | (go_at_call 55; refine (functions_any (B := B) x ta nt tc (some ⟨q, off, none⟩) nf fc (HH.out.1.kept (C := B) (Lo.of_out HO1.out) (Nat.le_refl _)) HH.out.2.1 (Nat.le_trans HH.out.2.2.2 HO1.out.size) (by have := HOK.out.2.2.2.1.2; have := HH.out.2.1; simp only [] at *; omega)).mono ?_; rintro e w2 ⟨ra2, rc2, xs, rfl, hown, hFL, o2⟩; have HOw := hid_mk (And.intro hown hFL); have HO2 := hid_mk (HO1.out.trans o2); have HB2 := hid_mk (CkB.kept HB1.out o2); clear hown hFL o2 k0 k1 k2 c0 c2))
      clear m1 m2 hw2 hnf0
      go_loopw [39] (fun c wr => ∃ m : Nat, c = .int .i64 m ∧ m ≤ nf ∧ ptF x ts.length fs.length m (fs.drop m) = ptF x ts.length fs.length 0 fs ∧ CkB wr b #[.int .i64 x, .slice ta nt tc, .slice (some ⟨q, off, none⟩) nf fc] ∧ Out 0 0 w2 wr) (fun c _ => nf - (intOf c).toNat)
      case atStart => exact ⟨0, rfl, Nat.zero_le _, rfl, HB2.out, Out.refl _ _ _⟩
      case round =>
        obtain ⟨m, rfl, hm, hp, hB, ho⟩ := hrel
        have HP := hid_mk hp
        have HBr := hid_mk hB
        have HOr := hid_mk ho
        by_cases hgo : m < nf
        · obtain ⟨l1, l2⟩ := lt_dec hgo
          obtain ⟨hfs, hnf, hnt, hBs⟩ := HH.out
          obtain ⟨f, hf⟩ : ∃ f, fs[m]? = some f := ⟨_, List.getElem?_eq_getElem (by omega)⟩
          obtain ⟨qf, pj, cj, rfl, hq, hin, hcl⟩ := fl_cells x ta nt tc (some ⟨q, off, none⟩) nf fc (own_fx (S := fun _ => False) HOw.out.1 (Fx.of_out ho) (fun _ _ z => z)) (HOw.out.2.kept (Lo.of_out ho)) hgo hf
          have hfo := HOK.out.2.2.2.2 f (List.mem_of_getElem? hf)
          have j0 := hcl 0 _ rfl
          have j1 := hcl 1 _ rfl
          have j2 := hcl 2 _ rfl
          have j3 := hcl 3 _ rfl
          have j4 := hcl 4 _ rfl
          have j5 := hcl 5 _ rfl
          have j6 := hcl 6 _ rfl
          have j7 := hcl 7 _ rfl
          simp only [Nat.zero_add, Nat.add_zero] at j0 j1 j2 j3 j4 j5 j6 j7
          have hmi : (m : Int) < (nf : Int) := by omega
          obtain ⟨G, hG⟩ : ∃ G, wr.heap.size = G := ⟨_, rfl⟩
          obtain ⟨V2, hV2⟩ : ∃ V2, wr.alloc (.cells #[.int .i64 f.1, .int .i64 f.2.1, .int .i64 f.2.2.1, .slice pj f.2.2.2.length cj, .int .i64 m, .int .i64 x, .slice ta nt tc, .slice (some ⟨q, off, none⟩) nf fc] 104) = V2 := ⟨_, rfl⟩
          have oV : Out 0 0 wr V2 := by rw [← hV2]; exact (Out.refl 0 0 wr).alloc _
          have bI : Bl V2 G #[.int .i64 f.1, .int .i64 f.2.1, .int .i64 f.2.2.1, .slice pj f.2.2.2.length cj, .int .i64 m, .int .i64 x, .slice ta nt tc, .slice (some ⟨q, off, none⟩) nf fc] 104 := by rw [← hV2, ← hG]; exact Bl.new _ _ _
          have y0 := bI.cell (i := 0) rfl
          have y1 := bI.cell (i := 1) rfl
          have y2 := bI.cell (i := 2) rfl
          have y3 := bI.cell (i := 3) rfl
          have y4 := bI.cell (i := 4) rfl
          have y5 := bI.cell (i := 5) rfl
          have y6 := bI.cell (i := 6) rfl
          have y7 := bI.cell (i := 7) rfl
          have HPa := hid_mk (parts_any (w := V2) f.1 f.2.1 f.2.2.1 pj f.2.2.2.length cj (m : Int) x ta nt tc (some ⟨q, off, none⟩) nf fc (hin.kept (Lo.of_out oV) (Nat.le_refl _)) rfl hfo.2.2.2.1 (Nat.le_trans hBs ((HO2.out.trans ho).trans oV).size) hfo.2.2.2.2)
          have HOV := hid_mk (ho.trans oV)
          have HBV := hid_mk (hB.kept oV)
          have HF := hid_mk (And.intro hf (And.intro hgo (And.intro hnf hnt)))
          clear hp hB ho hgo hfs hnf hnt hBs hin hcl hfo oV bI hf hq HBr HOr hm
          go_wp2_with fail
          (try rw [hV2])
          (try rw [hG])
          refine HPa.out.mono ?_
          clear hV2 hG
          rintro e w3 ⟨o3, ⟨z1, rfl⟩ | ⟨er, i, z1, rfl⟩⟩
          · have HE3 : Hid (ptF x ts.length fs.length (m + 1) (fs.drop (m + 1)) = ptF x ts.length fs.length 0 fs) := hid_mk (by
              rw [← HP.out, drop_at HF.out.1, pt_go (by rw [HF.out.2.2.1, HF.out.2.2.2]; exact z1)])
            have HO3 := hid_mk (HOV.out.trans o3)
            have HB3 := hid_mk (CkB.kept HBV.out o3)
            clear z1 o3 j0 j1 j2 j3 j4 j5 j6 j7 y0 y1 y2 y3 y4 y5 y6 y7
            go_wp2
            have h64 : nf ≤ 1000000 := by have := HOK.out.2.2.2.1.2; have := HF.out.2.2.1; simp only [] at *; omega
            exact ⟨⟨m + 1, up_v HF.out.2.1 h64, HF.out.2.1, HE3.out, HB3.out, HO3.out⟩, by rw [up_w HF.out.2.1 h64]; exact ms_n HF.out.2.1⟩
          · have HE3 : Hid (ckV (x, ts, fs) = .inl (er, m, i)) := hid_mk (by
              have : ptF x ts.length fs.length 0 fs = some (er, m, i) := by
                rw [← HP.out, drop_at HF.out.1, pt_er (by rw [HF.out.2.2.1, HF.out.2.2.2]; exact z1)]
              have h2 := HE2.out
              rw [this] at h2
              exact h2)
            exact ck_stop HBZ.out (HO2.out.trans (HOV.out.trans o3)) (CkB.kept HBV.out o3) HE3.out rfl rfl rfl rfl
        · obtain rfl : m = nf := by omega
          have l1 : decide ((m : Int) < (m : Int)) = false := by simp
          have hpn : ptF x ts.length fs.length 0 fs = none := by rw [← hp, List.drop_of_length_le (by have := HH.out.2.1; omega)]; rfl
          have HE3 : Hid (ckV (x, ts, fs) = gnF fs 0 [] [] fs) := hid_mk (by
            have h2 := HE2.out
            rw [hpn] at h2
            exact h2)
          have HGn := hid_mk (gone_any (w := wr) x ta nt tc (some ⟨q, off, none⟩) m fc (own_fx (S := fun _ => False) HOw.out.1 (Fx.of_out ho) (fun _ _ z => z)) (HOw.out.2.kept (Lo.of_out ho)) (HH.out.1.kept (Lo.of_out (HO2.out.trans ho)) (Nat.le_refl _)) HH.out.2.1 (Nat.le_trans HH.out.2.2.2 (HO2.out.trans ho).size) (by have := HOK.out.2.2.2.1.2; have := HH.out.2.1; simp only [] at *; omega) (by have := ok_fs HOK.out hpn; rwa [HH.out.2.1] at this))
          clear hgo hp hB ho hpn
          go_wp2_with fail
          refine HGn.out.mono ?_
          rintro e w3 ⟨o3, ⟨S, Ds, sv, dv, dgs, z1, rfl, z2⟩ | ⟨er, f, i, z1, rfl⟩⟩
          · obtain ⟨sa, sn, sc, rfl⟩ := own_sl z2.1
            obtain ⟨da, dn, dc, rfl⟩ := own_sl z2.2.1
            have HC3 := hid_mk z2
            have HZ := hid_mk (HE3.out.trans z1)
            have HO3 := hid_mk (HO2.out.trans (HOr.out.trans o3))
            have hB3 := CkB.kept HBr.out o3
            have HB3 := hid_mk hB3
            have HWS : Hid (b + 1 + 1 + 1 + 1 < wr.heap.size) := hid_mk HBr.out.2.2.2.2.lt
            have p0 := hB3.2.1.cell (i := 0) rfl
            have p1 := hB3.2.1.cell (i := 1) rfl
            have p2 := hB3.2.2.1.cell (i := 0) rfl
            have p3 := hB3.2.2.2.1.cell (i := 0) rfl
            have p4 := hB3.2.2.2.2.cell (i := 0) rfl
            have r0 := hB3.2.1.frozen 0
            have r1 := hB3.2.1.frozen 1
            have r2 := hB3.2.2.1.frozen 0
            have r3 := hB3.2.2.2.1.frozen 0
            have r4 := hB3.2.2.2.2.frozen 0
            clear z1 z2 o3 hB3
            go_wp2
            exact ck_done HBZ.out HO3.out HB3.out HC3.out (by have := HWS.out; omega) HZ.out rfl rfl rfl rfl
          · exact ck_stop HBZ.out (HO2.out.trans (HOr.out.trans o3)) (CkB.kept HBr.out o3) (HE3.out.trans z1) rfl rfl rfl rfl
    · have HE2 : Hid (ckV (x, ts, fs) = .inl (70, 0, 0)) := hid_mk (by
        rw [HE.out]
        exact ch_main HOK.out hf0 hm)
      have tok : True := trivial
      have m3 : ((f0.1 == 0) && (f0.2.2.1 == 0)) = false := by
        by_cases h1 : f0.1 = 0 <;> by_cases h2 : f0.2.2.1 = 0 <;> simp [h1, h2] <;> exact hm ⟨h1, h2⟩
      clear hm hf0
      rcases hy1 : (f0.1 == 0) with _ | _
      · go_wp2_with (first | (have _t := tok; go_at_call 54; refine calls_same (cwant_yes _ _ _ _) ?_; clear tok) | (go_at_call 54; refine calls_stop (cwant_no _ _ _ _) ?_))
        exact ck_stop (f := 0) (i := 0) HBZ.out HO1.out HB1.out HE2.out rfl rfl rfl rfl
      · have hy2 : (f0.2.2.1 == 0) = false := by rw [hy1] at m3; simpa using m3
        go_wp2_with (first | (have _t := tok; go_at_call 54; refine calls_same (cwant_yes _ _ _ _) ?_; clear tok) | (go_at_call 54; refine calls_stop (cwant_no _ _ _ _) ?_))
        exact ck_stop (f := 0) (i := 0) HBZ.out HO1.out HB1.out HE2.out rfl rfl rfl rfl
  · have hw2 : (wrE (x, ts, fs) == 0) = false := by simpa using hw
    have HE : Hid (ckV (x, ts, fs) = .inl (62, 0, 0)) := hid_mk (by unfold ckV; rw [if_neg hw])
    clear hw
    go_wp2_with (go_at_call 54; refine calls_stop (cwant_no _ _ _ _) ?_)
    exact ck_stop (f := 0) (i := 0) HBZ.out HO1.out HB1.out HE.out rfl rfl rfl rfl
end Go.Proofs.YtkghabmgofgclaaDoor
