import Derived.Test.YtapjfokkcgdhhaaDoorQbe
namespace Go.Proofs.YtapjfokkcgdhhaaDoor
open Go.RowKit
set_option linter.unusedVariables false
set_option linter.unusedSimpArgs false

/-- what Write answers -/
def RWQ (w : World) (P : Int × List (List Int) × List (Int × Int × Int × List (Int × Int))) (e : Ending) (w' : World) : Prop := ∃ a K c, e = .returned (.tuple #[.slice a K c, .int .i64 (wrE P)]) ∧ BO w' w.heap.size a K c (wrB P) ∧ Out 0 0 w w'
theorem RWQ.form {w w' : World} {P : Int × List (List Int) × List (Int × Int × Int × List (Int × Int))} (h : ¬ okP P) (o : Out 0 0 w w') : RWQ w P (.returned (.tuple #[.slice none 0 0, .int .i64 62])) w' := ⟨none, 0, 0, by rw [(wr_form h).1], by rw [(wr_form h).2]; exact BO.nil _ _, o⟩
theorem RWQ.long {w w' : World} {P : Int × List (List Int) × List (Int × Int × Int × List (Int × Int))} (h : okP P) (h2 : 65536 < (encP P).length) (o : Out 0 0 w w') : RWQ w P (.returned (.tuple #[.slice none 0 0, .int .i64 2])) w' := ⟨none, 0, 0, by rw [(wr_long h h2).1], by rw [(wr_long h h2).2]; exact BO.nil _ _, o⟩
theorem RWQ.yes {w w' : World} {P : Int × List (List Int) × List (Int × Int × Int × List (Int × Int))} {a : Option Addr} {K c : Nat} (h : okP P) (hb : BO w' w.heap.size a K c (encP P)) (h2 : ¬ 65536 < (encP P).length) (o : Out 0 0 w w') : RWQ w P (.returned (.tuple #[.slice a K c, .int .i64 0])) w' := ⟨a, K, c, by rw [(wr_ok h (by omega)).1], by rw [(wr_ok h (by omega)).2]; exact hb, o⟩
theorem fm_app {α β : Type} {l : List α} {k : Nat} {x : α} {g : α → List β} (h : l[k]? = some x) : (l.take (k + 1)).flatMap g = (l.take k).flatMap g ++ g x := by
  rw [List.take_add_one, h]; simp
theorem fm_all {α β : Type} {l : List α} {n : Nat} {g : α → List β} (hn : l.length = n) : (l.take n).flatMap g = l.flatMap g := by rw [← hn, List.take_length]
/-- how much may lie there -/
theorem enc_i {y : Int × Int} (h : okI y) : (encI y).length ≤ 11 := by
  obtain ⟨op, a⟩ := y
  unfold encI opB
  rw [List.length_cons]
  simp only []
  rcases ro_k h with ⟨_, e, h1⟩ | ⟨_, e, h1⟩ | ⟨_, e, h1⟩ | ⟨_, e⟩
  · rw [if_pos e]; have := numB_len (k := 9) (n := a.toNat) (by omega); omega
  · rw [if_neg (by rw [e]; decide), if_pos e]; have := numB_len (k := 9) (n := zig a) (by have := zig_big h1; omega); omega
  · rw [if_neg (by rw [e]; decide), if_neg (by rw [e]; decide), if_pos e, le8_len]; omega
  · rw [if_neg (by rw [e]; decide), if_neg (by rw [e]; decide), if_neg (by rw [e]; decide)]; simp
theorem fm_le {α β : Type} {g : α → List β} {c : Nat} : ∀ {l : List α}, (∀ x ∈ l, (g x).length ≤ c) → (l.flatMap g).length ≤ l.length * c
  | [], _ => by simp
  | x :: l, h => by
    have h1 := h x (by simp)
    have h2 := fm_le (l := l) fun y hy => h y (by simp [hy])
    rw [List.flatMap_cons, List.length_append, List.length_cons, Nat.succ_mul]
    omega
end Go.Proofs.YtapjfokkcgdhhaaDoor
namespace Go.Proofs.YtapjfokkcgdhhaaDoor
open Go.RowKit
set_option linter.unusedVariables false
set_option linter.unusedSimpArgs false

theorem enc_t {t : List Int} (h : okT t) : (encT t).length ≤ 4106 := by
  unfold okT at h
  have := numB_len (k := 9) (n := t.length) (by omega)
  unfold encT
  rw [List.length_append]
  omega
theorem ts_le {ts : List (List Int)} (h1 : ts.length ≤ 64) (h : ∀ t ∈ ts, okT t) (i : Nat) : ((ts.take i).flatMap encT).length ≤ 300000 := by
  have h2 := fm_le (c := 4106) (g := encT) (l := ts.take i) fun t ht => enc_t (h t (List.mem_of_mem_take ht))
  have h3 : (ts.take i).length ≤ 64 := by rw [List.length_take]; omega
  have h4 : (ts.take i).length * 4106 ≤ 64 * 4106 := Nat.mul_le_mul_right _ h3
  omega
theorem cd_le {cd : List (Int × Int)} (h1 : cd.length ≤ 4096) (h : ∀ y ∈ cd, okI y) (j : Nat) : ((cd.take j).flatMap encI).length ≤ 45056 := by
  have h2 := fm_le (c := 11) (g := encI) (l := cd.take j) fun t ht => enc_i (h t (List.mem_of_mem_take ht))
  have h3 : (cd.take j).length ≤ 4096 := by rw [List.length_take]; omega
  have h4 : (cd.take j).length * 11 ≤ 4096 * 11 := Nat.mul_le_mul_right _ h3
  omega
theorem nb {n : Nat} (h : n ≤ 9223372036854775807) : (numB n).length ≤ 10 := numB_len (k := 9) (by omega)
theorem enc_f {f : Int × Int × Int × List (Int × Int)} (h : okF f) : (encF f).length ≤ 45100 := by
  obtain ⟨h1, h2, h3, h4, h5⟩ := h
  have a1 := nb (n := f.1.toNat) (by omega)
  have a2 := nb (n := f.2.1.toNat) (by omega)
  have a3 := nb (n := f.2.2.1.toNat) (by omega)
  have a4 := nb (n := f.2.2.2.length) (by omega)
  have a5 := cd_le h4 h5 f.2.2.2.length
  rw [List.take_length] at a5
  unfold encF
  simp only [List.length_append]
  omega
theorem fs_le {fs : List (Int × Int × Int × List (Int × Int))} (h1 : fs.length ≤ 64) (h : ∀ f ∈ fs, okF f) (i : Nat) : ((fs.take i).flatMap encF).length ≤ 3000000 := by
  have h2 := fm_le (c := 45100) (g := encF) (l := fs.take i) fun t ht => enc_f (h t (List.mem_of_mem_take ht))
  have h3 : (fs.take i).length ≤ 64 := by rw [List.length_take]; omega
  have h4 : (fs.take i).length * 45100 ≤ 64 * 45100 := Nat.mul_le_mul_right _ h3
  omega
theorem encF_is (P L C : Int) (cd : List (Int × Int)) : encF (P, L, C, cd) = numB P.toNat ++ (numB L.toNat ++ (numB C.toNat ++ (numB cd.length ++ cd.flatMap encI))) := rfl
/-- what lies there ahead of the texts, behind them -/
def hdT (x : Int) (nt : Nat) : List Int := [104, 116, 104, 1] ++ numB x.toNat ++ numB nt
def hdF (x : Int) (ts : List (List Int)) (nt nf : Nat) : List Int := hdT x nt ++ ts.flatMap encT ++ numB nf
theorem hdT_len {x : Int} {nt : Nat} (hx : 0 ≤ x ∧ x ≤ 64) (hn : nt ≤ 64) : (hdT x nt).length ≤ 24 := by
  have a1 := nb (n := x.toNat) (by omega)
  have a2 := nb (n := nt) (by omega)
  unfold hdT
  simp only [List.length_append, List.length_cons, List.length_nil]
  omega
theorem hdF_len {x : Int} {ts : List (List Int)} {nt nf : Nat} (hx : 0 ≤ x ∧ x ≤ 64) (hn : nt ≤ 64) (hf : nf ≤ 64) (hl : ts.length = nt) (h : ∀ t ∈ ts, okT t) : (hdF x ts nt nf).length ≤ 300034 + 24 := by
  have a1 := hdT_len hx hn
  have a2 := nb (n := nf) (by omega)
  have a3 := ts_le (by omega) h nt
  rw [fm_all hl] at a3
  unfold hdF
  simp only [List.length_append]
  omega
theorem enc_is (x : Int) (ts : List (List Int)) (fs : List (Int × Int × Int × List (Int × Int))) : hdF x ts ts.length fs.length ++ fs.flatMap encF = encP (x, ts, fs) := by
  unfold hdF hdT encP
  simp only [List.append_assoc]
theorem bo_new {w : World} {g base : Nat} (h : Bl w g #[.int .u8 104, .int .u8 116, .int .u8 104, .int .u8 1] 5) (hb : base ≤ g) : BO w base (some ⟨g, 0, none⟩) 4 4 [104, 116, 104, 1] := ⟨rfl, rfl, .inr ⟨g, 4, _, rfl, hb, h, Nat.le_refl _, by unfold maxLen; decide, rfl, rfl⟩⟩
/-- the state between: the program's box, the bytes -/
def WS (w : World) (b : Nat) (PCs : Array Value) (wr : World) (a : Option Addr) (K c : Nat) (bs : List Int) : Prop := BO wr (b + 1) a K c bs ∧ Bl wr b PCs 35 ∧ Out 0 0 w wr ∧ w.heap.size = b
theorem WS.step {w wr w2 : World} {b : Nat} {PCs : Array Value} {a a' : Option Addr} {K c K' c' : Nat} {bs bs' : List Int} (h : WS w b PCs wr a K c bs) (h1 : BO w2 (b + 1) a' K' c' bs') (h2 : RS wr (ob a K c) w2 (ob a' K' c')) : WS w b PCs w2 a' K' c' bs' := by
  obtain ⟨q1, q2, q3, q4⟩ := h
  exact ⟨h1, q2.fx h2.1 (fun e => by have := (q1.ge b e).1; omega), h2.out q3 (fun k hk => by have := (q1.ge k hk).1; omega), q4⟩
theorem WS.quiet {w wr w2 : World} {b : Nat} {PCs : Array Value} {a : Option Addr} {K c : Nat} {bs : List Int} (h : WS w b PCs wr a K c bs) (o : Out 0 0 wr w2) : WS w b PCs w2 a K c bs := ⟨h.1.kept o, h.2.1.kept o (.inr (Nat.zero_le _)), h.2.2.1.trans o, h.2.2.2⟩
theorem WS.sz {w wr : World} {b : Nat} {PCs : Array Value} {a : Option Addr} {K c : Nat} {bs : List Int} (h : WS w b PCs wr a K c bs) : b + 1 ≤ wr.heap.size := h.2.1.lt
theorem WS.K {w wr : World} {b : Nat} {PCs : Array Value} {a : Option Addr} {K c : Nat} {bs : List Int} (h : WS w b PCs wr a K c bs) : K = bs.length := h.1.1.symm
/-- .. and a function's box beside it -/
def GS (w : World) (b : Nat) (PCs : Array Value) (gf : Nat) (cs : Array Value) (y : World) (a : Option Addr) (K c : Nat) (bs : List Int) : Prop := WS w b PCs y a K c bs ∧ Bl y gf cs 40 ∧ ob a K c ≠ some gf
theorem GS.step {w y y2 : World} {b gf : Nat} {PCs cs : Array Value} {a a' : Option Addr} {K c K' c' : Nat} {bs bs' : List Int} (h : GS w b PCs gf cs y a K c bs) (h1 : BO y2 (b + 1) a' K' c' bs') (h2 : RS y (ob a K c) y2 (ob a' K' c')) : GS w b PCs gf cs y2 a' K' c' bs' := by
  refine ⟨h.1.step h1 h2, h.2.1.fx h2.1 h.2.2, ?_⟩
  rcases h2.2 with e | ⟨g, e, hg⟩
  · rw [e]; exact h.2.2
  · rw [e]; intro q; cases q; have := h.2.1.lt; omega
theorem GS.quiet {w y y2 : World} {b gf : Nat} {PCs cs : Array Value} {a : Option Addr} {K c : Nat} {bs : List Int} (h : GS w b PCs gf cs y a K c bs) (o : Out 0 0 y y2) : GS w b PCs gf cs y2 a K c bs := ⟨h.1.quiet o, h.2.1.kept o (.inr (Nat.zero_le _)), h.2.2⟩
theorem bo_up {w : World} {base K K' c n : Nat} {a : Option Addr} {bs : List Int} (h : BO w base a K' c (bs ++ numB n)) (hb : bs.length = K) (hn : n ≤ 9223372036854775807) : K' ≤ K + 10 := by
  have h1 := h.1
  have := nb hn
  rw [List.length_append] at h1
  omega
set_option maxRecDepth 100000 in
set_option maxHeartbeats 8000000 in
theorem rwrite_any {w : World} (x : Int) (ts : List (List Int)) (fs : List (Int × Int × Int × List (Int × Int))) (ta fa : Option Addr) (nt tc nf fc : Nat) (hnt : ts.length = nt) (hnf : fs.length = nf) (hts : TxIn w w.heap.size ta ts) (hfs : FnIn w w.heap.size fa fs) (hM : ∀ f ∈ fs, MI f.2.2.2) (h1 : Li nt) (h2 : Li nf) (h3 : ∀ t ∈ ts, Li t.length) (h4 : ∀ f ∈ fs, Li f.2.2.2.length) :
    Calls Tryd.prog 20 #[.agg #[.int .i64 x, .slice ta nt tc, .slice fa nf fc]] w fun e w' => RWQ w (x, ts, fs) e w' := by
  obtain ⟨V, hV⟩ : ∃ V, w.alloc (.cells #[.int .i64 x, .slice ta nt tc, .slice fa nf fc] 35) = V := ⟨_, rfl⟩
  obtain ⟨b, hb⟩ : ∃ b, w.heap.size = b := ⟨_, rfl⟩
  have oV : Out 0 0 w V := by rw [← hV]; exact (Out.refl 0 0 w).alloc _
  have b0 : Bl V b #[.int .i64 x, .slice ta nt tc, .slice fa nf fc] 35 := by rw [← hV, ← hb]; exact Bl.new _ _ _
  have k0 := b0.cell (i := 0) rfl
  have k1 := b0.cell (i := 1) rfl
  have k2 := b0.cell (i := 2) rfl
  have HB0 := hid_mk b0
  have HO := hid_mk oV
  have low : ∀ {W : World} {B C : Nat}, TxIn W B ta ts → B ≤ C → TxIn W C ta ts := fun {W B C} h hx => by
    rcases h with h | ⟨g, off, z1, z2, z3⟩
    · exact .inl h
    · refine .inr ⟨g, off, z1, by omega, fun j t hj => ?_⟩
      obtain ⟨pj, cj, y1, y2, y3⟩ := z3 j t hj
      refine ⟨pj, cj, y1, y2, ?_⟩
      rcases y3 with y3 | ⟨g', o', d1, d2, d3⟩
      · exact .inl y3
      · exact .inr ⟨g', o', d1, by omega, d3⟩
  have low2 : ∀ {W : World} {B C : Nat}, FnIn W B fa fs → B ≤ C → FnIn W C fa fs := fun {W B C} h hx => by
    rcases h with h | ⟨g, off, z1, z2, z3⟩
    · exact .inl h
    · refine .inr ⟨g, off, z1, by omega, fun j f hj => ?_⟩
      obtain ⟨pj, cj, y1, y2, y3, y4, y5⟩ := z3 j f hj
      refine ⟨pj, cj, y1, y2, y3, y4, ?_⟩
      rcases y5 with y5 | ⟨g', o', d1, d2, d3⟩
      · exact .inl y5
      · exact .inr ⟨g', o', d1, by omega, d3⟩
  have HCW := hid_mk (rcan_any (w := V) x ts fs ta fa nt tc nf fc hnt hnf (low (hts.kept (Lo.of_out oV) (Nat.le_refl _)) oV.size) (low2 (hfs.kept (Lo.of_out oV) (Nat.le_refl _)) oV.size) hM h1 h2 h3 h4)
  have HH := hid_mk (And.intro hts (And.intro hfs (And.intro hnt (And.intro hnf hb))))
  have HL := hid_mk (And.intro h1 (And.intro h2 (And.intro h3 h4)))
  clear low low2 hts hfs hM h1 h2 h3 h4 b0 oV
  go_enter Tryd.func20, Tryd.ntmps20
  go_wp2_with fail
  (try rw [hV])
  (try rw [hb])
  clear hV hb
  refine HCW.out.mono ?_
  rintro e w1 ⟨bb, rfl, hbb, o1⟩
  cases bb
  · have hno : ¬ okP (x, ts, fs) := fun q => by cases hbb.2 q
    have HNo := hid_mk hno
    have HO1 := hid_mk (HO.out.trans o1)
    clear hbb o1 HCW k0 k1 k2 hno
    go_wp2
    go_ret2
    exact RWQ.form HNo.out HO1.out
  · have hok := hbb.1 rfl
    have HOK := hid_mk hok
    have HO1 := hid_mk (HO.out.trans o1)
    have hB1 := HB0.out.kept o1 (.inr (Nat.zero_le _))
    replace k0 := hB1.cell (i := 0) rfl
    replace k1 := hB1.cell (i := 1) rfl
    replace k2 := hB1.cell (i := 2) rfl
    have HB1 := hid_mk hB1
    have hblt : b < w1.heap.size := hB1.lt
    have hx := hok.1
    have HX : Hid (0 ≤ x ∧ x ≤ 64) := hid_mk hx
    have HNT : Hid (nt ≤ 64 ∧ 1 ≤ nf ∧ nf ≤ 64) := hid_mk (by have := hok.2.1; have := hok.2.2.2.1; have := HH.out; simp only [] at *; omega)
    have HWS : Hid (WS w b #[.int .i64 x, .slice ta nt tc, .slice fa nf fc] (w1.alloc (.cells #[.int .u8 104, .int .u8 116, .int .u8 104, .int .u8 1] 5)) (some ⟨w1.heap.size, 0, none⟩) 4 4 [104, 116, 104, 1]) := hid_mk ⟨bo_new (Bl.new _ _ _) hB1.lt, hB1.alloc _, HO1.out.alloc _, HH.out.2.2.2.2⟩
    have HTS : Hid (∀ t ∈ ts, okT t) := hid_mk hok.2.2.1
    have HFS : Hid (∀ f ∈ fs, okF f) := hid_mk hok.2.2.2.2
    clear hbb o1 HCW hok hB1 hx
    go_wp2_with fail
    refine (rnumber_at (v := x) HWS.out.1 HWS.out.sz x.toNat (by have := HX.out; omega) (by omega) (by have := HX.out; omega)).mono ?_
    rintro e w2 ⟨a2, K2, c2, rfl, q1, q2⟩
    have HW2 := hid_mk (HWS.out.step q1 q2)
    clear q1 q2 HWS k0 k1 k2 hblt
    have k1 := HW2.out.2.1.cell (i := 1) rfl
    go_wp2_with fail
    refine (rnumber_at HW2.out.1 HW2.out.sz nt (by have := HNT.out; omega) (by have := HW2.out.K; have := nb (n := x.toNat) (by have := HX.out; omega); rw [List.length_append] at *; simp only [List.length_cons, List.length_nil] at *; omega) rfl).mono ?_
    rintro e w3 ⟨a3, K3, c3, rfl, q1, q2⟩
    have HW3 : Hid (WS w b #[.int .i64 x, .slice ta nt tc, .slice fa nf fc] w3 a3 K3 c3 (hdT x nt)) := hid_mk (HW2.out.step q1 q2)
    clear q1 q2 k1
    go_wp2_with fail
    go_loopw [4, 5] (fun bv iv wr => ∃ (i : Nat) (a : Option Addr) (K c : Nat), iv = .int .i64 i ∧ i ≤ nt ∧ bv = .slice a K c ∧ WS w b #[.int .i64 x, .slice ta nt tc, .slice fa nf fc] wr a K c (hdT x nt ++ (ts.take i).flatMap encT)) (fun _ iv _ => nt - (intOf iv).toNat)
    case atStart => exact ⟨0, a3, K3, c3, rfl, Nat.zero_le _, rfl, by simpa using HW3.out⟩
    case round =>
      obtain ⟨i, a4, K4, c4, rfl, hi, rfl, hws⟩ := hrel
      have HW4 := hid_mk hws
      have k1 := hws.2.1.cell (i := 1) rfl
      have HK4 : Hid (K4 ≤ 400000) := hid_mk (by
        have h := hws.K
        rw [List.length_append] at h
        have := hdT_len HX.out HNT.out.1
        have := ts_le (by have := HNT.out; have := HH.out; omega) HTS.out i
        omega)
      by_cases hgo : i < nt
      · obtain ⟨l1, l2, l3⟩ := i_lt hgo
        obtain ⟨t, ht⟩ : ∃ t, ts[i]? = some t := ⟨_, List.getElem?_eq_getElem (by have := HH.out.2.2.1; omega)⟩
        obtain ⟨q, off, pj, cj, rfl, y1, y2⟩ := tx_cell (HH.out.1.kept (Lo.of_out hws.2.2.1) (Nat.le_refl _)) ht
        obtain ⟨n, hn⟩ : ∃ n, t.length = n := ⟨_, rfl⟩
        rw [hn] at y1
        have hn4 : n ≤ 4096 := by have := HTS.out t (List.mem_of_getElem? ht); unfold okT at this; omega
        have HI := hid_mk (And.intro hgo (And.intro ht (And.intro hn hn4)))
        have HY := hid_mk y2.bytes
        have HYC := hid_mk y1
        clear hgo hi ht hn hws y2 hn4
        go_wp2_with fail
        refine (rnumber_at HW4.out.1 HW4.out.sz n (by have := HI.out; omega) (by have := HK4.out; omega) rfl).mono ?_
        rintro e w5 ⟨a5, K5, c5, rfl, q1, q2⟩
        have hw5 := HW4.out.step q1 q2
        have HW5 := hid_mk hw5
        have hlo : Lo w.heap.size wr w5 := q2.1.wide fun k _ hk => by have := (HW4.out.1.ge k hk).1; have := HH.out.2.2.2.2; omega
        have k1' := hw5.2.1.cell (i := 1) rfl
        obtain ⟨q', off', pj', cj', e', z1, z2⟩ := tx_cell (HH.out.1.kept (Lo.of_out hw5.2.2.1) (Nat.le_refl _)) HI.out.2.1
        cases e'
        rw [HI.out.2.2.1] at z1
        have HZ2 := hid_mk z2.bytes
        have HK5 : Hid (K5 ≤ 400020) := hid_mk (by
          have h := hw5.K
          rw [List.length_append] at h
          have := nb (n := n) (by have := HI.out; omega)
          have := HW4.out.K
          have := HK4.out
          omega)
        clear q1 q2 hw5 hlo k1 y1 z2
        go_wp2_with (at_builtin; refine app_bs rfl _ _ rfl rfl rfl HW5.out.1 HW5.out.sz (Out.refl 0 0 w5) HZ2.out HI.out.2.2.1 (by have := HK5.out; omega) (by have := HI.out; omega) ?_; intro a6 c6 w6 q1 q2; have HW6 := hid_mk (HW5.out.step q1 q2); clear q1 q2)
        exact ⟨⟨i + 1, a6, _, c6, by rw [i_up HI.out.1 HL.out.1], HI.out.1, rfl, by
          have h := HW6.out
          rw [fm_app HI.out.2.1]
          unfold encT
          rw [HI.out.2.2.1, ← List.append_assoc, ← List.append_assoc]
          exact h⟩, i_ms HI.out.1 HL.out.1⟩
      · obtain rfl : nt = i := by omega
        have l1 : decide ((nt : Int) < (nt : Int)) = false := by simp
        have HW7 : Hid (WS w b #[.int .i64 x, .slice ta nt tc, .slice fa nf fc] wr a4 K4 c4 (hdT x nt ++ ts.flatMap encT)) := hid_mk (by have h := hws; rwa [fm_all HH.out.2.2.1] at h)
        have k2 := hws.2.1.cell (i := 2) rfl
        clear hgo hi hws HW4
        go_wp2_with fail
        refine (rnumber_at HW7.out.1 HW7.out.sz nf (by have := HNT.out; omega) (by have := HK4.out; omega) rfl).mono ?_
        rintro e w8 ⟨a8, K8, c8, rfl, q1, q2⟩
        have HW8 : Hid (WS w b #[.int .i64 x, .slice ta nt tc, .slice fa nf fc] w8 a8 K8 c8 (hdF x ts nt nf)) := hid_mk (HW7.out.step q1 q2)
        clear q1 q2 k1 k2 l1
        go_wp2_with fail
        go_loopw [4, 6] (fun bv iv wz => ∃ (m : Nat) (a : Option Addr) (K c : Nat), iv = .int .i64 m ∧ m ≤ nf ∧ bv = .slice a K c ∧ WS w b #[.int .i64 x, .slice ta nt tc, .slice fa nf fc] wz a K c (hdF x ts nt nf ++ (fs.take m).flatMap encF)) (fun _ iv _ => nf - (intOf iv).toNat)
        case atStart => exact ⟨0, a8, K8, c8, rfl, Nat.zero_le _, rfl, by simpa using HW8.out⟩
        case round =>
          obtain ⟨m, a9, K9, c9, rfl, hm, rfl, hws⟩ := hrel
          have HW9 := hid_mk hws
          have k2 := hws.2.1.cell (i := 2) rfl
          have HK9 : Hid (K9 ≤ 3400000) := hid_mk (by
            have h := hws.K
            rw [List.length_append] at h
            have := hdF_len HX.out HNT.out.1 HNT.out.2.2 HH.out.2.2.1 HTS.out
            have := fs_le (by have := HNT.out; have := HH.out; omega) HFS.out m
            omega)
          by_cases hgo : m < nf
          · obtain ⟨l1, l2, l3⟩ := i_lt hgo
            obtain ⟨f, hf⟩ : ∃ f, fs[m]? = some f := ⟨_, List.getElem?_eq_getElem (by have := HH.out.2.2.2.1; omega)⟩
            obtain ⟨q, off, pj, cj, rfl, y1, y2, y3, y4, y5⟩ := fn_cell4 HH.out.2.1 hf
            replace y1 := hws.2.2.1.cell y1 (.inr (Nat.zero_le _))
            replace y2 := hws.2.2.1.cell y2 (.inr (Nat.zero_le _))
            replace y3 := hws.2.2.1.cell y3 (.inr (Nat.zero_le _))
            replace y4 := hws.2.2.1.cell y4 (.inr (Nat.zero_le _))
            have hokf := HFS.out f (List.mem_of_getElem? hf)
            have hli := HL.out.2.2.2 f (List.mem_of_getElem? hf)
            obtain ⟨P, L, C, cd⟩ := f
            simp only [] at y1 y2 y3 y4 y5 hli
            obtain ⟨n, hn⟩ : ∃ n, cd.length = n := ⟨_, rfl⟩
            rw [hn] at y4 hli
            obtain ⟨gf, hgf⟩ : ∃ g, wr.heap.size = g := ⟨_, rfl⟩
            obtain ⟨V2, hV2⟩ : ∃ V, wr.alloc (.cells #[.int .i64 P, .int .i64 L, .int .i64 C, .slice pj n cj] 40) = V := ⟨_, rfl⟩
            have o2 : Out 0 0 wr V2 := by rw [← hV2]; exact (Out.refl 0 0 wr).alloc _
            have b2 : Bl V2 gf #[.int .i64 P, .int .i64 L, .int .i64 C, .slice pj n cj] 40 := by rw [← hV2, ← hgf]; exact Bl.new _ _ _
            have d0 := b2.cell (i := 0) rfl
            have d1 := b2.cell (i := 1) rfl
            have d2 := b2.cell (i := 2) rfl
            have d3 := b2.cell (i := 3) rfl
            have HG : Hid (GS w b #[.int .i64 x, .slice ta nt tc, .slice (some ⟨q, off, none⟩) nf fc] gf #[.int .i64 P, .int .i64 L, .int .i64 C, .slice pj n cj] V2 a9 K9 c9 (hdF x ts nt nf ++ (fs.take m).flatMap encF)) := hid_mk ⟨hws.quiet o2, b2, fun e => by have := (hws.1.ge gf e).2; omega⟩
            have HM := hid_mk hgo
            have HF : Hid (fs[m]? = some (P, L, C, cd) ∧ cd.length = n ∧ Li n) := hid_mk ⟨hf, hn, hli⟩
            have HPK : Hid ((0 ≤ P ∧ P ≤ 8) ∧ (0 ≤ L ∧ L ≤ 64) ∧ (0 ≤ C ∧ C ≤ 64) ∧ n ≤ 4096 ∧ ∀ y ∈ cd, okI y) := hid_mk ⟨hokf.1, hokf.2.1, hokf.2.2.1, by have := hokf.2.2.2.1; simp only [] at this; omega, hokf.2.2.2.2⟩
            have HIN : Hid (∀ W, Out 0 0 w W → InIn W w.heap.size pj cd) := hid_mk fun W o => y5.kept (Lo.of_out o) (Nat.le_refl _)
            clear hgo hm hws hf hn hokf hli b2 o2 y5
            go_wp2_with fail
            (try rw [hV2])
            (try rw [hgf])
            clear hV2 hgf y1 y2 y3 y4 k2
            have G0 := hid_mk (HG.out.quiet ((Out.refl 0 0 V2).drew))
            refine wp_region_held_drew (S := fun w' => w'.cell? ⟨gf, 0, none⟩ = some (.int .i64 P) ∧ w'.cell? ⟨gf, 1, none⟩ = some (.int .i64 L) ∧ w'.cell? ⟨gf, 2, none⟩ = some (.int .i64 C) ∧ w'.cell? ⟨gf, 3, none⟩ = some (.slice pj n cj)) (by kernel_rfl) ?hS1 (fun hHeld => ?rest1)
            case hS1 => exact ⟨d0, d1, d2, d3⟩
            refine tk 0 ?_
            refine tk 1 ?_
            refine tk 2 ?_
            refine tk 4 ?_
            refine tk 5 ?_
            refine tk 7 ?_
            refine tk 8 ?_
            refine tk 10 ?_
            refine tk 11 ?_
            refine tk 12 ?_
            refine wpAnyH_ready (rs := [3]) (by kernel_rfl) (by simp) ?_
            refine AllReadyH.cons rfl (fun KK hK => ?_) AllReadyH.nil
            simp only [xa, xb, xc]
            go_simp
            refine (rnumber_at (v := P) G0.out.1.1 G0.out.1.sz P.toNat (by have := HPK.out; omega) (by have := HK9.out; omega) (by have := HPK.out; omega)).mono ?_
            rintro e z1 ⟨a11, K11, c11, rfl, q1, q2⟩
            have g1 := G0.out.step q1 q2
            have H1 := bo_up q1 G0.out.1.1.1 (by have := HPK.out; omega)
            have G1 := hid_mk g1
            have HK11 : Hid (K11 ≤ 3400010) := hid_mk (by have := HK9.out; omega)
            clear q1 q2 H1
            refine hK.out _ _ ?hS12 (fun hHeld2 => ?rest12)
            case hS12 => exact ⟨g1.2.1.cell (i := 0) rfl, g1.2.1.cell (i := 1) rfl, g1.2.1.cell (i := 2) rfl, g1.2.1.cell (i := 3) rfl⟩
            clear hK KK
            (try clear hHeld)
            have hHeld := hHeld2
            clear hHeld2
            (try simp only [Act.put, xa, xb, xc, xd, xe, xf])
            refine wpAnyH_ready (rs := [6]) (by kernel_rfl) (by simp) ?_
            refine AllReadyH.cons rfl (fun KK hK => ?_) AllReadyH.nil
            simp only [xa, xb, xc]
            go_simp
            refine (rnumber_at (v := L) G1.out.1.1 G1.out.1.sz L.toNat (by have := HPK.out; omega) (by have := HK11.out; omega) (by have := HPK.out; omega)).mono ?_
            rintro e z2 ⟨a12, K12, c12, rfl, q1, q2⟩
            have g2 := G1.out.step q1 q2
            have H2 := bo_up q1 G1.out.1.1.1 (by have := HPK.out; omega)
            have G2 := hid_mk g2
            have HK12 : Hid (K12 ≤ 3400020) := hid_mk (by have := HK11.out; omega)
            clear q1 q2 H2
            refine hK.out _ _ ?hS13 (fun hHeld2 => ?rest13)
            case hS13 => exact ⟨g2.2.1.cell (i := 0) rfl, g2.2.1.cell (i := 1) rfl, g2.2.1.cell (i := 2) rfl, g2.2.1.cell (i := 3) rfl⟩
            clear hK KK
            (try clear hHeld)
            have hHeld := hHeld2
            clear hHeld2
            (try simp only [Act.put, xa, xb, xc, xd, xe, xf])
            refine wpAnyH_ready (rs := [9]) (by kernel_rfl) (by simp) ?_
            refine AllReadyH.cons rfl (fun KK hK => ?_) AllReadyH.nil
            simp only [xa, xb, xc]
            go_simp
            refine (rnumber_at (v := C) G2.out.1.1 G2.out.1.sz C.toNat (by have := HPK.out; omega) (by have := HK12.out; omega) (by have := HPK.out; omega)).mono ?_
            rintro e z3 ⟨a13, K13, c13, rfl, q1, q2⟩
            have g3 := G2.out.step q1 q2
            have H3 := bo_up q1 G2.out.1.1.1 (by have := HPK.out; omega)
            have G3 := hid_mk g3
            have HK13 : Hid (K13 ≤ 3400030) := hid_mk (by have := HK12.out; omega)
            clear q1 q2 H3
            refine hK.out _ _ ?hS14 (fun hHeld2 => ?rest14)
            case hS14 => exact ⟨g3.2.1.cell (i := 0) rfl, g3.2.1.cell (i := 1) rfl, g3.2.1.cell (i := 2) rfl, g3.2.1.cell (i := 3) rfl⟩
            clear hK KK
            (try clear hHeld)
            have hHeld := hHeld2
            clear hHeld2
            (try simp only [Act.put, xa, xb, xc, xd, xe, xf])
            refine wpAnyH_ready (rs := [13]) (by kernel_rfl) (by simp) ?_
            refine AllReadyH.cons rfl (fun KK hK => ?_) AllReadyH.nil
            simp only [xa, xb, xc]
            go_simp
            refine (rnumber_at (v := (n : Int)) G3.out.1.1 G3.out.1.sz n (by have := HPK.out; omega) (by have := HK13.out; omega) (by have := HPK.out; omega)).mono ?_
            rintro e z4 ⟨a14, K14, c14, rfl, q1, q2⟩
            have g4 := G3.out.step q1 q2
            have H4 := bo_up q1 G3.out.1.1.1 (by have := HPK.out; omega)
            have G4 := hid_mk g4
            have HK14 : Hid (K14 ≤ 3400040) := hid_mk (by have := HK13.out; omega)
            clear q1 q2 H4
            refine hK.out _ _ ?hS15 (fun hHeld2 => ?rest15)
            case hS15 => exact ⟨g4.2.1.cell (i := 0) rfl, g4.2.1.cell (i := 1) rfl, g4.2.1.cell (i := 2) rfl, g4.2.1.cell (i := 3) rfl⟩
            clear hK KK
            (try clear hHeld)
            have hHeld := hHeld2
            clear hHeld2
            (try simp only [Act.put, xa, xb, xc, xd, xe, xf])
            refine tk 14 ?_
            refine wpAnyH_done (by kernel_rfl) ?_ _
            clear hHeld g1 g2 g3 g4
            have HHd : Hid (GS w b #[.int .i64 x, .slice ta nt tc, .slice (some ⟨q, off, none⟩) nf fc] gf #[.int .i64 P, .int .i64 L, .int .i64 C, .slice pj n cj] z4 a14 K14 c14 (hdF x ts nt nf ++ (fs.take m).flatMap encF ++ numB P.toNat ++ numB L.toNat ++ numB C.toNat ++ numB n)) := G4
            clear d0 d1 d2 d3 G0 G1 G2 G3
            go_wp2_with fail
            go_loopw [4, 8] (fun bv jv wz => ∃ (j : Nat) (a : Option Addr) (K c : Nat), jv = .int .i64 j ∧ j ≤ n ∧ bv = .slice a K c ∧ GS w b #[.int .i64 x, .slice ta nt tc, .slice (some ⟨q, off, none⟩) nf fc] gf #[.int .i64 P, .int .i64 L, .int .i64 C, .slice pj n cj] wz a K c (hdF x ts nt nf ++ (fs.take m).flatMap encF ++ numB P.toNat ++ numB L.toNat ++ numB C.toNat ++ numB n ++ (cd.take j).flatMap encI)) (fun _ jv _ => n - (intOf jv).toNat)
            case atStart => exact ⟨0, a14, K14, c14, rfl, Nat.zero_le _, rfl, by simpa using HHd.out.quiet ((Out.refl 0 0 z4))⟩
            case round =>
              obtain ⟨j, a15, K15, c15, rfl, hj, rfl, hgs⟩ := hrel
              have HGS := hid_mk hgs
              have d3 := hgs.2.1.cell (i := 3) rfl
              have HK15 : Hid (K15 ≤ 3500000) := hid_mk (by
                have h := hgs.1.1.1
                rw [List.length_append, HHd.out.1.1.1] at h
                have := cd_le (by have := HPK.out; have := HF.out; omega) HPK.out.2.2.2.2 j
                have := HK14.out
                omega)
              by_cases hjn : j < n
              · obtain ⟨m1, m2, m3⟩ := i_lt hjn
                obtain ⟨⟨op, a⟩, hy⟩ : ∃ y, cd[j]? = some y := ⟨_, List.getElem?_eq_getElem (by have := HF.out.2.1; omega)⟩
                obtain ⟨qc, oc, rfl, x0, x1⟩ := in_cell2 (HIN.out _ hgs.1.2.2.1) hy
                have HJ := hid_mk (And.intro hjn hy)
                have HOI := hid_mk (HPK.out.2.2.2.2 _ (List.mem_of_getElem? hy))
                clear hjn hj hy hgs
                go_wp2_with fail
                refine (rwritten_any HGS.out.1.1 HGS.out.1.sz HOI.out (by have := HK15.out; omega)).mono ?_
                rintro e w16 ⟨a16, K16, c16, rfl, q1, q2⟩
                have HG16 := hid_mk (HGS.out.step q1 q2)
                clear q1 q2 x0 x1 d3
                go_wp2
                exact ⟨⟨j + 1, a16, K16, c16, by rw [i_up HJ.out.1 HF.out.2.2], HJ.out.1, rfl, by rw [fm_app HJ.out.2, ← List.append_assoc]; exact HG16.out⟩, i_ms HJ.out.1 HF.out.2.2⟩
              · obtain rfl : n = j := by omega
                have m1 : decide ((n : Int) < (n : Int)) = false := by simp
                clear hjn hj hgs
                go_wp2
                exact ⟨⟨m + 1, a15, K15, c15, by rw [i_up HM.out HL.out.2.1], HM.out, rfl, by
                  have h := HGS.out.1
                  rw [fm_all HF.out.2.1] at h
                  rw [fm_app HF.out.1, encF_is, HF.out.2.1]
                  simp only [← List.append_assoc]
                  exact h⟩, i_ms HM.out HL.out.2.1⟩
          · obtain rfl : nf = m := by omega
            have l1 : decide ((nf : Int) < (nf : Int)) = false := by simp
            have HE : Hid (WS w b #[.int .i64 x, .slice ta nt tc, .slice fa nf fc] wr a9 K9 c9 (encP (x, ts, fs))) := hid_mk (by
              have h := hws
              rw [fm_all HH.out.2.2.2.1] at h
              have e := enc_is x ts fs
              rw [HH.out.2.2.1, HH.out.2.2.2.1] at e
              rw [← e]
              exact h)
            clear hgo hm hws
            by_cases hbig : 65536 < K9
            · have q1 : decide ((65536 : Int) < (K9 : Int)) = true := by simp; omega
              have q2 : decide (65536 < K9) = true := by simpa using hbig
              have HBG := hid_mk hbig
              clear hbig
              go_wp2
              go_ret2
              exact RWQ.long HOK.out (by have := HE.out.K; have := HBG.out; omega) HE.out.2.2.1
            · have q1 : decide ((65536 : Int) < (K9 : Int)) = false := by simp; omega
              have q2 : decide (65536 < K9) = false := by simpa using hbig
              have HBG := hid_mk hbig
              clear hbig
              go_wp2
              go_ret2
              exact RWQ.yes HOK.out ⟨HE.out.1.1, Go.Joins.ownsRow_le HE.out.1.2 (by have := HH.out.2.2.2.2; omega)⟩ (by have := HE.out.K; have := HBG.out; omega) HE.out.2.2.1
end Go.Proofs.YtapjfokkcgdhhaaDoor
