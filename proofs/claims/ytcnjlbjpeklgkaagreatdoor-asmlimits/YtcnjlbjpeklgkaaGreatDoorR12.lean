import Derived.Test.YtcnjlbjpeklgkaaGreatDoorR11
import Derived.Test.YtcnjlbjpeklgkaaGreatDoorR09
namespace Go.Proofs.YtcnjlbjpeklgkaaGreatDoor
open Go.RowKit
set_option linter.unusedVariables false
set_option linter.unusedSimpArgs false

/-- the error of Write, its bytes -/
noncomputable def wrE (P : Int × List (List Int) × List (Int × Int × Int × List (Int × Int))) : Int := open Classical in if okP P then (if (encP P).length ≤ 65536 then 0 else 2) else 62
noncomputable def wrB (P : Int × List (List Int) × List (Int × Int × Int × List (Int × Int))) : List Int := open Classical in if okP P then (if (encP P).length ≤ 65536 then encP P else []) else []
theorem wr_ok {P : Int × List (List Int) × List (Int × Int × Int × List (Int × Int))} (h : okP P) (hl : (encP P).length ≤ 65536) : wrE P = 0 ∧ wrB P = encP P := by
  unfold wrE wrB; rw [if_pos h, if_pos h, if_pos hl, if_pos hl]; exact ⟨rfl, rfl⟩
theorem wr_long {P : Int × List (List Int) × List (Int × Int × Int × List (Int × Int))} (h : okP P) (hl : 65536 < (encP P).length) : wrE P = 2 ∧ wrB P = [] := by
  unfold wrE wrB; rw [if_pos h, if_pos h, if_neg (by omega), if_neg (by omega)]; exact ⟨rfl, rfl⟩
theorem wr_form {P : Int × List (List Int) × List (Int × Int × Int × List (Int × Int))} (h : ¬ okP P) : wrE P = 62 ∧ wrB P = [] := by
  unfold wrE wrB; rw [if_neg h, if_neg h]; exact ⟨rfl, rfl⟩
theorem leaves_ret {P : Program} {fn : Func} {t : Array Value} {R : Ending → World → Prop} {w : World} {v : Value} (h : (results fn t).run P w = .ok v w) (hR : R (.returned v) w) : Leaves P fn t R [] .returning w := ⟨v, h, hR⟩
theorem results_tc {P : Program} {fn : Func} {u p : Tmp} {T : TypeId} {t : Array Value} {w : World} {v x : Value} {A : Addr} (hr : fn.results = #[.tmp u, .cell p T]) (hu : t.getD u undef = v) (hp : t.getD p undef = .pointer (some A)) (r : (loadVar T A).run P w = .ok x w) : (results fn t).run P w = .ok (.tuple #[v, x]) w := by
  have hu' : t[u]?.getD undef = v := by simpa using hu
  have hp' : t[p]?.getD undef = .pointer (some A) := by simpa using hp
  simp only [results, hr]
  simp [Sem.run_bind, hu', hp', asAddr, r, Result.andThen]
theorem load_err {w : World} {g : Nat} {x : Int} (hg : Bl w g #[.int .i64 x] 41) : (loadVar 41 ⟨g, 0, none⟩).run Tryz.prog w = .ok (.int .i64 x) w := by
  have c := hg.cell (i := 0) rfl
  simp [loadVar, isAgg, underlying, Tryz.underlying41, c, Result.andThen]
theorem wr_new {w : World} {o o2 : Obj} {p : Nat} (hp : w.heap.size + 2 = p) : WR (((w.alloc o).alloc o2).alloc (.cells #[.slice none 0 0] 103)) p none [] := by
  subst hp
  refine ⟨none, 0, 0, [], ⟨by simp, .inl ⟨by simp, rfl⟩⟩, rfl, ?_, World.ownsRow_nil _ _ _ 1, rfl⟩
  have := Bl.new ((w.alloc o).alloc o2) #[.slice none 0 0] 103
  rwa [size_alloc, size_alloc] at this
set_option maxRecDepth 100000 in
set_option maxHeartbeats 1000000 in
theorem write_any {w : World} {B : Nat} (hT : Ty w) (hB : B ≤ w.heap.size) (x : Int) (ts : List (List Int)) (fs : List (Int × Int × Int × List (Int × Int))) (ta fa : Option Addr) (nt tc nf fc : Nat) (hnt : ts.length = nt) (hnf : fs.length = nf) (hts : TxIn w B ta ts) (hfs : FnIn w B fa fs) (hM : ∀ f ∈ fs, MI f.2.2.2) :
    Calls Tryz.prog 28 #[.agg #[.int .i64 x, .slice ta nt tc, .slice fa nf fc]] w fun e w' => ∃ ra K cap, e = .returned (.tuple #[.slice ra K cap, .int .i64 (wrE (x, ts, fs))]) ∧ Out 0 0 w w' ∧ w'.ownsRow w.heap.size 5 1 (.slice ra K cap) K (bvs (wrB (x, ts, fs))) ∧ (wrB (x, ts, fs)).length = K := by
  have hmf : ∀ (fn : Fn) (first cap : Array Value) (w : World), (Instr.makeFunc fn first cap).run Tryz.prog w = .ok (.func fn first cap) w := fun _ _ _ _ => rfl
  obtain ⟨g, hg⟩ : ∃ g, w.heap.size = g := ⟨_, rfl⟩
  obtain ⟨V, hV⟩ : ∃ V, ((w.alloc (.cells #[.int .i64 x, .slice ta nt tc, .slice fa nf fc] 32)).alloc (.cells #[.int .i64 0] 41)).alloc (.cells #[.slice none 0 0] 103) = V := ⟨_, rfl⟩
  have HW := hid_mk (wr_new (w := w) (o := .cells #[.int .i64 x, .slice ta nt tc, .slice fa nf fc] 32) (o2 := .cells #[.int .i64 0] 41) (p := g + 1 + 1) (by omega))
  have HO := hid_mk ((((Out.refl 0 0 w).alloc (.cells #[.int .i64 x, .slice ta nt tc, .slice fa nf fc] 32)).alloc (.cells #[.int .i64 0] 41)).alloc (.cells #[.slice none 0 0] 103))
  have b0 := ((Bl.new w #[.int .i64 x, .slice ta nt tc, .slice fa nf fc] 32).alloc (.cells #[.int .i64 0] 41)).alloc (.cells #[.slice none 0 0] 103)
  have b1 := (Bl.new (w.alloc (.cells #[.int .i64 x, .slice ta nt tc, .slice fa nf fc] 32)) #[.int .i64 0] 41).alloc (.cells #[.slice none 0 0] 103)
  rw [size_alloc] at b1
  rw [hV, hg] at b0 b1
  rw [hV] at HW HO
  have HB1 := hid_mk b1
  have k0 := b0.cell (i := 0) rfl
  have k1 := b0.cell (i := 1) rfl
  have k2 := b0.cell (i := 2) rfl
  have HG := hid_mk hg
  have HBB := hid_mk hB
  have HTy := hid_mk hT
  have HP := hid_mk (program_any HW.out (B := B) (by omega) x ts fs ta fa nt tc nf fc hnt hnf (hts.kept (Lo.of_out HO.out) (Nat.le_refl _)) (hfs.kept (Lo.of_out HO.out) (Nat.le_refl _)) hM)
  have hgl : Hid (0 < g) := hid_mk (hg ▸ hT.lt)
  have HV : Hid (∀ V2 o', St (g + 1 + 1) none V o' V2 → Out 0 0 w V2 ∧ Bl V2 (g + 1) #[.int .i64 0] 41) := hid_mk fun V2 o' hS => by
    refine ⟨HO.out.past (lo := g + 1 + 1) (hi := V.heap.size) ⟨hS.1.1, hS.1.2.1, hS.1.2.2.1, hS.size, fun k h1 h2 => hS.1.2.2.2.2 k h1 ?_⟩ (by have := HG.out; omega), hS.bl HB1.out (by omega) (by simp)⟩
    rintro (q | q)
    · omega
    · cases q
  clear hT hB hts hfs hM hnt hnf b0 b1
  go_enter_defers Tryz.func28, Tryz.ntmps28
  go_wp2_with fail
  (try rw [hV])
  (try rw [hg])
  clear hV hg k0 k1 k2
  refine HP.out.mono ?_
  rintro e V2 ⟨o', hS, ⟨rfl, hok, hW⟩ | ⟨rfl, hno⟩⟩
  · obtain ⟨hOut, hE⟩ := HV.out V2 o' hS
    obtain ⟨a, K, cap, bs, hcut, hlen, hBl, hown, ho⟩ := hW
    have c0 := hBl.cell (i := 0) rfl
    have e0 := hE.cell (i := 0) rfl
    have z0 := hE.frozen 0
    have HOut := hid_mk hOut
    have HE := hid_mk hE
    have Hown := hid_mk hown
    have HOK := hid_mk hok
    have HL := hid_mk hlen
    have HC := hid_mk hcut
    clear hOut hE hown hok hlen hcut hBl hS ho
    by_cases hK : K ≤ 65536
    · have hd : decide ((K : Int) ≤ 65536) = true := by simp; omega
      have HF : Hid ((encP (x, ts, fs)).length ≤ 65536 ∧ bs = encP (x, ts, fs)) := hid_mk (by
        have := HL.out
        rcases HC.out.2 with q | q
        · exact q
        · omega)
      clear hK
      go_wp2_with (go_at_call 52; refine calls_same (want_yes _ _ _) ?_)
      refine leaves_cons (f := 49) (args := #[.pointer (some ⟨g + 1, 0, none⟩)]) (by simp) (by simp [go_sem]) ?_
      obtain ⟨hE2, ho2⟩ := setE HE.out 0
      refine (catchW_idle hE2).mono ?_
      rintro e u' w9 ⟨rfl, rfl, f9, q9⟩
      have hw := wr_ok HOK.out HF.out.1
      have hO9 : Out (g + 1) (g + 1 + 1) V2 w9 := ho2.trans q9
      refine leaves_ret (results_tc (v := .slice a K cap) Tryz.results28 rfl rfl (load_err f9)) ⟨a, K, cap, by rw [hw.1], HOut.out.past hO9 (by have := HG.out; omega), ?_, ?_⟩
      · rw [hw.2, ← HF.out.2]
        have := own_fx (S := fun k => k = g + 1) Hown.out ⟨hO9.1, hO9.2.1, hO9.2.2.1, hO9.size, fun k h1 h2 => hO9.block h1 (by omega)⟩ (fun q hq he => by have := (own_ge Hown.out hq).1; omega)
        exact Go.Joins.ownsRow_le this (by have := HG.out; omega)
      · rw [hw.2, ← HF.out.2]; exact HL.out
    · have hd : decide ((K : Int) ≤ 65536) = false := by simp; omega
      have HF : Hid (65536 < (encP (x, ts, fs)).length) := hid_mk (by
        have := HL.out
        rcases HC.out.2 with ⟨q, rfl⟩ | q
        · omega
        · exact q.1)
      clear hK
      go_wp2_with (go_at_call 52; refine calls_stop (want_no _ _ _) ?_)
      (try simp)
      refine leaves_cons (f := 49) (args := #[.pointer (some ⟨g + 1, 0, none⟩)]) (by simp) (by simp [go_sem]) ?_
      refine (catchW_stop (HTy.out.out HOut.out (.inr rfl)) HE.out).mono ?_
      rintro e u' w9 ⟨rfl, rfl, f9, q9⟩
      have hw := wr_long HOK.out HF.out
      refine leaves_ret (results_tc (v := .slice none 0 0) Tryz.results28 rfl rfl (load_err f9)) ⟨none, 0, 0, by rw [hw.1], HOut.out.past q9 (by have := HG.out; omega), ?_, ?_⟩
      · rw [hw.2]; exact World.ownsRow_nil _ _ _ 1
      · rw [hw.2]; rfl
  · obtain ⟨hOut, hE⟩ := HV.out V2 o' hS
    (try simp)
    refine leaves_cons (f := 49) (args := #[.pointer (some ⟨g + 1, 0, none⟩)]) (by simp) (by simp [go_sem]) ?_
    refine (catchW_stop (HTy.out.out hOut (.inr rfl)) hE).mono ?_
    rintro e u' w9 ⟨rfl, rfl, f9, q9⟩
    have hw := wr_form hno
    refine leaves_ret (results_tc (v := .slice none 0 0) Tryz.results28 rfl rfl (load_err f9)) ⟨none, 0, 0, by rw [hw.1], hOut.past q9 (by have := HG.out; omega), ?_, ?_⟩
    · rw [hw.2]; exact World.ownsRow_nil _ _ _ 1
    · rw [hw.2]; rfl
end Go.Proofs.YtcnjlbjpeklgkaaGreatDoor
namespace Go.Proofs.YtcnjlbjpeklgkaaGreatDoor
open Go.RowKit
set_option linter.unusedVariables false
set_option linter.unusedSimpArgs false

/-- instructions as cells -/
def icl : List (Int × Int) → List Value
  | [] => []
  | x :: l => .int .i64 x.1 :: .int .i64 x.2 :: icl l
theorem icl_at : ∀ {l : List (Int × Int)} {j : Nat} {x : Int × Int}, l[j]? = some x → (icl l)[j * 2]? = some (.int .i64 x.1) ∧ (icl l)[j * 2 + 1]? = some (.int .i64 x.2)
  | [], j, x, h => by simp at h
  | y :: l, 0, x, h => by
    simp at h
    subst h
    exact ⟨rfl, rfl⟩
  | y :: l, j + 1, x, h => by
    have := icl_at (l := l) (j := j) (x := x) (by simpa using h)
    rw [show (j + 1) * 2 = j * 2 + 1 + 1 by omega]
    exact this
theorem icl_len : ∀ (l : List (Int × Int)), (icl l).length = l.length * 2
  | [] => rfl
  | x :: l => by simp only [icl, List.length_cons, icl_len l]; omega
theorem icl_app : ∀ (l m : List (Int × Int)), icl (l ++ m) = icl l ++ icl m
  | [], m => rfl
  | x :: l, m => by simp only [List.cons_append, icl, icl_app l m]
theorem icl_one : ∀ {l : List (Int × Int)}, ∀ u ∈ icl l, u.oneCell' = true
  | [], u, h => by cases h
  | x :: l, u, h => by
    simp only [icl, List.mem_cons] at h
    rcases h with rfl | rfl | h
    · rfl
    · rfl
    · exact icl_one u h
theorem icl_back : ∀ {l : List (Int × Int)} {j : Nat} {u : Value}, (icl l)[j]? = some u → ∃ k x, l[k]? = some x ∧ ((j = k * 2 ∧ u = .int .i64 x.1) ∨ (j = k * 2 + 1 ∧ u = .int .i64 x.2))
  | [], j, u, h => by simp [icl] at h
  | y :: l, 0, u, h => by
    simp [icl] at h
    exact ⟨0, y, rfl, .inl ⟨rfl, h.symm⟩⟩
  | y :: l, 1, u, h => by
    simp [icl] at h
    exact ⟨0, y, rfl, .inr ⟨rfl, h.symm⟩⟩
  | y :: l, j + 2, u, h => by
    obtain ⟨k, x, h1, h2⟩ := icl_back (l := l) (j := j) (u := u) (by simpa [icl] using h)
    exact ⟨k + 1, x, by simpa using h1, h2.imp (fun q => ⟨by omega, q.2⟩) (fun q => ⟨by omega, q.2⟩)⟩
/-- functions as cells, their codes' slices beside them -/
def fcl : List (Int × Int × Int × List (Int × Int)) → List Value → List Value
  | f :: fs, c :: cs => .int .i64 f.1 :: .int .i64 f.2.1 :: .int .i64 f.2.2.1 :: c :: fcl fs cs
  | _, _ => []
theorem fcl_at : ∀ {fs : List (Int × Int × Int × List (Int × Int))} {cs : List Value} {j : Nat} {f : Int × Int × Int × List (Int × Int)} {c : Value}, fs[j]? = some f → cs[j]? = some c → (fcl fs cs)[j * 4]? = some (.int .i64 f.1) ∧ (fcl fs cs)[j * 4 + 1]? = some (.int .i64 f.2.1) ∧ (fcl fs cs)[j * 4 + 2]? = some (.int .i64 f.2.2.1) ∧ (fcl fs cs)[j * 4 + 3]? = some c
  | [], cs, j, f, c, h, h' => by simp at h
  | y :: fs, [], j, f, c, h, h' => by simp at h'
  | y :: fs, d :: cs, 0, f, c, h, h' => by
    simp at h h'
    subst h h'
    exact ⟨rfl, rfl, rfl, rfl⟩
  | y :: fs, d :: cs, j + 1, f, c, h, h' => by
    have := fcl_at (fs := fs) (cs := cs) (j := j) (f := f) (c := c) (by simpa using h) (by simpa using h')
    rw [show (j + 1) * 4 = j * 4 + 1 + 1 + 1 + 1 by omega]
    exact this
theorem fcl_len : ∀ {fs : List (Int × Int × Int × List (Int × Int))} {cs : List Value}, cs.length = fs.length → (fcl fs cs).length = fs.length * 4
  | [], [], _ => rfl
  | y :: fs, d :: cs, h => by
    have := fcl_len (fs := fs) (cs := cs) (by simpa using h)
    simp only [fcl, List.length_cons, this]; omega
  | [], d :: cs, h => by simp at h
  | y :: fs, [], h => by simp at h
theorem fcl_up : ∀ {fs : List (Int × Int × Int × List (Int × Int))} {cs : List Value} (f : Int × Int × Int × List (Int × Int)) (c : Value), cs.length = fs.length → fcl (fs ++ [f]) (cs ++ [c]) = fcl fs cs ++ [.int .i64 f.1, .int .i64 f.2.1, .int .i64 f.2.2.1, c]
  | [], [], f, c, _ => rfl
  | y :: fs, d :: cs, f, c, h => by
    have := fcl_up (fs := fs) (cs := cs) f c (by simpa using h)
    simp only [List.cons_append, fcl, this]
  | [], d :: cs, f, c, h => by simp at h
  | y :: fs, [], f, c, h => by simp at h
/-- a text of one's own, with marks behind it -/
def TxL (w : World) (lo : Nat) (mk : List Int) (v : Value) (t : List Int) : Prop := Byt t ∧ ∃ a c, v = .slice a t.length c ∧ w.ownsRow lo 5 1 (.slice a (t.length + mk.length) c) (t.length + mk.length) (bvs (t ++ mk))
/-- a code of one's own, with marks behind it -/
def CdL (w : World) (lo : Nat) (mk : List (Int × Int)) (v : Value) (l : List (Int × Int)) : Prop := ∃ a c, v = .slice a l.length c ∧ w.ownsRow lo 55 2 (.slice a (l.length + mk.length) c) (l.length + mk.length) (icl (l ++ mk))
theorem ob_len {a : Option Addr} {n m c : Nat} : (Value.slice a n c).ownBlock = (Value.slice a m c).ownBlock := by
  cases a <;> rfl
theorem TxL.fx {Q : Nat → Prop} {w w' : World} {lo : Nat} {mk t : List Int} {v : Value} (h : TxL w lo mk v t) (x : Fx Q w w') (hQ : ∀ k, v.ownBlock = some k → ¬ Q k) : TxL w' lo mk v t := by
  obtain ⟨h1, a, c, rfl, h2⟩ := h
  exact ⟨h1, a, c, rfl, own_fx h2 x fun k hk => hQ k (by rw [← hk]; exact ob_len)⟩
theorem CdL.fx {Q : Nat → Prop} {w w' : World} {lo : Nat} {mk t : List (Int × Int)} {v : Value} (h : CdL w lo mk v t) (x : Fx Q w w') (hQ : ∀ k, v.ownBlock = some k → ¬ Q k) : CdL w' lo mk v t := by
  obtain ⟨a, c, rfl, h2⟩ := h
  exact ⟨a, c, rfl, own_fx h2 x fun k hk => hQ k (by rw [← hk]; exact ob_len)⟩
/-- rows of other things lie apart -/
theorem own_apart {w : World} {E E' : TypeId} {b1 b2 s1 s2 n n' : Nat} {v v' : Value} {xs xs' : List Value} (h : w.ownsRow b1 E s1 v n xs) (h' : w.ownsRow b2 E' s2 v' n' xs') (hE : E ≠ E') {k : Nat} (hk : v.ownBlock = some k) : v'.ownBlock ≠ some k := by
  intro hk'
  rcases h.2 with ⟨rfl, _⟩ | ⟨g, c, cur, rfl, _, h3, _⟩
  · cases hk
  · rcases h'.2 with ⟨rfl, _⟩ | ⟨g', c', cur', rfl, _, h3', _⟩
    · cases hk'
    · cases hk; cases hk'
      rw [h3] at h3'
      cases h3'
      exact hE rfl
theorem TxL.ob {w : World} {lo : Nat} {mk t : List Int} {v : Value} (h : TxL w lo mk v t) {k : Nat} (hk : v.ownBlock = some k) : lo ≤ k ∧ k < w.heap.size := by
  obtain ⟨h1, a, c, rfl, h2⟩ := h
  exact own_ge h2 (by rw [← hk]; exact ob_len)
theorem CdL.ob {w : World} {lo : Nat} {mk t : List (Int × Int)} {v : Value} (h : CdL w lo mk v t) {k : Nat} (hk : v.ownBlock = some k) : lo ≤ k ∧ k < w.heap.size := by
  obtain ⟨a, c, rfl, h2⟩ := h
  exact own_ge h2 (by rw [← hk]; exact ob_len)
theorem TxL.other {w : World} {lo b2 s2 n' : Nat} {mk t : List Int} {v v' : Value} {E : TypeId} {xs : List Value} (h : TxL w lo mk v t) (h' : w.ownsRow b2 E s2 v' n' xs) (hE : 5 ≠ E) {k : Nat} (hk : v.ownBlock = some k) : v'.ownBlock ≠ some k := by
  obtain ⟨h1, a, c, rfl, h2⟩ := h
  exact own_apart h2 h' hE (by rw [← hk]; exact ob_len)
theorem CdL.other {w : World} {lo b2 s2 n' : Nat} {mk t : List (Int × Int)} {v v' : Value} {E : TypeId} {xs : List Value} (h : CdL w lo mk v t) (h' : w.ownsRow b2 E s2 v' n' xs) (hE : 55 ≠ E) {k : Nat} (hk : v.ownBlock = some k) : v'.ownBlock ≠ some k := by
  obtain ⟨a, c, rfl, h2⟩ := h
  exact own_apart h2 h' hE (by rw [← hk]; exact ob_len)
/-- the texts of a list -/
def TL (w : World) (lo : Nat) (mk : List Int) (vs : List Value) (ts : List (List Int)) : Prop := vs.length = ts.length ∧ ∀ (j : Nat) v t, vs[j]? = some v → ts[j]? = some t → TxL w lo mk v t
/-- values that lie apart -/
def Ap (cs : List Value) : Prop := ∀ (i j : Nat) a b k, i ≠ j → cs[i]? = some a → cs[j]? = some b → a.ownBlock = some k → b.ownBlock ≠ some k
/-- the codes of a list -/
def CL (w : World) (lo : Nat) (mk : List (Int × Int)) (cs : List Value) (fs : List (Int × Int × Int × List (Int × Int))) : Prop := cs.length = fs.length ∧ (∀ (j : Nat) c f, cs[j]? = some c → fs[j]? = some f → CdL w lo mk c f.2.2.2) ∧ Ap cs
theorem TL.fx {Q : Nat → Prop} {w w' : World} {lo : Nat} {mk : List Int} {vs : List Value} {ts : List (List Int)} (h : TL w lo mk vs ts) (x : Fx Q w w') (hQ : ∀ (j : Nat) v t k, vs[j]? = some v → ts[j]? = some t → v.ownBlock = some k → ¬ Q k) : TL w' lo mk vs ts :=
  ⟨h.1, fun j v t h1 h2 => (h.2 j v t h1 h2).fx x fun k hk => hQ j v t k h1 h2 hk⟩
theorem CL.fx {Q : Nat → Prop} {w w' : World} {lo : Nat} {mk : List (Int × Int)} {cs : List Value} {fs : List (Int × Int × Int × List (Int × Int))} (h : CL w lo mk cs fs) (x : Fx Q w w') (hQ : ∀ (j : Nat) v t k, cs[j]? = some v → fs[j]? = some t → v.ownBlock = some k → ¬ Q k) : CL w' lo mk cs fs :=
  ⟨h.1, fun j v t h1 h2 => (h.2.1 j v t h1 h2).fx x fun k hk => hQ j v t k h1 h2 hk, h.2.2⟩
theorem TL.quiet {w w' : World} {lo : Nat} {mk : List Int} {vs : List Value} {ts : List (List Int)} (h : TL w lo mk vs ts) (o : Out 0 0 w w') : TL w' lo mk vs ts := h.fx (Q := fun _ => False) (Fx.of_out o) fun _ _ _ _ _ _ _ q => q
theorem CL.quiet {w w' : World} {lo : Nat} {mk : List (Int × Int)} {cs : List Value} {fs : List (Int × Int × Int × List (Int × Int))} (h : CL w lo mk cs fs) (o : Out 0 0 w w') : CL w' lo mk cs fs := h.fx (Q := fun _ => False) (Fx.of_out o) fun _ _ _ _ _ _ _ q => q
theorem TL.up {w : World} {lo : Nat} {mk : List Int} {vs : List Value} {ts : List (List Int)} {v : Value} {t : List Int} (h : TL w lo mk vs ts) (h2 : TxL w lo mk v t) : TL w lo mk (vs ++ [v]) (ts ++ [t]) := by
  refine ⟨by simp [h.1], fun j v' t' q1 q2 => ?_⟩
  by_cases hj : j < vs.length
  · rw [List.getElem?_append_left hj] at q1
    rw [List.getElem?_append_left (by have := h.1; omega)] at q2
    exact h.2 j v' t' q1 q2
  · have hlt := (List.getElem?_eq_some_iff.1 q1).1
    simp at hlt
    obtain rfl : j = vs.length := by omega
    simp at q1
    rw [h.1] at q2
    simp at q2
    subst q1 q2
    exact h2
theorem Ap.up {cs : List Value} {c : Value} {N : Nat} (h : Ap cs) (hl : ∀ (j : Nat) a k, cs[j]? = some a → a.ownBlock = some k → k < N) (hc : ∀ k, c.ownBlock = some k → N ≤ k) : Ap (cs ++ [c]) := by
  have key : ∀ (j : Nat) a, (cs ++ [c])[j]? = some a → (cs[j]? = some a) ∨ (j = cs.length ∧ a = c) := by
    intro j a q
    by_cases hj : j < cs.length
    · rw [List.getElem?_append_left hj] at q; exact .inl q
    · have hlt := (List.getElem?_eq_some_iff.1 q).1
      simp at hlt
      obtain rfl : j = cs.length := by omega
      simp at q
      exact .inr ⟨rfl, q.symm⟩
  intro i j a b k hij h1 h2 h3 h4
  rcases key i a h1 with q1 | ⟨q1, rfl⟩ <;> rcases key j b h2 with q2 | ⟨q2, rfl⟩
  · exact h i j a b k hij q1 q2 h3 h4
  · have := hl i a k q1 h3; have := hc k h4; omega
  · have := hl j b k q2 h4; have := hc k h3; omega
  · exact hij (q1.trans q2.symm)
theorem CL.up {w : World} {lo N : Nat} {mk : List (Int × Int)} {cs : List Value} {fs : List (Int × Int × Int × List (Int × Int))} {c : Value} {f : Int × Int × Int × List (Int × Int)} (h : CL w lo mk cs fs) (h2 : CdL w lo mk c f.2.2.2) (hl : ∀ (j : Nat) a k, cs[j]? = some a → a.ownBlock = some k → k < N) (hc : ∀ k, c.ownBlock = some k → N ≤ k) : CL w lo mk (cs ++ [c]) (fs ++ [f]) := by
  refine ⟨by simp [h.1], fun j v' t' q1 q2 => ?_, h.2.2.up hl hc⟩
  by_cases hj : j < cs.length
  · rw [List.getElem?_append_left hj] at q1
    rw [List.getElem?_append_left (by have := h.1; omega)] at q2
    exact h.2.1 j v' t' q1 q2
  · have hlt := (List.getElem?_eq_some_iff.1 q1).1
    simp at hlt
    obtain rfl : j = cs.length := by omega
    simp at q1
    rw [h.1] at q2
    simp at q2
    subst q1 q2
    exact h2
theorem CL.lt {w : World} {lo : Nat} {mk : List (Int × Int)} {cs : List Value} {fs : List (Int × Int × Int × List (Int × Int))} (h : CL w lo mk cs fs) {j : Nat} {a : Value} {k : Nat} (hj : cs[j]? = some a) (hk : a.ownBlock = some k) : k < w.heap.size := by
  obtain ⟨f, hf⟩ : ∃ f, fs[j]? = some f := ⟨_, List.getElem?_eq_getElem (by have := (List.getElem?_eq_some_iff.1 hj).1; have := h.1; omega)⟩
  exact ((h.2.1 j a f hj hf).ob hk).2
theorem TxL.by {w : World} {lo : Nat} {mk t : List Int} {v : Value} (h : TxL w lo mk v t) : ∃ a c, v = .slice a t.length c ∧ ByIn w w.heap.size a t := by
  obtain ⟨h1, a, c, rfl, h2⟩ := h
  refine ⟨a, c, rfl, h1, ?_⟩
  by_cases h0 : t = []
  · exact .inl h0
  · have hl : 0 < t.length := List.length_pos_iff.2 h0
    obtain ⟨g, cur, rfl, q1, q2, q3, -⟩ := own_cellsX h2 (by omega)
    refine .inr ⟨g, 0, rfl, q3.lt, fun j x hj => ?_⟩
    rw [Nat.zero_add]
    refine q2 j _ ?_
    unfold bvs
    rw [List.map_append, List.getElem?_append_left (by simpa using (List.getElem?_eq_some_iff.1 hj).1), List.getElem?_map, hj]
    rfl
theorem CdL.in {w : World} {lo : Nat} {mk l : List (Int × Int)} {v : Value} (h : CdL w lo mk v l) : ∃ a c, v = .slice a l.length c ∧ InIn w w.heap.size a l := by
  obtain ⟨a, c, rfl, h2⟩ := h
  refine ⟨a, c, rfl, ?_⟩
  by_cases h0 : l = []
  · exact .inl h0
  · have hl : 0 < l.length := List.length_pos_iff.2 h0
    obtain ⟨g, cur, rfl, q1, q2, q3, -⟩ := own_cellsX h2 (by omega)
    refine .inr ⟨g, 0, rfl, q3.lt, fun j x hj => ?_⟩
    obtain ⟨c1, c2⟩ := icl_at hj
    have hlt := (List.getElem?_eq_some_iff.1 hj).1
    rw [Nat.zero_add]
    rw [icl_app] at q2
    exact ⟨q2 _ _ (by rw [List.getElem?_append_left (by rw [icl_len]; omega)]; exact c1), q2 _ _ (by rw [List.getElem?_append_left (by rw [icl_len]; omega)]; exact c2)⟩
/-- the lists of a program that was lent -/
theorem TL.tx {w : World} {lo K c : Nat} {mk : List Int} {vs zs : List Value} {ts : List (List Int)} {a : Option Addr} (h : TL w lo mk vs ts) (hown : w.ownsRow lo 50 1 (.slice a K c) K (vs ++ zs)) : TxIn w w.heap.size a ts := by
  by_cases h0 : ts = []
  · exact .inl h0
  · have hl : 0 < ts.length := List.length_pos_iff.2 h0
    have hk := hown.1
    rw [List.length_append] at hk
    obtain ⟨g, cur, rfl, q1, q2, q3, -⟩ := own_cellsX hown (by have := h.1; omega)
    refine .inr ⟨g, 0, rfl, q3.lt, fun j t hj => ?_⟩
    have hlt := (List.getElem?_eq_some_iff.1 hj).1
    obtain ⟨v, hv⟩ : ∃ v, vs[j]? = some v := ⟨_, List.getElem?_eq_getElem (by have := h.1; omega)⟩
    obtain ⟨a, c, rfl, hb⟩ := (h.2 j v t hv hj).by
    refine ⟨a, c, ?_, hb⟩
    rw [Nat.zero_add]
    exact q2 j _ (by rw [List.getElem?_append_left (by have := h.1; omega)]; exact hv)
theorem CL.fn {w : World} {lo K c : Nat} {mk : List (Int × Int)} {cs zs : List Value} {fs : List (Int × Int × Int × List (Int × Int))} {a : Option Addr} (h : CL w lo mk cs fs) (hown : w.ownsRow lo 39 4 (.slice a K c) K (fcl fs cs ++ zs)) : FnIn w w.heap.size a fs := by
  by_cases h0 : fs = []
  · exact .inl h0
  · have hl : 0 < fs.length := List.length_pos_iff.2 h0
    have hk := hown.1
    rw [List.length_append, fcl_len h.1] at hk
    obtain ⟨g, cur, rfl, q1, q2, q3, -⟩ := own_cellsX hown (by omega)
    refine .inr ⟨g, 0, rfl, q3.lt, fun j f hj => ?_⟩
    have hlt := (List.getElem?_eq_some_iff.1 hj).1
    obtain ⟨v, hv⟩ : ∃ v, cs[j]? = some v := ⟨_, List.getElem?_eq_getElem (by have := h.1; omega)⟩
    obtain ⟨a, c, rfl, hb⟩ := (h.2.1 j v f hv hj).in
    obtain ⟨c0, c1, c2, c3⟩ := fcl_at hj hv
    have hz : ∀ (i : Nat) u, i < fs.length * 4 → (fcl fs cs)[i]? = some u → w.cell? ⟨g, 0 + i, none⟩ = some u := by
      intro i u hi hu
      rw [Nat.zero_add]
      exact q2 i _ (by rw [List.getElem?_append_left (by rw [fcl_len h.1]; exact hi)]; exact hu)
    exact ⟨a, c, hz _ _ (by omega) c0, by have := hz _ _ (by omega) c1; rwa [← Nat.add_assoc] at this, by have := hz _ _ (by omega) c2; rwa [← Nat.add_assoc] at this, by have := hz _ _ (by omega) c3; rwa [← Nat.add_assoc] at this, hb⟩
/-- an append of a walk, by what it does -/
theorem app_st {ops : Array Oper} {rest : List Oper} {o : Oper} {ac : Go.Act} {w : World} {Q : Exit → Go.Act → World → Prop} (hgd : o.guard = none) (sx xx : Operand) (T T' : TypeId)
    (ho : o.op = .call { callee := .builtin .append, args := #[sx, xx], argTypes := #[T, T'] }) {v u v' : Value} {w' : World} (hs : ac.eval sx = v) (hxx : ac.eval xx = u)
    (hr : (Builtin.append_ #[T, T'] o.type #[v, u]).run Tryz.prog w = .ok v' w') (h : wpList Tryz.prog ops Q rest (ac.put o.dst v') w') : wpList Tryz.prog ops Q (o :: rest) ac w :=
  wpList_plain hgd fun _ hK' => by
    unfold Oper.wp execOp
    simp only [ho, resolve, invoke, builtin, Sem.run_bind, Sem.run_pure, Result.andThen_ok, List.map_toArray, List.map_cons, List.map_nil, hs, hxx, hr]
    exact hK' _ _ h
theorem info_bs : (Tryz.prog.info? 50).map (fun i => (i.zero, i.size, i.bytes)) = some (some (.slice none 0 0), 1, 24) := by kernel_rfl
theorem info_in : (Tryz.prog.info? 55).map (fun i => (i.zero, i.size, i.bytes)) = some (some (.agg #[.int .i64 0, .int .i64 0]), 2, 16) := by kernel_rfl
theorem info_fnX : (Tryz.prog.info? 39).map (fun i => (i.zero, i.size, i.bytes)) = some (some (.agg #[.int .i64 0, .int .i64 0, .int .i64 0, .slice none 0 0]), 4, 48) := by kernel_rfl
theorem bvs_one {t : List Int} : ∀ u ∈ bvs t, u.oneCell' = true := by
  intro u hu; unfold bvs at hu; obtain ⟨y, _, rfl⟩ := List.mem_map.1 hu; rfl
theorem by_src {w : World} {B : Nat} {p : Option Addr} {t : List Int} {n : Nat} (h : ByIn w B p t) (hn : t.length = n) : n = 0 ∨ ∃ vb off, p = some ⟨vb, off, none⟩ ∧ ∀ (j : Nat) u, (bvs t)[j]? = some u → w.cell? ⟨vb, off + j, none⟩ = some u := by
  rcases h.2 with rfl | ⟨g, off, rfl, hg, hc⟩
  · exact .inl hn.symm
  · refine .inr ⟨g, off, rfl, fun j u hj => ?_⟩
    unfold bvs at hj
    rw [List.getElem?_map] at hj
    obtain ⟨y, hy1, rfl⟩ := Option.map_eq_some_iff.1 hj
    exact hc j y hy1
theorem in_src {w : World} {B : Nat} {p : Option Addr} {l : List (Int × Int)} {n : Nat} (h : InIn w B p l) (hn : l.length = n) : n = 0 ∨ ∃ vb off, p = some ⟨vb, off, none⟩ ∧ ∀ (j : Nat) u, (icl l)[j]? = some u → w.cell? ⟨vb, off + j, none⟩ = some u := by
  rcases h with rfl | ⟨g, off, rfl, hg, hc⟩
  · exact .inl hn.symm
  · refine .inr ⟨g, off, rfl, fun j u hj => ?_⟩
    obtain ⟨k, x, h1, ⟨rfl, rfl⟩ | ⟨rfl, rfl⟩⟩ := icl_back hj
    · exact (hc k x h1).1
    · rw [← Nat.add_assoc]; exact (hc k x h1).2
theorem bl_src {w : World} {g : Nat} {ys : List Value} {T : TypeId} (h : Bl w g ys.toArray T) (m : Nat) : m = 0 ∨ ∃ vb off, (some ⟨g, 0, none⟩ : Option Addr) = some ⟨vb, off, none⟩ ∧ ∀ (j : Nat) u, ys[j]? = some u → w.cell? ⟨vb, off + j, none⟩ = some u :=
  .inr ⟨g, 0, rfl, fun j u hj => by rw [Nat.zero_add]; exact h.cell (by simpa using hj)⟩
/-- a slice from the first place on -/
theorem slice_to2 {T E : TypeId} {z : Value} {sz by_ : Nat} (hT : Tryz.prog.underlying T = some (.slice (Tryz.prog.elem T))) (hE : Tryz.prog.elem T = E) (hinf : (Tryz.prog.info? E).map (fun i => (i.zero, i.size, i.bytes)) = some (some z, sz, by_)) (g K cap n : Nat) (h : n ≤ cap) (W : World) : (Instr.sliceAt T (.slice (some ⟨g, 0, none⟩) K cap) none (some (.int .i64 (n : Int))) none).run Tryz.prog W = .ok (.slice (some ⟨g, 0, none⟩) n cap) W := by
  obtain ⟨i0, hi, hz0, hz1, hz2⟩ := info_p hinf
  have key : (Instr.sliceAt T (.slice (some ⟨g, 0, none⟩) K cap) none (some (.int .i64 (n : Int))) none).run Tryz.prog W = .ok (sliced (some ⟨g, 0, none⟩) 0 n cap sz) W := by
    rw [run_sliceAt_slice W _ _ _ _ _ hT, run_slice_h W _ _ _ _ hT _ _ (by omega) (by omega), hE]
    simp [sizeOf, typeInfo, hi, hz1, Result.andThen]
  rw [key]
  unfold sliced
  by_cases hc : cap = 0
  · simp [hc]
  · simp [hc, Addr.add_lit]
end Go.Proofs.YtcnjlbjpeklgkaaGreatDoor
