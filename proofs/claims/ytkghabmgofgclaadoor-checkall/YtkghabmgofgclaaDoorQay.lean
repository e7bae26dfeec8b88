import Derived.Test.YtkghabmgofgclaaDoorQaf
import Derived.Test.YtkghabmgofgclaaDoorQaw
import Derived.Test.YtkghabmgofgclaaDoorQax
import Derived.Test.YtkghabmgofgclaaDoorQam
namespace Go.Proofs.YtkghabmgofgclaaDoor
open Go.RowKit
set_option linter.unusedVariables false
set_option linter.unusedSimpArgs false

/-- marks as cells -/
def bls (M : List Bool) : List Value := M.map Value.bool
theorem bls_set (M : List Bool) (j : Nat) : (bls M).toArray.setIfInBounds j (.bool true) = (bls (M.set j true)).toArray := by simp [bls, List.map_set]
theorem bls_at {M : List Bool} {j : Nat} {b : Bool} (h : M[j]? = some b) : (bls M).toArray[j]? = some (.bool b) := by simp [bls, h]
theorem mkb (n : Nat) : madeCells #[Value.bool false] n = (bls (List.replicate n false)).toArray := by
  apply Array.ext
  · simp [madeCells, bls]
  · intro i h1 h2
    simp [madeCells, bls, Nat.mod_one]
end Go.Proofs.YtkghabmgofgclaaDoor
namespace Go.Proofs.YtkghabmgofgclaaDoor
open Go.RowKit
set_option linter.unusedVariables false
set_option linter.unusedSimpArgs false

/-- some instructions, one behind the other -/
def fldF (n : Nat) (d : Int) : List Nat → List Int × List Nat → Sum Int (List Int × List Nat)
  | [], s => .inr s
  | t :: l, s => if t < n then (match onF s t d with | some s1 => fldF n d l s1 | none => .inl 76) else .inl 77
def tgF (i : Nat) (x : Int × Int) : List Nat := (if goB x.1 = true then [i + 1] else []) ++ (if juB x.1 = true then [x.2.toNat] else [])
theorem st_fld {t : Int} {n i : Nat} {x : Int × Int} {s : List Int × List Nat} (hj : juB x.1 = true → x.2.toNat < n) (h1 : ¬ s.1.getD i 0 - t < 0) (h2 : ¬ 64 < s.1.getD i 0 - t + ptV x.1) : stF t n i x s = fldF n (s.1.getD i 0 - t + ptV x.1) (tgF i x) s := by
  unfold stF tgF
  rw [if_neg h1, if_neg h2]
  generalize s.1.getD i 0 - t + ptV x.1 = d
  unfold nxF juF
  by_cases hg : goB x.1 = true
  · rw [if_pos hg, if_pos hg]
    by_cases hn : i + 1 < n
    · rw [if_pos hn]
      simp only [List.cons_append, List.nil_append, fldF]
      rw [if_pos hn]
      cases onF s (i + 1) d with
      | none => rfl
      | some s1 =>
        simp only []
        by_cases hjj : juB x.1 = true
        · rw [if_pos hjj, if_pos hjj]
          simp only [fldF]
          rw [if_pos (hj hjj)]
          cases onF s1 x.2.toNat d <;> rfl
        · rw [if_neg hjj, if_neg hjj]
          rfl
    · rw [if_neg hn]
      simp only [List.cons_append, List.nil_append, fldF]
      rw [if_neg hn]
  · rw [if_neg hg, if_neg hg]
    simp only [List.nil_append]
    by_cases hjj : juB x.1 = true
    · rw [if_pos hjj, if_pos hjj]
      simp only [fldF]
      rw [if_pos (hj hjj)]
      cases onF s x.2.toNat d <;> rfl
    · rw [if_neg hjj, if_neg hjj]
      rfl
theorem fld_ok {n : Nat} {d : Int} (h0 : 0 ≤ d) (h1 : d ≤ 64) : ∀ {l : List Nat} {s s' : List Int × List Nat}, WO n s → fldF n d l s = .inr s' → unk s'.1 + s'.2.length = unk s.1 + s.2.length
  | [], s, s', h, e => by simp only [fldF, Sum.inr.injEq] at e; subst e; rfl
  | t :: l, s, s', h, e => by
    unfold fldF at e
    split at e
    · split at e
      · rename_i s1 he
        have q := on_ok h h0 h1 he
        rw [fld_ok h0 h1 q.1 e]
        exact q.2.1
      · cases e
    · cases e
/-- numbers of instructions as a row -/
def nvs (l : List Nat) : List Value := ivs (l.map fun (j : Nat) => (j : Int))
theorem nvs_at {l : List Nat} {k t : Nat} (h : l[k]? = some t) : (nvs l)[k]? = some (.int .i64 (t : Int)) := ivs_is (by simp [h])
theorem mki (n : Nat) : madeCells #[Value.int .i64 0] n = (ivs (List.replicate n 0)).toArray := by
  apply Array.ext
  · simp [madeCells, ivs]
  · intro i h1 h2
    simp [madeCells, ivs, Nat.mod_one]
theorem ivs_set (D : List Int) (j : Nat) (x : Int) : (ivs D).toArray.setIfInBounds j (.int .i64 x) = (ivs (D.set j x)).toArray := by simp [ivs, List.map_set]
/-- the first i are -1 -/
def M1 (n i : Nat) (D : List Int) : Prop := D.length = n ∧ ∀ j, j < i → D[j]? = some (-1)
theorem M1.up {n i : Nat} {D : List Int} (h : M1 n i D) (hi : i < n) : M1 n (i + 1) (D.set i (-1)) := by
  refine ⟨by rw [List.length_set]; exact h.1, fun j hj => ?_⟩
  rw [List.getElem?_set]
  by_cases e : i = j
  · rw [if_pos e, if_pos (by have := h.1; omega)]
  · rw [if_neg e]; exact h.2 j (by omega)
theorem M1.end {n : Nat} {D : List Int} (h : M1 n n D) : D = List.replicate n (-1) := by
  apply List.ext_getElem?
  intro j
  rw [List.getElem?_replicate]
  split
  · exact h.2 j (by assumption)
  · rw [List.getElem?_eq_none]; have := h.1; omega
/-- how many are not gone on from, out of the world -/
def wcnt (w : World) (g : Nat) : Nat := match w.heap[g]? with
  | some (.cells cs _ _) => (cs.toList.filter fun v => match v with
    | .bool b => !b
    | _ => false).length
  | _ => 0
theorem wcnt_is {w : World} {g : Nat} {G : List Bool} (h : Bl w g (bls G).toArray 4) : wcnt w g = cntF G := by
  unfold Bl at h
  unfold wcnt cntF bls at *
  rw [h]
  simp only []
  rw [List.filter_map, List.length_map]
  rfl
theorem dropc {l : List Nat} {k t : Nat} (h : l[k]? = some t) : l.drop k = t :: l.drop (k + 1) := by
  obtain ⟨h1, h2⟩ := List.getElem?_eq_some_iff.1 h
  rw [List.drop_eq_getElem_cons h1, h2]
theorem nvs_len (l : List Nat) : (nvs l).length = l.length := by unfold nvs; rw [ivs_len, List.length_map]
theorem nown {w : World} {base m c : Nat} {ra : Option Addr} {l : List Nat} (h : w.ownsRow base 3 1 (.slice ra m c) m (nvs l)) {k t : Nat} (hk : l[k]? = some t) : ∃ q, ra = some ⟨q, 0, none⟩ ∧ base ≤ q ∧ w.cell? ⟨q, k, none⟩ = some (.int .i64 (t : Int)) := by
  have hl := (List.getElem?_eq_some_iff.1 hk).1
  have h0 := h.1
  rw [nvs_len] at h0
  rcases h.2 with ⟨_, q⟩ | ⟨g, c', cur, h1, h2, h3, h4, h5, h6, h7⟩
  · omega
  · cases h1
    have B : Bl w g cur 3 := h3
    refine ⟨g, rfl, h2, ?_⟩
    have := nvs_at hk
    rw [← h7, List.getElem?_take_of_lt (by omega)] at this
    exact B.cell (by simpa using this)
theorem info_i : (Tryd.prog.info? 3).map (fun i => (i.zero, i.size, i.bytes)) = some (some (.int .i64 0), 1, 8) := by kernel_rfl
theorem one_i {v : Int} : ∀ u ∈ [Value.int .i64 v], u.oneCell' = true := by intro u hu; rw [List.mem_singleton.1 hu]; rfl
theorem out_n {w w' : World} (f : Fx (fun k => (Value.slice none 0 0).ownBlock = some k) w w') : Out 0 0 w w' := f.out fun k _ q => by cases q
theorem own_out {w w' : World} {base m c : Nat} {ra : Option Addr} {xs : List Value} (h : w.ownsRow base 3 1 (.slice ra m c) m xs) (o : Out 0 0 w w') : w'.ownsRow base 3 1 (.slice ra m c) m xs := own_fx (S := fun _ => False) h (Fx.of_out o) (fun _ _ z => z)
theorem own_set {w : World} {base m c g j : Nat} {ra : Option Addr} {xs : List Value} {v : Value} (h : w.ownsRow base 3 1 (.slice ra m c) m xs) (hg : g < base) : (w.setCell ⟨g, j, none⟩ v).ownsRow base 3 1 (.slice ra m c) m xs := own_fx (S := fun k => k = g) h (Fx.set (S := fun k => k = g) (p := ⟨g, j, none⟩) (Fx.refl _ _) (.inl rfl) v) (fun k hk e => by have := (own_ge h hk).1; omega)
/-- what ways answers -/
def RYQ (w : World) (n : Nat) (o : Sum (Int × Nat) (List Int)) (e : Ending) (w' : World) : Prop := Out 0 0 w w' ∧ ((∃ D dg, o = .inr D ∧ e = .returned (.tuple #[.slice (some ⟨dg, 0, none⟩) n n, .int .i64 0, .int .i64 0]) ∧ Bl w' dg (ivs D).toArray 3 ∧ w.heap.size ≤ dg) ∨ ∃ (er : Int) (i : Nat), o = .inl (er, i) ∧ e = .returned (.tuple #[.slice none 0 0, .int .i64 i, .int .i64 er]))
theorem RYQ.bad {w w' : World} {n : Nat} {o : Sum (Int × Nat) (List Int)} {er : Int} {i : Nat} (h : o = .inl (er, i)) (ho : Out 0 0 w w') : RYQ w n o (.returned (.tuple #[.slice none 0 0, .int .i64 i, .int .i64 er])) w' := ⟨ho, .inr ⟨er, i, h, rfl⟩⟩
theorem RYQ.good {w w' : World} {n dg : Nat} {o : Sum (Int × Nat) (List Int)} {D : List Int} (h : o = .inr D) (hb : Bl w' dg (ivs D).toArray 3) (hd : w.heap.size ≤ dg) (ho : Out 0 0 w w') : RYQ w n o (.returned (.tuple #[.slice (some ⟨dg, 0, none⟩) n n, .int .i64 0, .int .i64 0])) w' := ⟨ho, .inl ⟨D, dg, h, rfl, hb, hd⟩⟩
/-- the state of the ways: boxes, depths, those gone on from -/
def YS (w : World) (b : Nat) (PCs FCs : Array Value) (wr : World) (D : List Int) (G : List Bool) : Prop := Bl wr b PCs 25 ∧ Bl wr (b + 1) FCs 41 ∧ Bl wr (b + 1 + 1) (ivs D).toArray 3 ∧ Bl wr (b + 1 + 1 + 1) (bls G).toArray 4 ∧ Out 0 0 w wr ∧ w.heap.size = b
theorem YS.quiet {w wr w2 : World} {b : Nat} {PCs FCs : Array Value} {D : List Int} {G : List Bool} (h : YS w b PCs FCs wr D G) (o : Out 0 0 wr w2) : YS w b PCs FCs w2 D G := ⟨h.1.kept o (.inr (Nat.zero_le _)), h.2.1.kept o (.inr (Nat.zero_le _)), h.2.2.1.kept o (.inr (Nat.zero_le _)), h.2.2.2.1.kept o (.inr (Nat.zero_le _)), h.2.2.2.2.1.trans o, h.2.2.2.2.2⟩
theorem YS.setD {w wr : World} {b : Nat} {PCs FCs : Array Value} {D : List Int} {G : List Bool} (h : YS w b PCs FCs wr D G) (j : Nat) (x : Int) : YS w b PCs FCs (wr.setCell ⟨b + 1 + 1, j, none⟩ (.int .i64 x)) (D.set j x) G := by
  obtain ⟨h1, h2, h3, h4, h5, h6⟩ := h
  refine ⟨h1.other (by simp only [ne_eq]; omega) _, h2.other (by simp only [ne_eq]; omega) _, by rw [← ivs_set]; exact h3.set j _, h4.other (by simp only [ne_eq]; omega) _, h5.setCell (.inr (by simp only []; omega)) _, h6⟩
theorem YS.setG {w wr : World} {b : Nat} {PCs FCs : Array Value} {D : List Int} {G : List Bool} (h : YS w b PCs FCs wr D G) (j : Nat) : YS w b PCs FCs (wr.setCell ⟨b + 1 + 1 + 1, j, none⟩ (.bool true)) D (G.set j true) := by
  obtain ⟨h1, h2, h3, h4, h5, h6⟩ := h
  refine ⟨h1.other (by simp only [ne_eq]; omega) _, h2.other (by simp only [ne_eq]; omega) _, h3.other (by simp only [ne_eq]; omega) _, by rw [← bls_set]; exact h4.set j _, h5.setCell (.inr (by simp only []; omega)) _, h6⟩
/-- an append into the row of numbers leaves the state -/
theorem YS.fx {w wr w2 : World} {b : Nat} {PCs FCs : Array Value} {D : List Int} {G : List Bool} {S : Nat → Prop} (h : YS w b PCs FCs wr D G) (f : Fx S wr w2) (hS : ∀ k, S k → b + 1 + 1 + 1 + 1 ≤ k) : YS w b PCs FCs w2 D G := by
  obtain ⟨h1, h2, h3, h4, h5, h6⟩ := h
  refine ⟨h1.fx f (fun q => by have := hS _ q; omega), h2.fx f (fun q => by have := hS _ q; omega), h3.fx f (fun q => by have := hS _ q; omega), h4.fx f (fun q => by have := hS _ q; omega), out_lo (dg := b) h5 (f.wide fun k _ hk => by have := hS k hk; omega) (by omega), h6⟩
end Go.Proofs.YtkghabmgofgclaaDoor
namespace Go.Proofs.YtkghabmgofgclaaDoor
open Go.RowKit
set_option linter.unusedVariables false
set_option linter.unusedSimpArgs false

theorem up_n {i n : Nat} (h : i < n) (hn : n ≤ 4096) : ∃ i1 : Nat, i + 1 = i1 ∧ wrap64 ((i : Int) + 1) = (i1 : Int) := ⟨i + 1, rfl, by unfold wrap64; omega⟩
theorem ms_i {i i1 n m : Nat} (h : i < n) (e : i + 1 = i1) : m + (n - (intOf (.int .i64 (i1 : Int))).toNat) < m + (n - (intOf (.int .i64 (i : Int))).toNat) := by simp [intOf]; omega
theorem ms_0 {i i1 n : Nat} (h : i < n) (e : i + 1 = i1) : n - (intOf (.int .i64 (i1 : Int))).toNat < n - (intOf (.int .i64 (i : Int))).toNat := by simp [intOf]; omega
theorem ms_g {c c' n i j : Nat} (h : c' + 1 = c) : c' * (n + 1) + (n - (intOf (.int .i64 (j : Int))).toNat) < c * (n + 1) + (n - (intOf (.int .i64 (i : Int))).toNat) := by
  subst h
  rw [Nat.succ_mul]
  omega
theorem upK {k m : Nat} (h : k < m) (hm : m ≤ 2 := by decide) : wrap64 ((k : Int) + 1) = ((k + 1 : Nat) : Int) := by unfold wrap64; omega
theorem msK {k m : Nat} (h : k < m) (hm : m ≤ 2 := by decide) : m - (intOf (.int .i64 (wrap64 ((k : Int) + 1)))).toNat < m - (intOf (.int .i64 (k : Int))).toNat := by rw [upK h hm]; simp [intOf]; omega
theorem msK2 {k m : Nat} (h : k < m) : m - (intOf (.int .i64 ((k : Int) + 1))).toNat < m - (intOf (.int .i64 (k : Int))).toNat := by simp [intOf]; omega
theorem aj_ex {op a : Int} {n : Nat} (h : juB op = true → 0 ≤ a ∧ a < (n : Int)) (hj : juB op = true) : ∃ aj : Nat, a = (aj : Int) := ⟨a.toNat, by have := h hj; omega⟩
theorem tg_00 {i : Nat} {op a : Int} (hg : goB op = false) (hj : juB op = false) : tgF i (op, a) = [] := by unfold tgF; simp [hg, hj]
theorem tg_01 {i aj : Nat} {op : Int} (hg : goB op = false) (hj : juB op = true) : tgF i (op, (aj : Int)) = [aj] := by unfold tgF; simp [hg, hj]
theorem tg_10 {i i1 : Nat} {op a : Int} (hg : goB op = true) (hj : juB op = false) (e : i + 1 = i1) : tgF i (op, a) = [i1] := by unfold tgF; simp [hg, hj, e]
theorem tg_11 {i i1 aj : Nat} {op : Int} (hg : goB op = true) (hj : juB op = true) (e : i + 1 = i1) : tgF i (op, (aj : Int)) = [i1, aj] := by unfold tgF; simp [hg, hj, e]
theorem wy_bad {tk : Int × Int → Int} {cd : List (Int × Int)} {k i : Nat} {D : List Int} {R : List Nat} {x : Int × Int} {e : Int} (hx : cd[i]? = some x) (hk : unk D + (i :: R).length ≤ k) (h : stF (tk x) cd.length i x (D, R) = .inl e) : wyF tk cd k (D, i :: R) = .inl (e, i) := by
  cases k with
  | zero => simp only [List.length_cons] at hk; omega
  | succ k =>
    have hg : cd.getD i (0, 0) = x := by rw [List.getD_eq_getElem?_getD, hx]; rfl
    simp only [wyF, hg, h]
theorem wy_go {tk : Int × Int → Int} {cd : List (Int × Int)} {k i : Nat} {D : List Int} {R : List Nat} {x : Int × Int} {s : List Int × List Nat} (hx : cd[i]? = some x) (hk : unk D + (i :: R).length ≤ k) (h : stF (tk x) cd.length i x (D, R) = .inr s) : ∃ k', k = k' + 1 ∧ wyF tk cd k (D, i :: R) = wyF tk cd k' s := by
  cases k with
  | zero => simp only [List.length_cons] at hk; omega
  | succ k =>
    have hg : cd.getD i (0, 0) = x := by rw [List.getD_eq_getElem?_getD, hx]; rfl
    exact ⟨k, rfl, by simp only [wyF, hg, h]⟩
set_option maxRecDepth 100000 in
set_option maxHeartbeats 8000000 in
theorem rways_any {w : World} {B : Nat} (x : Int) (ta : Option Addr) (nt tc : Nat) (fa : Option Addr) (nf fc : Nat) {fs : List (Int × Int × Int × List (Int × Int))} (hfs : FnIn w B fa fs) (hnf : fs.length = nf) (hB : B ≤ w.heap.size) (P L C : Int) (pa : Option Addr) (n c : Nat) {cd : List (Int × Int)} (hin : InIn w B pa cd) (hn : cd.length = n) (hn0 : 0 < n) (hn4 : n ≤ 4096) (hok : ∀ y ∈ cd, OkX nf n fs y) :
    Calls Tryd.prog 59 #[.agg #[.int .i64 x, .slice ta nt tc, .slice fa nf fc], .agg #[.int .i64 P, .int .i64 L, .int .i64 C, .slice pa n c]] w fun e w' => RYQ w n (wyA fs cd) e w' := by
  obtain ⟨b, hb⟩ : ∃ b, w.heap.size = b := ⟨_, rfl⟩
  obtain ⟨V, hV⟩ : ∃ V, (w.alloc (.cells #[.int .i64 x, .slice ta nt tc, .slice fa nf fc] 25)).alloc (.cells #[.int .i64 P, .int .i64 L, .int .i64 C, .slice pa n c] 41) = V := ⟨_, rfl⟩
  have oV : Out 0 0 w V := by rw [← hV]; exact ((Out.refl 0 0 w).alloc _).alloc _
  have b0 : Bl V b #[.int .i64 x, .slice ta nt tc, .slice fa nf fc] 25 := by rw [← hV, ← hb]; exact (Bl.new _ _ _).alloc _
  have b1 : Bl V (b + 1) #[.int .i64 P, .int .i64 L, .int .i64 C, .slice pa n c] 41 := by
    rw [← hV]
    have := Bl.new (w.alloc (.cells #[.int .i64 x, .slice ta nt tc, .slice fa nf fc] 25)) #[.int .i64 P, .int .i64 L, .int .i64 C, .slice pa n c] 41
    rwa [size_alloc, hb] at this
  have hVs : V.heap.size = b + 1 + 1 := by rw [← hV, size_alloc, size_alloc, hb]
  have f3 := b1.cell (i := 3) rfl
  have hmI := run_make_row' (P := Tryd.prog) 68 3 (.int .i64 0) 8 Tryd.underlying68 (by kernel_rfl) rfl .i64 .i64 n (by omega) (by omega)
  have hmB := run_make_row' (P := Tryd.prog) 131 4 (.bool false) 1 Tryd.underlying131 (by kernel_rfl) rfl .i64 .i64 n (by omega) (by omega)
  rw [mki] at hmI
  rw [mkb] at hmB
  obtain ⟨V2, hV2⟩ : ∃ W, (V.alloc (.cells (ivs (List.replicate n 0)).toArray 3)).alloc (.cells (bls (List.replicate n false)).toArray 4) = W := ⟨_, rfl⟩
  have HY0 : Hid (YS w b #[.int .i64 x, .slice ta nt tc, .slice fa nf fc] #[.int .i64 P, .int .i64 L, .int .i64 C, .slice pa n c] V2 (List.replicate n 0) (List.replicate n false)) := hid_mk (by
    rw [← hV2]
    have q3 := (Bl.new V (ivs (List.replicate n 0)).toArray 3).alloc (.cells (bls (List.replicate n false)).toArray 4)
    rw [hVs] at q3
    have q4 := Bl.new (V.alloc (.cells (ivs (List.replicate n 0)).toArray 3)) (bls (List.replicate n false)).toArray 4
    rw [size_alloc, hVs] at q4
    exact ⟨(b0.alloc _).alloc _, (b1.alloc _).alloc _, q3, q4, (oV.alloc _).alloc _, hb⟩)
  have HN := hid_mk (And.intro hn (And.intro hn0 (And.intro hn4 (And.intro hnf (And.intro hB hok)))))
  have HFI : Hid (∀ W, Out 0 0 w W → FnIn W B fa fs ∧ InIn W B pa cd) := hid_mk fun W o => ⟨hfs.kept (C := B) (Lo.of_out o) (Nat.le_refl _), hin.kept (C := B) (Lo.of_out o) (Nat.le_refl _)⟩
  have hblt : b + 1 < V.heap.size := by omega
  have hn0I : (0 : Int) < (n : Int) := by omega
  clear hfs hin hok hB hn4 oV b0 b1
  go_enter Tryd.func59, Tryd.ntmps59
  go_wp2_with fail
  (try rw [hV])
  (try rw [hV2])
  (try rw [hb])
  clear hV hV2 hb hmI hmB f3 hVs hblt
  go_loopw [9] (fun iv wr => ∃ (i : Nat) (D : List Int), iv = .int .i64 i ∧ i ≤ n ∧ M1 n i D ∧ YS w b #[.int .i64 x, .slice ta nt tc, .slice fa nf fc] #[.int .i64 P, .int .i64 L, .int .i64 C, .slice pa n c] wr D (List.replicate n false)) (fun iv _ => n - (intOf iv).toNat)
  case atStart => exact ⟨0, _, rfl, Nat.zero_le _, ⟨by simp, fun j hj => absurd hj (Nat.not_lt_zero _)⟩, HY0.out⟩
  case round =>
    obtain ⟨i, D, rfl, hi, hm1, hys⟩ := hrel
    have HM := hid_mk hm1
    have HYS := hid_mk hys
    by_cases hgo : i < n
    · obtain ⟨l1, l2⟩ := lt_dec hgo
      have l3 : (i : Int) < (n : Int) := by omega
      obtain ⟨i1, hi1, hiw⟩ := up_n hgo HN.out.2.2.1
      obtain ⟨x0, hx0⟩ : ∃ x, D[i]? = some x := ⟨_, List.getElem?_eq_getElem (by have := hm1.1; omega)⟩
      have c0 := iv_cell hys.2.2.1 hx0
      have z0 := hys.2.2.1.frozen i
      have HI := hid_mk (And.intro hgo hi1)
      have HIW := hid_mk hiw
      clear hgo hi1 hi hm1 hys hx0 hiw
      go_wp2
      exact ⟨⟨i1, _, by rw [HIW.out], by have := HI.out; omega, by rw [← HI.out.2]; exact HM.out.up HI.out.1, HYS.out.setD i (-1)⟩, by rw [HIW.out]; exact ms_0 HI.out.1 HI.out.2⟩
    · obtain rfl : n = i := by omega
      have l1 : decide ((n : Int) < (n : Int)) = false := by simp
      have hD := hm1.end
      subst hD
      have c0 := iv_cell (j := 0) (x := -1) hys.2.2.1 (by rw [List.getElem?_replicate, if_pos hn0])
      have z0 := hys.2.2.1.frozen 0
      clear hgo hi hm1 hys
      go_wp2_with fail
      have HY1 := hid_mk (HYS.out.setD 0 0)
      clear l1 c0 z0
      go_loopw [10] (fun iv wz => ∃ (i : Nat) (D : List Int) (G : List Bool) (R : List Nat) (k : Nat), iv = .int .i64 i ∧ i ≤ n ∧ RI n D G R i ∧ YS w b #[.int .i64 x, .slice ta nt tc, .slice fa nf fc] #[.int .i64 P, .int .i64 L, .int .i64 C, .slice pa n c] wz D G ∧ wyF (tkV fs) cd k (D, R) = wyA fs cd ∧ unk D + R.length ≤ k) (fun iv wz => wcnt wz (b + 1 + 1 + 1) * (n + 1) + (n - (intOf iv).toNat))
      case atStart => exact ⟨0, _, _, _, n, rfl, Nat.zero_le _, RI.start hn0, HY1.out, by unfold wyA; rw [HN.out.1], Nat.le_of_eq (wo_start hn0).2⟩
      case round =>
        obtain ⟨i, D, G, R, k, rfl, hi, hri, hys, hwy, hunk⟩ := hrel
        have f3 := hys.2.1.cell (i := 3) rfl
        have HRI := hid_mk hri
        have HYS := hid_mk hys
        have HWY := hid_mk (And.intro hwy hunk)
        by_cases hgo : i < n
        · obtain ⟨l1, l2⟩ := lt_dec hgo
          have l3 : (i : Int) < (n : Int) := by omega
          obtain ⟨i1, hi1, hiw⟩ := up_n hgo HN.out.2.2.1
          obtain ⟨d, hd⟩ : ∃ d, D[i]? = some d := ⟨_, List.getElem?_eq_getElem (by have := hri.1.1; simp only [] at this; omega)⟩
          obtain ⟨g, hg⟩ : ∃ g, G[i]? = some g := ⟨_, List.getElem?_eq_getElem (by have := hri.2.1; omega)⟩
          have dj := iv_cell hys.2.2.1 hd
          have gj := hys.2.2.2.1.cell (bls_at hg)
          have HI := hid_mk (And.intro hgo (And.intro hi1 (And.intro hd hg)))
          have HIW := hid_mk hiw
          clear hgo hi1 hi hri hwy hunk hiw
          by_cases hd0 : d < 0
          · have q1 : decide (d < 0) = true := by simpa using hd0
            have HS := hid_mk (HRI.out.skip (fun q => by obtain ⟨d', e1, e2, _⟩ := q; rw [hd] at e1; cases e1; omega))
            clear hd0 hd hg hys
            go_wp2
            exact ⟨⟨i1, D, G, R, k, by rw [HIW.out], by have := HI.out; omega, by rw [← HI.out.2.1]; exact HS.out, HYS.out, HWY.out.1, HWY.out.2⟩, by rw [HIW.out]; exact ms_i HI.out.1 HI.out.2.1⟩
          · have q1 : decide (d < 0) = false := by simpa using hd0
            cases g
            · obtain ⟨R', rfl, hnR⟩ := HRI.out.head ⟨d, hd, by omega, hg⟩
              have HTK := hid_mk (HRI.out.take hnR)
              obtain ⟨⟨op, a⟩, hx⟩ : ∃ y, cd[i]? = some y := ⟨_, List.getElem?_eq_getElem (by have := HN.out.1; have := HI.out.1; omega)⟩
              have hOk := HN.out.2.2.2.2.2 _ (List.mem_of_getElem? hx)
              obtain ⟨qc, oc, rfl, hqc, x0, x1⟩ := in_cells (HFI.out _ hys.2.2.2.2.1).2 hx
              have z9 := hys.2.2.2.1.frozen i
              obtain ⟨gx, hgx⟩ : ∃ g, wr.heap.size = g := ⟨_, rfl⟩
              obtain ⟨W2, hW2⟩ : ∃ W, (wr.setCell ⟨b + 1 + 1 + 1, i, none⟩ (.bool true)).alloc (.cells #[.int .i64 op, .int .i64 a] 61) = W := ⟨_, rfl⟩
              have hy2 : YS w b #[.int .i64 x, .slice ta nt tc, .slice fa nf fc] #[.int .i64 P, .int .i64 L, .int .i64 C, .slice (some ⟨qc, oc, none⟩) n c] W2 D (G.set i true) := by rw [← hW2]; exact (hys.setG i).quiet ((Out.refl 0 0 _).alloc _)
              have bx : Bl W2 gx #[.int .i64 op, .int .i64 a] 61 := by
                rw [← hW2, ← hgx]
                have := Bl.new (wr.setCell ⟨b + 1 + 1 + 1, i, none⟩ (.bool true)) #[.int .i64 op, .int .i64 a] 61
                rwa [show (wr.setCell ⟨b + 1 + 1 + 1, i, none⟩ (.bool true)).heap.size = wr.heap.size by simp [World.setCell]] at this
              have HY2 := hid_mk hy2
              have HBX := hid_mk bx
              have p0 := hy2.1.cell (i := 0) rfl
              have p1 := hy2.1.cell (i := 1) rfl
              have p2 := hy2.1.cell (i := 2) rfl
              have dj2 := iv_cell hy2.2.2.1 hd
              have e0 := bx.cell (i := 0) rfl
              have e1 := bx.cell (i := 1) rfl
              obtain ⟨g1', g2'⟩ : qc ≠ b + 1 + 1 + 1 ∧ b + 1 + 1 + 1 ≠ qc := by have := HN.out.2.2.2.2.1; have := hys.2.2.2.2.2; omega
              obtain ⟨g3', g4'⟩ : b + 1 ≠ b + 1 + 1 + 1 ∧ b + 1 + 1 + 1 ≠ b + 1 := by omega
              have HEf := hid_mk (fun W' (o : Out 0 0 w W') => rtakes_any (w := W') (B := B) op a x ta nt tc fa nf fc hOk.1 (HFI.out _ o).1 HN.out.2.2.2.1 (Nat.le_trans HN.out.2.2.2.2.1 o.size) hOk.2.1 hOk.2.2.1)
              have HST : Hid (∀ e, stF (tkV fs (op, a)) n i (op, a) (D, R') = .inl e → wyA fs cd = .inl (e, i)) := hid_mk fun e h => by rw [← HWY.out.1]; exact wy_bad hx HWY.out.2 (by rw [HN.out.1]; exact h)
              have HGD : Hid (D.getD i 0 = d) := hid_mk (by rw [List.getD_eq_getElem?_getD, hd]; rfl)
              have HX := hid_mk (And.intro hx hOk)
              have htk := hOk.2.2.2.2
              have hdr : 0 ≤ d ∧ d ≤ 64 := ⟨by omega, (HRI.out.1.2.1 i d hd).2⟩
              obtain ⟨tkk, hT⟩ : ∃ t, tkV fs (op, a) = t := ⟨_, rfl⟩
              rw [hT] at htk
              have HT := hid_mk (And.intro hT htk)
              have HDR := hid_mk hdr
              have HEf2 : Hid (∀ W', Out 0 0 w W' → Calls Tryd.prog 73 #[.agg #[.int .i64 x, .slice ta nt tc, .slice fa nf fc], .agg #[.int .i64 op, .int .i64 a]] W' fun x w' => x = .returned (.int .i64 tkk) ∧ Out 0 0 W' w') := hid_mk fun W' o => by rw [← hT]; exact HEf.out W' o
              clear hd0 hd hg hys hx hOk hqc hy2 bx hnR HEf htk hdr hT
              go_wp2_with fail
              (try rw [hW2])
              (try rw [hgx])
              clear hW2 hgx z9 gj
              refine wp_region_held_drew (S := fun w' => w'.cell? ⟨b, 0, none⟩ = some (.int .i64 x) ∧ w'.cell? ⟨b, 1, none⟩ = some (.slice ta nt tc) ∧ w'.cell? ⟨b, 2, none⟩ = some (.slice fa nf fc) ∧ w'.cell? ⟨b + 1 + 1, i, none⟩ = some (.int .i64 d) ∧ w'.cell? ⟨gx, 0, none⟩ = some (.int .i64 op) ∧ w'.cell? ⟨gx, 1, none⟩ = some (.int .i64 a)) (by kernel_rfl) ?hS1 (fun hHeld => ?rest1)
              case hS1 => exact ⟨p0, p1, p2, dj2, e0, e1⟩
              refine tk 0 ?_
              refine tk 1 ?_
              refine tk 2 ?_
              refine tk 3 ?_
              refine tk 4 ?_
              refine tk 5 ?_
              refine wpAnyH_ready (rs := [6]) (by kernel_rfl) (by simp) ?_
              refine AllReadyH.cons rfl (fun KK hK => ?_) AllReadyH.nil
              simp only [xa, xb, xc]
              go_simp
              refine (HEf2.out _ (HY2.out.2.2.2.2.1.drew)).mono ?_
              rintro e w9 ⟨rfl, o8⟩
              have o9 : Out 0 0 W2 w9 := ((Out.refl 0 0 W2).drew).trans o8
              clear o8
              refine hK.out _ _ ?hS8 (fun hHeld2 => ?rest8)
              case hS8 => exact ⟨o9.cell p0 (.inr (Nat.zero_le _)), o9.cell p1 (.inr (Nat.zero_le _)), o9.cell p2 (.inr (Nat.zero_le _)), o9.cell dj2 (.inr (Nat.zero_le _)), o9.cell e0 (.inr (Nat.zero_le _)), o9.cell e1 (.inr (Nat.zero_le _))⟩
              clear hK KK
              (try clear hHeld)
              have hHeld := hHeld2
              clear hHeld2
              (try simp only [Act.put, xa, xb, xc, xd, xe, xf])
              refine tk 7 ?_
              refine wpAnyH_done (by kernel_rfl) ?_ _
              clear hHeld
              have HO9 := hid_mk o9
              replace p0 := o9.cell p0 (.inr (Nat.zero_le _))
              replace p1 := o9.cell p1 (.inr (Nat.zero_le _))
              replace p2 := o9.cell p2 (.inr (Nat.zero_le _))
              replace dj2 := o9.cell dj2 (.inr (Nat.zero_le _))
              replace e0 := o9.cell e0 (.inr (Nat.zero_le _))
              replace e1 := o9.cell e1 (.inr (Nat.zero_le _))
              have HY9 := hid_mk (HY2.out.quiet o9)
              clear o9
              by_cases ht : d < tkk
              · have q2 : decide (d < tkk) = true := by simpa using ht
                have HB74 := hid_mk (HST.out 74 (by unfold stF; simp only []; rw [HGD.out, HT.out.1, if_pos (by omega)]))
                clear p0 p1 p2 dj2 e0 e1
                go_wp2
                go_ret3
                exact RYQ.bad HB74.out HY9.out.2.2.2.2.1
              · have q2 : decide (d < tkk) = false := by simpa using ht
                have HTL := hid_mk ht
                obtain ⟨W3, hW3⟩ : ∃ W, W = w9 := ⟨_, rfl⟩
                subst hW3
                go_wp2_with fail
                obtain ⟨y, hy⟩ : ∃ y, d - tkk = y := ⟨_, rfl⟩
                obtain ⟨ptt, hpt⟩ : ∃ u, ptV op = u := ⟨_, rfl⟩
                have hpr : 0 ≤ ptt ∧ ptt ≤ 2 := by rw [← hpt]; exact ⟨pt_nn op, pt_le op⟩
                obtain ⟨dn, hdn⟩ : ∃ z, y + ptt = z := ⟨_, rfl⟩
                have v1 : IntKind.i64.wrap (d - tkk) = y := by have := HT.out.2; have := HDR.out; simp [IntKind.wrap, IntKind.signed, IntKind.bits]; omega
                have v2 : IntKind.i64.wrap (y + ptt) = dn := by have := HT.out.2; have := HDR.out; simp [IntKind.wrap, IntKind.signed, IntKind.bits]; omega
                have HPt : Hid (∀ W : World, Calls Tryd.prog 74 #[.agg #[.int .i64 op, .int .i64 a]] W fun x w' => x = .returned (.int .i64 ptt) ∧ Out 0 0 W w') := hid_mk fun W => by rw [← hpt]; exact rputs_any W op a
                have HDN : Hid (d - tkk + ptV op = dn ∧ 0 ≤ dn) := hid_mk ⟨by rw [hpt]; omega, by omega⟩
                clear hy hpt hpr hdn
                refine wp_region_held_drew (S := fun w' => w'.cell? ⟨b, 0, none⟩ = some (.int .i64 x) ∧ w'.cell? ⟨b, 1, none⟩ = some (.slice ta nt tc) ∧ w'.cell? ⟨b, 2, none⟩ = some (.slice fa nf fc) ∧ w'.cell? ⟨b + 1 + 1, i, none⟩ = some (.int .i64 d) ∧ w'.cell? ⟨gx, 0, none⟩ = some (.int .i64 op) ∧ w'.cell? ⟨gx, 1, none⟩ = some (.int .i64 a)) (by kernel_rfl) ?hS10 (fun hHeld => ?rest10)
                case hS10 => exact ⟨p0, p1, p2, dj2, e0, e1⟩
                refine tk 0 ?_
                refine tk 1 ?_
                refine tk 2 ?_
                refine tk 3 ?_
                refine tk 4 ?_
                refine tk 5 ?_
                refine tk 8 ?_
                refine wpAnyH_ready (rs := [6]) (by kernel_rfl) (by simp) ?_
                refine AllReadyH.cons rfl (fun KK hK => ?_) AllReadyH.nil
                simp only [xa, xb, xc]
                go_simp
                refine (HEf2.out _ (HY9.out.2.2.2.2.1.drew)).mono ?_
                rintro e w10 ⟨rfl, o8⟩
                have o9 : Out 0 0 W3 w10 := ((Out.refl 0 0 W3).drew).trans o8
                clear o8
                refine hK.out _ _ ?hS18 (fun hHeld2 => ?rest18)
                case hS18 => exact ⟨o9.cell p0 (.inr (Nat.zero_le _)), o9.cell p1 (.inr (Nat.zero_le _)), o9.cell p2 (.inr (Nat.zero_le _)), o9.cell dj2 (.inr (Nat.zero_le _)), o9.cell e0 (.inr (Nat.zero_le _)), o9.cell e1 (.inr (Nat.zero_le _))⟩
                clear hK KK
                (try clear hHeld)
                have hHeld := hHeld2
                clear hHeld2
                (try simp only [Act.put, xa, xb, xc, xd, xe, xf])
                refine tk 7 ?_
                refine wpAnyH_ready (rs := [9]) (by kernel_rfl) (by simp) ?_
                refine AllReadyH.cons rfl (fun KK hK => ?_) AllReadyH.nil
                simp only [xa, xb, xc]
                go_simp
                refine (HPt.out _).mono ?_
                rintro e w11 ⟨rfl, o8⟩
                have o10 : Out 0 0 W3 w11 := o9.trans o8
                clear o8
                refine hK.out _ _ ?hS20 (fun hHeld2 => ?rest20)
                case hS20 => exact ⟨o10.cell p0 (.inr (Nat.zero_le _)), o10.cell p1 (.inr (Nat.zero_le _)), o10.cell p2 (.inr (Nat.zero_le _)), o10.cell dj2 (.inr (Nat.zero_le _)), o10.cell e0 (.inr (Nat.zero_le _)), o10.cell e1 (.inr (Nat.zero_le _))⟩
                clear hK KK
                (try clear hHeld)
                have hHeld := hHeld2
                clear hHeld2
                (try simp only [Act.put, xa, xb, xc, xd, xe, xf])
                refine tk 10 ?_
                refine tk 11 ?_
                refine wpAnyH_done (by kernel_rfl) ?_ _
                clear hHeld
                have HO10 := hid_mk o10
                replace e0 := o10.cell e0 (.inr (Nat.zero_le _))
                replace e1 := o10.cell e1 (.inr (Nat.zero_le _))
                have HY10 := hid_mk (HY9.out.quiet o10)
                have HBX10 := hid_mk ((HBX.out.kept HO9.out (.inr (Nat.zero_le _))).kept o10 (.inr (Nat.zero_le _)))
                clear o9 o10 p0 p1 p2 dj2 HEf2 HPt v1 v2
                by_cases h64 : 64 < dn
                · have q3 : decide (64 < dn) = true := by simpa using h64
                  have HB75 := hid_mk (HST.out 75 (by unfold stF; simp only []; rw [HGD.out, HT.out.1, if_neg (by omega), HDN.out.1, if_pos h64]))
                  clear e0 e1
                  go_wp2
                  go_ret3
                  exact RYQ.bad HB75.out HY10.out.2.2.2.2.1
                · have q3 : decide (64 < dn) = false := by simpa using h64
                  have HSF : Hid (stF tkk n i (op, a) (D, R') = fldF n dn (tgF i (op, a)) (D, R')) := hid_mk (by
                    have h := st_fld (t := tkk) (n := n) (i := i) (x := (op, a)) (s := (D, R')) (fun q => by have := HX.out.2.2.2.2.1 q; omega) (by simp only []; rw [HGD.out]; omega) (by simp only []; rw [HGD.out, HDN.out.1]; exact h64)
                    simp only [] at h
                    rw [HGD.out, HDN.out.1] at h
                    exact h)
                  have HD64 := hid_mk h64
                  rcases hgb : goB op with _ | _
                  · by_cases h14 : op = 14
                    · subst h14
                      have hjb : juB 14 = true := rfl
                      obtain ⟨aj, haj⟩ := aj_ex HX.out.2.2.2.2.1 hjb
                      subst haj
                      go_wp2_with fail
                      refine (rends_any w11 14 (aj : Int)).mono ?_
                      rintro e w12 ⟨he, o12⟩
                      rw [hgb] at he
                      subst he
                      have HY12 := hid_mk (HY10.out.quiet o12)
                      replace e0 := o12.cell e0 (.inr (Nat.zero_le _))
                      replace e1 := o12.cell e1 (.inr (Nat.zero_le _))
                      have HBX12 := hid_mk (HBX10.out.kept o12 (.inr (Nat.zero_le _)))
                      have hsz : (b + 1 + 1 + 1 + 1) ≤ w12.heap.size := HY12.out.2.2.2.1.lt
                      have HSZ := hid_mk hsz
                      clear o12 hsz
                      have HTG : Hid (tgF i (14, (aj : Int)) = [aj]) := hid_mk (tg_01 hgb hjb)
                      go_wp2_with (at_builtin; refine app_put Tryd.underlying68 info_i rfl (by decide) (by decide) rfl _ _ rfl rfl rfl (World.ownsRow_nil _ (b + 1 + 1 + 1 + 1) _ 1) (by rw [size_alloc]; have := HSZ.out; omega) (ys := [.int .i64 (aj : Int)]) (Bl.new w12 #[.int .i64 (aj : Int)] 3) rfl one_i (by omega) ?_; intro a13 c13 w13 q1 q2 q3; have H13 : Hid (w13.ownsRow (b + 1 + 1 + 1 + 1) 3 1 (.slice a13 1 c13) 1 (nvs [aj])) := hid_mk q1; have HO13 : Hid (Out 0 0 w12 w13) := hid_mk (((Out.refl 0 0 w12).alloc _).trans (out_n q2)); have e0 := HO13.out.cell e0 (.inr (Nat.zero_le _)); have e1 := HO13.out.cell e1 (.inr (Nat.zero_le _)); clear q1 q2 q3)
                      have HYE := hid_mk (HY12.out.quiet HO13.out)
                      have HWE := H13
                      go_loopw [14, 15] (fun nv kv wz => ∃ (kk nx : Nat) (D2 : List Int) (R2 : List Nat), kv = .int .i64 kk ∧ kk ≤ 1 ∧ nv = .int .i64 nx ∧ nx ≤ i1 ∧ RI n D2 (G.set i true) R2 nx ∧ YS w b #[.int .i64 x, .slice ta nt tc, .slice fa nf fc] #[.int .i64 P, .int .i64 L, .int .i64 C, .slice (some ⟨qc, oc, none⟩) n c] wz D2 (G.set i true) ∧ fldF n dn (([aj] : List Nat).drop kk) (D2, R2) = fldF n dn [aj] (D, R') ∧ wz.ownsRow (b + 1 + 1 + 1 + 1) 3 1 (.slice a13 1 c13) 1 (nvs [aj])) (fun _ kv _ => 1 - (intOf kv).toNat)
                      case atStart => exact ⟨0, i1, D, R', rfl, Nat.zero_le _, by rw [HIW.out], Nat.le_refl _, by rw [← HI.out.2.1]; exact HTK.out, HYE.out, rfl, HWE.out⟩
                      case round =>
                        obtain ⟨kk, nx, D2, R2, rfl, hkk, rfl, hnx, hri2, hy3, hfl, how⟩ := hrel
                        have HR2 := hid_mk hri2
                        have HY3 := hid_mk hy3
                        have HFL := hid_mk hfl
                        have HOW := hid_mk how
                        by_cases hkm : kk < 1
                        · have w1 : decide ((kk : Int) < 1) = true := by simp; omega
                          have w2 : decide (kk < 1) = true := by simpa using hkm
                          have w3 : (kk : Int) < 1 := by omega
                          obtain ⟨t, ht⟩ : ∃ t, ([aj] : List Nat)[kk]? = some t := ⟨_, List.getElem?_eq_getElem (by simp only [List.length_cons, List.length_nil]; omega)⟩
                          obtain ⟨qo, hqo, hqb, oc1⟩ := nown how ht
                          cases hqo
                          have f3 := hy3.2.1.cell (i := 3) rfl
                          have HK := hid_mk (And.intro hkm (And.intro ht hnx))
                          by_cases htn : t < n
                          · have r1 : decide ((n : Int) ≤ (t : Int)) = false := by simp; omega
                            have r2 : decide (n ≤ t) = false := by simp; omega
                            have r3 : (t : Int) < (n : Int) := by omega
                            obtain ⟨dt, hdt⟩ : ∃ x, D2[t]? = some x := ⟨_, List.getElem?_eq_getElem (by have := hri2.1.1; simp only [] at this; omega)⟩
                            have dc := iv_cell hy3.2.2.1 hdt
                            have dz := hy3.2.2.1.frozen t
                            have HTN := hid_mk htn
                            by_cases hmt : 0 ≤ dt ∧ dt ≠ dn
                            · have s1 : decide (0 ≤ dt) = true := by simpa using hmt.1
                              have s2 : (dt != dn) = true := by simpa using hmt.2
                              have HON := hid_mk (on_none (R := R2) hdt hmt)
                              clear hmt hdt htn hri2 hy3 hfl how hkm ht hkk hnx
                              go_wp2_with fail
                              go_region
                              go_wp2
                              go_ret3
                              exact RYQ.bad (HST.out 76 (by rw [HT.out.1, HSF.out, HTG.out, ← HFL.out, dropc HK.out.2.1]; unfold fldF; rw [if_pos HTN.out, HON.out])) HY3.out.2.2.2.2.1.drew
                            · obtain ⟨R3, hon, hri3'⟩ := hri2.on hdt HDN.out.2 (by have := HD64.out; omega) hmt
                              have HON := hid_mk hon
                              by_cases hneg : 0 ≤ dt
                              · have s1 : decide (0 ≤ dt) = true := by simpa using hneg
                                have s2 : (dt != dn) = false := by simp; exact Classical.byContradiction fun q => hmt ⟨hneg, q⟩
                                clear hmt hdt htn hri2 hy3 hfl how hkm ht hkk hon hneg
                                by_cases hlt : t < nx
                                · obtain ⟨m1, m2⟩ := lt_dec hlt
                                  obtain ⟨gb, hgb2⟩ : ∃ g, (G.set i true)[t]? = some g := ⟨_, List.getElem?_eq_getElem (by have := HR2.out.2.1; have := HTN.out; omega)⟩
                                  have gc := HY3.out.2.2.2.1.cell (bls_at hgb2)
                                  cases gb
                                  · have hri3 : RI n (D2.set t dn) (G.set i true) R3 t := by have h := hri3'; rwa [if_pos ⟨hlt, hgb2⟩] at h
                                    have HRI3 := hid_mk hri3
                                    have HNX := hid_mk (And.intro hlt hnx)
                                    clear hri3' hri3 hlt hgb2 hnx
                                    go_wp2_with fail
                                    go_region
                                    go_wp2
                                    exact ⟨⟨kk + 1, t, _, R3, rfl, HK.out.1, rfl, by have := HNX.out; omega, HRI3.out, (HY3.out.quiet ((Out.refl 0 0 _).drew)).setD t dn, by rw [← HFL.out, dropc HK.out.2.1]; simp only [fldF]; rw [if_pos HTN.out, HON.out], own_set (own_out HOW.out ((Out.refl 0 0 _).drew)) (by omega)⟩, msK2 HK.out.1⟩
                                  · have hri3 : RI n (D2.set t dn) (G.set i true) R3 nx := by have h := hri3'; rwa [if_neg (fun q => by rw [hgb2] at q; cases q.2)] at h
                                    have HRI3 := hid_mk hri3
                                    have HNX := hid_mk hnx
                                    clear hri3' hri3 hlt hgb2 hnx
                                    go_wp2_with fail
                                    go_region
                                    go_wp2
                                    exact ⟨⟨kk + 1, nx, _, R3, rfl, HK.out.1, rfl, HNX.out, HRI3.out, (HY3.out.quiet ((Out.refl 0 0 _).drew)).setD t dn, by rw [← HFL.out, dropc HK.out.2.1]; simp only [fldF]; rw [if_pos HTN.out, HON.out], own_set (own_out HOW.out ((Out.refl 0 0 _).drew)) (by omega)⟩, msK2 HK.out.1⟩
                                · obtain ⟨m1, m2⟩ := ge_dec hlt
                                  have hri3 : RI n (D2.set t dn) (G.set i true) R3 nx := by have h := hri3'; rwa [if_neg (fun q => hlt q.1)] at h
                                  have HRI3 := hid_mk hri3
                                  have HNX := hid_mk hnx
                                  clear hri3' hri3 hlt hnx
                                  go_wp2_with fail
                                  go_region
                                  go_wp2
                                  exact ⟨⟨kk + 1, nx, _, R3, rfl, HK.out.1, rfl, HNX.out, HRI3.out, (HY3.out.quiet ((Out.refl 0 0 _).drew)).setD t dn, by rw [← HFL.out, dropc HK.out.2.1]; simp only [fldF]; rw [if_pos HTN.out, HON.out], own_set (own_out HOW.out ((Out.refl 0 0 _).drew)) (by omega)⟩, msK2 HK.out.1⟩
                              · have s1 : decide (0 ≤ dt) = false := by simpa using hneg
                                clear hmt hdt htn hri2 hy3 hfl how hkm ht hkk hon hneg
                                by_cases hlt : t < nx
                                · obtain ⟨m1, m2⟩ := lt_dec hlt
                                  obtain ⟨gb, hgb2⟩ : ∃ g, (G.set i true)[t]? = some g := ⟨_, List.getElem?_eq_getElem (by have := HR2.out.2.1; have := HTN.out; omega)⟩
                                  have gc := HY3.out.2.2.2.1.cell (bls_at hgb2)
                                  cases gb
                                  · have hri3 : RI n (D2.set t dn) (G.set i true) R3 t := by have h := hri3'; rwa [if_pos ⟨hlt, hgb2⟩] at h
                                    have HRI3 := hid_mk hri3
                                    have HNX := hid_mk (And.intro hlt hnx)
                                    clear hri3' hri3 hlt hgb2 hnx
                                    go_wp2_with fail
                                    go_region
                                    go_wp2
                                    exact ⟨⟨kk + 1, t, _, R3, rfl, HK.out.1, rfl, by have := HNX.out; omega, HRI3.out, (HY3.out.quiet ((Out.refl 0 0 _).drew)).setD t dn, by rw [← HFL.out, dropc HK.out.2.1]; simp only [fldF]; rw [if_pos HTN.out, HON.out], own_set (own_out HOW.out ((Out.refl 0 0 _).drew)) (by omega)⟩, msK2 HK.out.1⟩
                                  · have hri3 : RI n (D2.set t dn) (G.set i true) R3 nx := by have h := hri3'; rwa [if_neg (fun q => by rw [hgb2] at q; cases q.2)] at h
                                    have HRI3 := hid_mk hri3
                                    have HNX := hid_mk hnx
                                    clear hri3' hri3 hlt hgb2 hnx
                                    go_wp2_with fail
                                    go_region
                                    go_wp2
                                    exact ⟨⟨kk + 1, nx, _, R3, rfl, HK.out.1, rfl, HNX.out, HRI3.out, (HY3.out.quiet ((Out.refl 0 0 _).drew)).setD t dn, by rw [← HFL.out, dropc HK.out.2.1]; simp only [fldF]; rw [if_pos HTN.out, HON.out], own_set (own_out HOW.out ((Out.refl 0 0 _).drew)) (by omega)⟩, msK2 HK.out.1⟩
                                · obtain ⟨m1, m2⟩ := ge_dec hlt
                                  have hri3 : RI n (D2.set t dn) (G.set i true) R3 nx := by have h := hri3'; rwa [if_neg (fun q => hlt q.1)] at h
                                  have HRI3 := hid_mk hri3
                                  have HNX := hid_mk hnx
                                  clear hri3' hri3 hlt hnx
                                  go_wp2_with fail
                                  go_region
                                  go_wp2
                                  exact ⟨⟨kk + 1, nx, _, R3, rfl, HK.out.1, rfl, HNX.out, HRI3.out, (HY3.out.quiet ((Out.refl 0 0 _).drew)).setD t dn, by rw [← HFL.out, dropc HK.out.2.1]; simp only [fldF]; rw [if_pos HTN.out, HON.out], own_set (own_out HOW.out ((Out.refl 0 0 _).drew)) (by omega)⟩, msK2 HK.out.1⟩
                          · have r1 : decide ((n : Int) ≤ (t : Int)) = true := by simp; omega
                            have r2 : decide (n ≤ t) = true := by simp; omega
                            have HTN := hid_mk htn
                            clear htn hri2 hy3 hfl how hkm ht hkk hnx
                            go_wp2_with fail
                            go_region
                            go_wp2
                            go_ret3
                            exact RYQ.bad (HST.out 77 (by rw [HT.out.1, HSF.out, HTG.out, ← HFL.out, dropc HK.out.2.1]; unfold fldF; rw [if_neg HTN.out])) HY3.out.2.2.2.2.1.drew
                        · obtain rfl : kk = 1 := by omega
                          have HEN : Hid (stF tkk n i (14, (aj : Int)) (D, R') = .inr (D2, R2)) := hid_mk (by rw [HSF.out, HTG.out, ← hfl]; rfl)
                          obtain ⟨k', hk', hwy'⟩ := wy_go (tk := tkV fs) (cd := cd) (s := (D2, R2)) HX.out.1 HWY.out.2 (by rw [HN.out.1, HT.out.1]; exact HEN.out)
                          have hun := fld_ok HDN.out.2 (by have := HD64.out; omega) HTK.out.1 (show fldF n dn [aj] (D, R') = .inr (D2, R2) by rw [← hfl]; rfl)
                          have HF : Hid (wyF (tkV fs) cd k' (D2, R2) = wyA fs cd ∧ unk D2 + R2.length ≤ k' ∧ nx ≤ n) := hid_mk ⟨by rw [← HWY.out.1]; exact hwy'.symm, by have := HWY.out.2; simp only [List.length_cons] at this hun; omega, by have := HI.out; omega⟩
                          clear hkm hkk hri2 hy3 hfl how hk' hwy' hun hnx
                          go_wp2
                          exact ⟨⟨nx, D2, _, R2, k', rfl, HF.out.2.2, HR2.out, HY3.out, HF.out.1, HF.out.2.1⟩, by rw [wcnt_is HY3.out.2.2.2.1, wcnt_is HYS.out.2.2.2.1]; exact ms_g (cnt_set HI.out.2.2.2)⟩
                    · by_cases h15 : op = 15
                      · rw [h15] at hgb; cases hgb
                      · have n14 : (op == 14) = false := by simpa using h14
                        have n15 : (op == 15) = false := by simpa using h15
                        have hjb : juB op = false := by unfold juB; rw [n14, n15]; rfl
                        go_wp2_with fail
                        refine (rends_any w11 op a).mono ?_
                        rintro e w12 ⟨he, o12⟩
                        rw [hgb] at he
                        subst he
                        have HY12 := hid_mk (HY10.out.quiet o12)
                        replace e0 := o12.cell e0 (.inr (Nat.zero_le _))
                        replace e1 := o12.cell e1 (.inr (Nat.zero_le _))
                        have HBX12 := hid_mk (HBX10.out.kept o12 (.inr (Nat.zero_le _)))
                        have hsz : (b + 1 + 1 + 1 + 1) ≤ w12.heap.size := HY12.out.2.2.2.1.lt
                        have HSZ := hid_mk hsz
                        clear o12 hsz
                        have HTG : Hid (tgF i (op, a) = []) := hid_mk (tg_00 hgb hjb)
                        have HYE := HY12
                        have HWE : Hid (w12.ownsRow (b + 1 + 1 + 1 + 1) 3 1 (.slice none 0 0) 0 (nvs [])) := hid_mk (World.ownsRow_nil _ _ _ 1)
                        go_wp2_with fail
                        go_loopw [14, 15] (fun nv kv wz => ∃ (kk nx : Nat) (D2 : List Int) (R2 : List Nat), kv = .int .i64 kk ∧ kk ≤ 0 ∧ nv = .int .i64 nx ∧ nx ≤ i1 ∧ RI n D2 (G.set i true) R2 nx ∧ YS w b #[.int .i64 x, .slice ta nt tc, .slice fa nf fc] #[.int .i64 P, .int .i64 L, .int .i64 C, .slice (some ⟨qc, oc, none⟩) n c] wz D2 (G.set i true) ∧ fldF n dn (([] : List Nat).drop kk) (D2, R2) = fldF n dn [] (D, R') ∧ wz.ownsRow (b + 1 + 1 + 1 + 1) 3 1 (.slice none 0 0) 0 (nvs [])) (fun _ kv _ => 0 - (intOf kv).toNat)
                        case atStart => exact ⟨0, i1, D, R', rfl, Nat.zero_le _, by rw [HIW.out], Nat.le_refl _, by rw [← HI.out.2.1]; exact HTK.out, HYE.out, rfl, HWE.out⟩
                        case round =>
                          obtain ⟨kk, nx, D2, R2, rfl, hkk, rfl, hnx, hri2, hy3, hfl, how⟩ := hrel
                          have HR2 := hid_mk hri2
                          have HY3 := hid_mk hy3
                          have HFL := hid_mk hfl
                          have HOW := hid_mk how
                          obtain rfl : kk = 0 := by omega
                          have HEN : Hid (stF tkk n i (op, a) (D, R') = .inr (D2, R2)) := hid_mk (by rw [HSF.out, HTG.out, ← hfl]; rfl)
                          obtain ⟨k', hk', hwy'⟩ := wy_go (tk := tkV fs) (cd := cd) (s := (D2, R2)) HX.out.1 HWY.out.2 (by rw [HN.out.1, HT.out.1]; exact HEN.out)
                          have hun := fld_ok HDN.out.2 (by have := HD64.out; omega) HTK.out.1 (show fldF n dn [] (D, R') = .inr (D2, R2) by rw [← hfl]; rfl)
                          have HF : Hid (wyF (tkV fs) cd k' (D2, R2) = wyA fs cd ∧ unk D2 + R2.length ≤ k' ∧ nx ≤ n) := hid_mk ⟨by rw [← HWY.out.1]; exact hwy'.symm, by have := HWY.out.2; simp only [List.length_cons] at this hun; omega, by have := HI.out; omega⟩
                          clear hkk hri2 hy3 hfl how hk' hwy' hun hnx
                          go_wp2
                          exact ⟨⟨nx, D2, _, R2, k', rfl, HF.out.2.2, HR2.out, HY3.out, HF.out.1, HF.out.2.1⟩, by rw [wcnt_is HY3.out.2.2.2.1, wcnt_is HYS.out.2.2.2.1]; exact ms_g (cnt_set HI.out.2.2.2)⟩
                  · by_cases h14 : op = 14
                    · rw [h14] at hgb; cases hgb
                    · by_cases h15 : op = 15
                      · subst h15
                        have hjb : juB 15 = true := rfl
                        obtain ⟨aj, haj⟩ := aj_ex HX.out.2.2.2.2.1 hjb
                        subst haj
                        go_wp2_with fail
                        refine (rends_any w11 15 (aj : Int)).mono ?_
                        rintro e w12 ⟨he, o12⟩
                        rw [hgb] at he
                        subst he
                        have HY12 := hid_mk (HY10.out.quiet o12)
                        replace e0 := o12.cell e0 (.inr (Nat.zero_le _))
                        replace e1 := o12.cell e1 (.inr (Nat.zero_le _))
                        have HBX12 := hid_mk (HBX10.out.kept o12 (.inr (Nat.zero_le _)))
                        have hsz : (b + 1 + 1 + 1 + 1) ≤ w12.heap.size := HY12.out.2.2.2.1.lt
                        have HSZ := hid_mk hsz
                        clear o12 hsz
                        have HTG : Hid (tgF i (15, (aj : Int)) = [i1, aj]) := hid_mk (tg_11 hgb hjb HI.out.2.1)
                        have hiw := HIW.out
                        go_wp2_with (first | (at_builtin; refine app_put Tryd.underlying68 info_i rfl (by decide) (by decide) rfl _ _ rfl rfl rfl (World.ownsRow_nil _ (b + 1 + 1 + 1 + 1) _ 1) (by rw [size_alloc]; have := HSZ.out; omega) (ys := [.int .i64 (i1 : Int)]) (Bl.new w12 #[.int .i64 (i1 : Int)] 3) rfl one_i (by omega) ?_; intro a13 c13 w13 q1 q2 q3; have H13 : Hid (w13.ownsRow (b + 1 + 1 + 1 + 1) 3 1 (.slice a13 1 c13) 1 (nvs [i1])) := hid_mk q1; have HO13 : Hid (Out 0 0 w12 w13) := hid_mk (((Out.refl 0 0 w12).alloc _).trans (out_n q2)); have e0 := HO13.out.cell e0 (.inr (Nat.zero_le _)); have e1 := HO13.out.cell e1 (.inr (Nat.zero_le _)); clear q1 q2 q3) | (at_builtin; refine app_put Tryd.underlying68 info_i rfl (by decide) (by decide) rfl _ _ rfl rfl rfl (own_out H13.out ((Out.refl 0 0 w13).alloc _)) (by rw [size_alloc]; have := HSZ.out; have := HO13.out.size; omega) (ys := [.int .i64 (aj : Int)]) (Bl.new w13 #[.int .i64 (aj : Int)] 3) rfl one_i (by omega) ?_; intro a14 c14 w14 q1 q2 q3; have H14 : Hid (w14.ownsRow (b + 1 + 1 + 1 + 1) 3 1 (.slice a14 2 c14) 2 (nvs [i1, aj])) := hid_mk q1; have HY14 := hid_mk ((HY12.out.quiet (HO13.out.trans ((Out.refl 0 0 w13).alloc _))).fx q2 (fun k hk => (own_ge (own_out H13.out ((Out.refl 0 0 w13).alloc (.cells #[.int .i64 (aj : Int)] 3))) hk).1)); clear q1 q2 q3))
                        clear hiw
                        have HYE := HY14
                        have HWE := H14
                        go_loopw [14, 15] (fun nv kv wz => ∃ (kk nx : Nat) (D2 : List Int) (R2 : List Nat), kv = .int .i64 kk ∧ kk ≤ 2 ∧ nv = .int .i64 nx ∧ nx ≤ i1 ∧ RI n D2 (G.set i true) R2 nx ∧ YS w b #[.int .i64 x, .slice ta nt tc, .slice fa nf fc] #[.int .i64 P, .int .i64 L, .int .i64 C, .slice (some ⟨qc, oc, none⟩) n c] wz D2 (G.set i true) ∧ fldF n dn (([i1, aj] : List Nat).drop kk) (D2, R2) = fldF n dn [i1, aj] (D, R') ∧ wz.ownsRow (b + 1 + 1 + 1 + 1) 3 1 (.slice a14 2 c14) 2 (nvs [i1, aj])) (fun _ kv _ => 2 - (intOf kv).toNat)
                        case atStart => exact ⟨0, i1, D, R', rfl, Nat.zero_le _, by rw [HIW.out], Nat.le_refl _, by rw [← HI.out.2.1]; exact HTK.out, HYE.out, rfl, HWE.out⟩
                        case round =>
                          obtain ⟨kk, nx, D2, R2, rfl, hkk, rfl, hnx, hri2, hy3, hfl, how⟩ := hrel
                          have HR2 := hid_mk hri2
                          have HY3 := hid_mk hy3
                          have HFL := hid_mk hfl
                          have HOW := hid_mk how
                          by_cases hkm : kk < 2
                          · have w1 : decide ((kk : Int) < 2) = true := by simp; omega
                            have w2 : decide (kk < 2) = true := by simpa using hkm
                            have w3 : (kk : Int) < 2 := by omega
                            obtain ⟨t, ht⟩ : ∃ t, ([i1, aj] : List Nat)[kk]? = some t := ⟨_, List.getElem?_eq_getElem (by simp only [List.length_cons, List.length_nil]; omega)⟩
                            obtain ⟨qo, hqo, hqb, oc1⟩ := nown how ht
                            cases hqo
                            have f3 := hy3.2.1.cell (i := 3) rfl
                            have HK := hid_mk (And.intro hkm (And.intro ht hnx))
                            by_cases htn : t < n
                            · have r1 : decide ((n : Int) ≤ (t : Int)) = false := by simp; omega
                              have r2 : decide (n ≤ t) = false := by simp; omega
                              have r3 : (t : Int) < (n : Int) := by omega
                              obtain ⟨dt, hdt⟩ : ∃ x, D2[t]? = some x := ⟨_, List.getElem?_eq_getElem (by have := hri2.1.1; simp only [] at this; omega)⟩
                              have dc := iv_cell hy3.2.2.1 hdt
                              have dz := hy3.2.2.1.frozen t
                              have HTN := hid_mk htn
                              by_cases hmt : 0 ≤ dt ∧ dt ≠ dn
                              · have s1 : decide (0 ≤ dt) = true := by simpa using hmt.1
                                have s2 : (dt != dn) = true := by simpa using hmt.2
                                have HON := hid_mk (on_none (R := R2) hdt hmt)
                                clear hmt hdt htn hri2 hy3 hfl how hkm ht hkk hnx
                                go_wp2_with fail
                                go_region
                                go_wp2
                                go_ret3
                                exact RYQ.bad (HST.out 76 (by rw [HT.out.1, HSF.out, HTG.out, ← HFL.out, dropc HK.out.2.1]; unfold fldF; rw [if_pos HTN.out, HON.out])) HY3.out.2.2.2.2.1.drew
                              · obtain ⟨R3, hon, hri3'⟩ := hri2.on hdt HDN.out.2 (by have := HD64.out; omega) hmt
                                have HON := hid_mk hon
                                by_cases hneg : 0 ≤ dt
                                · have s1 : decide (0 ≤ dt) = true := by simpa using hneg
                                  have s2 : (dt != dn) = false := by simp; exact Classical.byContradiction fun q => hmt ⟨hneg, q⟩
                                  clear hmt hdt htn hri2 hy3 hfl how hkm ht hkk hon hneg
                                  by_cases hlt : t < nx
                                  · obtain ⟨m1, m2⟩ := lt_dec hlt
                                    obtain ⟨gb, hgb2⟩ : ∃ g, (G.set i true)[t]? = some g := ⟨_, List.getElem?_eq_getElem (by have := HR2.out.2.1; have := HTN.out; omega)⟩
                                    have gc := HY3.out.2.2.2.1.cell (bls_at hgb2)
                                    cases gb
                                    · have hri3 : RI n (D2.set t dn) (G.set i true) R3 t := by have h := hri3'; rwa [if_pos ⟨hlt, hgb2⟩] at h
                                      have HRI3 := hid_mk hri3
                                      have HNX := hid_mk (And.intro hlt hnx)
                                      clear hri3' hri3 hlt hgb2 hnx
                                      go_wp2_with fail
                                      go_region
                                      go_wp2
                                      exact ⟨⟨kk + 1, t, _, R3, rfl, HK.out.1, rfl, by have := HNX.out; omega, HRI3.out, (HY3.out.quiet ((Out.refl 0 0 _).drew)).setD t dn, by rw [← HFL.out, dropc HK.out.2.1]; simp only [fldF]; rw [if_pos HTN.out, HON.out], own_set (own_out HOW.out ((Out.refl 0 0 _).drew)) (by omega)⟩, msK2 HK.out.1⟩
                                    · have hri3 : RI n (D2.set t dn) (G.set i true) R3 nx := by have h := hri3'; rwa [if_neg (fun q => by rw [hgb2] at q; cases q.2)] at h
                                      have HRI3 := hid_mk hri3
                                      have HNX := hid_mk hnx
                                      clear hri3' hri3 hlt hgb2 hnx
                                      go_wp2_with fail
                                      go_region
                                      go_wp2
                                      exact ⟨⟨kk + 1, nx, _, R3, rfl, HK.out.1, rfl, HNX.out, HRI3.out, (HY3.out.quiet ((Out.refl 0 0 _).drew)).setD t dn, by rw [← HFL.out, dropc HK.out.2.1]; simp only [fldF]; rw [if_pos HTN.out, HON.out], own_set (own_out HOW.out ((Out.refl 0 0 _).drew)) (by omega)⟩, msK2 HK.out.1⟩
                                  · obtain ⟨m1, m2⟩ := ge_dec hlt
                                    have hri3 : RI n (D2.set t dn) (G.set i true) R3 nx := by have h := hri3'; rwa [if_neg (fun q => hlt q.1)] at h
                                    have HRI3 := hid_mk hri3
                                    have HNX := hid_mk hnx
                                    clear hri3' hri3 hlt hnx
                                    go_wp2_with fail
                                    go_region
                                    go_wp2
                                    exact ⟨⟨kk + 1, nx, _, R3, rfl, HK.out.1, rfl, HNX.out, HRI3.out, (HY3.out.quiet ((Out.refl 0 0 _).drew)).setD t dn, by rw [← HFL.out, dropc HK.out.2.1]; simp only [fldF]; rw [if_pos HTN.out, HON.out], own_set (own_out HOW.out ((Out.refl 0 0 _).drew)) (by omega)⟩, msK2 HK.out.1⟩
                                · have s1 : decide (0 ≤ dt) = false := by simpa using hneg
                                  clear hmt hdt htn hri2 hy3 hfl how hkm ht hkk hon hneg
                                  by_cases hlt : t < nx
                                  · obtain ⟨m1, m2⟩ := lt_dec hlt
                                    obtain ⟨gb, hgb2⟩ : ∃ g, (G.set i true)[t]? = some g := ⟨_, List.getElem?_eq_getElem (by have := HR2.out.2.1; have := HTN.out; omega)⟩
                                    have gc := HY3.out.2.2.2.1.cell (bls_at hgb2)
                                    cases gb
                                    · have hri3 : RI n (D2.set t dn) (G.set i true) R3 t := by have h := hri3'; rwa [if_pos ⟨hlt, hgb2⟩] at h
                                      have HRI3 := hid_mk hri3
                                      have HNX := hid_mk (And.intro hlt hnx)
                                      clear hri3' hri3 hlt hgb2 hnx
                                      go_wp2_with fail
                                      go_region
                                      go_wp2
                                      exact ⟨⟨kk + 1, t, _, R3, rfl, HK.out.1, rfl, by have := HNX.out; omega, HRI3.out, (HY3.out.quiet ((Out.refl 0 0 _).drew)).setD t dn, by rw [← HFL.out, dropc HK.out.2.1]; simp only [fldF]; rw [if_pos HTN.out, HON.out], own_set (own_out HOW.out ((Out.refl 0 0 _).drew)) (by omega)⟩, msK2 HK.out.1⟩
                                    · have hri3 : RI n (D2.set t dn) (G.set i true) R3 nx := by have h := hri3'; rwa [if_neg (fun q => by rw [hgb2] at q; cases q.2)] at h
                                      have HRI3 := hid_mk hri3
                                      have HNX := hid_mk hnx
                                      clear hri3' hri3 hlt hgb2 hnx
                                      go_wp2_with fail
                                      go_region
                                      go_wp2
                                      exact ⟨⟨kk + 1, nx, _, R3, rfl, HK.out.1, rfl, HNX.out, HRI3.out, (HY3.out.quiet ((Out.refl 0 0 _).drew)).setD t dn, by rw [← HFL.out, dropc HK.out.2.1]; simp only [fldF]; rw [if_pos HTN.out, HON.out], own_set (own_out HOW.out ((Out.refl 0 0 _).drew)) (by omega)⟩, msK2 HK.out.1⟩
                                  · obtain ⟨m1, m2⟩ := ge_dec hlt
                                    have hri3 : RI n (D2.set t dn) (G.set i true) R3 nx := by have h := hri3'; rwa [if_neg (fun q => hlt q.1)] at h
                                    have HRI3 := hid_mk hri3
                                    have HNX := hid_mk hnx
                                    clear hri3' hri3 hlt hnx
                                    go_wp2_with fail
                                    go_region
                                    go_wp2
                                    exact ⟨⟨kk + 1, nx, _, R3, rfl, HK.out.1, rfl, HNX.out, HRI3.out, (HY3.out.quiet ((Out.refl 0 0 _).drew)).setD t dn, by rw [← HFL.out, dropc HK.out.2.1]; simp only [fldF]; rw [if_pos HTN.out, HON.out], own_set (own_out HOW.out ((Out.refl 0 0 _).drew)) (by omega)⟩, msK2 HK.out.1⟩
                            · have r1 : decide ((n : Int) ≤ (t : Int)) = true := by simp; omega
                              have r2 : decide (n ≤ t) = true := by simp; omega
                              have HTN := hid_mk htn
                              clear htn hri2 hy3 hfl how hkm ht hkk hnx
                              go_wp2_with fail
                              go_region
                              go_wp2
                              go_ret3
                              exact RYQ.bad (HST.out 77 (by rw [HT.out.1, HSF.out, HTG.out, ← HFL.out, dropc HK.out.2.1]; unfold fldF; rw [if_neg HTN.out])) HY3.out.2.2.2.2.1.drew
                          · obtain rfl : kk = 2 := by omega
                            have HEN : Hid (stF tkk n i (15, (aj : Int)) (D, R') = .inr (D2, R2)) := hid_mk (by rw [HSF.out, HTG.out, ← hfl]; rfl)
                            obtain ⟨k', hk', hwy'⟩ := wy_go (tk := tkV fs) (cd := cd) (s := (D2, R2)) HX.out.1 HWY.out.2 (by rw [HN.out.1, HT.out.1]; exact HEN.out)
                            have hun := fld_ok HDN.out.2 (by have := HD64.out; omega) HTK.out.1 (show fldF n dn [i1, aj] (D, R') = .inr (D2, R2) by rw [← hfl]; rfl)
                            have HF : Hid (wyF (tkV fs) cd k' (D2, R2) = wyA fs cd ∧ unk D2 + R2.length ≤ k' ∧ nx ≤ n) := hid_mk ⟨by rw [← HWY.out.1]; exact hwy'.symm, by have := HWY.out.2; simp only [List.length_cons] at this hun; omega, by have := HI.out; omega⟩
                            clear hkm hkk hri2 hy3 hfl how hk' hwy' hun hnx
                            go_wp2
                            exact ⟨⟨nx, D2, _, R2, k', rfl, HF.out.2.2, HR2.out, HY3.out, HF.out.1, HF.out.2.1⟩, by rw [wcnt_is HY3.out.2.2.2.1, wcnt_is HYS.out.2.2.2.1]; exact ms_g (cnt_set HI.out.2.2.2)⟩
                      · have n14 : (op == 14) = false := by simpa using h14
                        have n15 : (op == 15) = false := by simpa using h15
                        have hjb : juB op = false := by unfold juB; rw [n14, n15]; rfl
                        go_wp2_with fail
                        refine (rends_any w11 op a).mono ?_
                        rintro e w12 ⟨he, o12⟩
                        rw [hgb] at he
                        subst he
                        have HY12 := hid_mk (HY10.out.quiet o12)
                        replace e0 := o12.cell e0 (.inr (Nat.zero_le _))
                        replace e1 := o12.cell e1 (.inr (Nat.zero_le _))
                        have HBX12 := hid_mk (HBX10.out.kept o12 (.inr (Nat.zero_le _)))
                        have hsz : (b + 1 + 1 + 1 + 1) ≤ w12.heap.size := HY12.out.2.2.2.1.lt
                        have HSZ := hid_mk hsz
                        clear o12 hsz
                        have HTG : Hid (tgF i (op, a) = [i1]) := hid_mk (tg_10 hgb hjb HI.out.2.1)
                        have hiw := HIW.out
                        go_wp2_with (at_builtin; refine app_put Tryd.underlying68 info_i rfl (by decide) (by decide) rfl _ _ rfl rfl rfl (World.ownsRow_nil _ (b + 1 + 1 + 1 + 1) _ 1) (by rw [size_alloc]; have := HSZ.out; omega) (ys := [.int .i64 (i1 : Int)]) (Bl.new w12 #[.int .i64 (i1 : Int)] 3) rfl one_i (by omega) ?_; intro a13 c13 w13 q1 q2 q3; have H13 : Hid (w13.ownsRow (b + 1 + 1 + 1 + 1) 3 1 (.slice a13 1 c13) 1 (nvs [i1])) := hid_mk q1; have HO13 : Hid (Out 0 0 w12 w13) := hid_mk (((Out.refl 0 0 w12).alloc _).trans (out_n q2)); have e0 := HO13.out.cell e0 (.inr (Nat.zero_le _)); have e1 := HO13.out.cell e1 (.inr (Nat.zero_le _)); clear q1 q2 q3)
                        clear hiw
                        have HYE := hid_mk (HY12.out.quiet HO13.out)
                        have HWE := H13
                        go_loopw [14, 15] (fun nv kv wz => ∃ (kk nx : Nat) (D2 : List Int) (R2 : List Nat), kv = .int .i64 kk ∧ kk ≤ 1 ∧ nv = .int .i64 nx ∧ nx ≤ i1 ∧ RI n D2 (G.set i true) R2 nx ∧ YS w b #[.int .i64 x, .slice ta nt tc, .slice fa nf fc] #[.int .i64 P, .int .i64 L, .int .i64 C, .slice (some ⟨qc, oc, none⟩) n c] wz D2 (G.set i true) ∧ fldF n dn (([i1] : List Nat).drop kk) (D2, R2) = fldF n dn [i1] (D, R') ∧ wz.ownsRow (b + 1 + 1 + 1 + 1) 3 1 (.slice a13 1 c13) 1 (nvs [i1])) (fun _ kv _ => 1 - (intOf kv).toNat)
                        case atStart => exact ⟨0, i1, D, R', rfl, Nat.zero_le _, by rw [HIW.out], Nat.le_refl _, by rw [← HI.out.2.1]; exact HTK.out, HYE.out, rfl, HWE.out⟩
                        case round =>
                          obtain ⟨kk, nx, D2, R2, rfl, hkk, rfl, hnx, hri2, hy3, hfl, how⟩ := hrel
                          have HR2 := hid_mk hri2
                          have HY3 := hid_mk hy3
                          have HFL := hid_mk hfl
                          have HOW := hid_mk how
                          by_cases hkm : kk < 1
                          · have w1 : decide ((kk : Int) < 1) = true := by simp; omega
                            have w2 : decide (kk < 1) = true := by simpa using hkm
                            have w3 : (kk : Int) < 1 := by omega
                            obtain ⟨t, ht⟩ : ∃ t, ([i1] : List Nat)[kk]? = some t := ⟨_, List.getElem?_eq_getElem (by simp only [List.length_cons, List.length_nil]; omega)⟩
                            obtain ⟨qo, hqo, hqb, oc1⟩ := nown how ht
                            cases hqo
                            have f3 := hy3.2.1.cell (i := 3) rfl
                            have HK := hid_mk (And.intro hkm (And.intro ht hnx))
                            by_cases htn : t < n
                            · have r1 : decide ((n : Int) ≤ (t : Int)) = false := by simp; omega
                              have r2 : decide (n ≤ t) = false := by simp; omega
                              have r3 : (t : Int) < (n : Int) := by omega
                              obtain ⟨dt, hdt⟩ : ∃ x, D2[t]? = some x := ⟨_, List.getElem?_eq_getElem (by have := hri2.1.1; simp only [] at this; omega)⟩
                              have dc := iv_cell hy3.2.2.1 hdt
                              have dz := hy3.2.2.1.frozen t
                              have HTN := hid_mk htn
                              by_cases hmt : 0 ≤ dt ∧ dt ≠ dn
                              · have s1 : decide (0 ≤ dt) = true := by simpa using hmt.1
                                have s2 : (dt != dn) = true := by simpa using hmt.2
                                have HON := hid_mk (on_none (R := R2) hdt hmt)
                                clear hmt hdt htn hri2 hy3 hfl how hkm ht hkk hnx
                                go_wp2_with fail
                                go_region
                                go_wp2
                                go_ret3
                                exact RYQ.bad (HST.out 76 (by rw [HT.out.1, HSF.out, HTG.out, ← HFL.out, dropc HK.out.2.1]; unfold fldF; rw [if_pos HTN.out, HON.out])) HY3.out.2.2.2.2.1.drew
                              · obtain ⟨R3, hon, hri3'⟩ := hri2.on hdt HDN.out.2 (by have := HD64.out; omega) hmt
                                have HON := hid_mk hon
                                by_cases hneg : 0 ≤ dt
                                · have s1 : decide (0 ≤ dt) = true := by simpa using hneg
                                  have s2 : (dt != dn) = false := by simp; exact Classical.byContradiction fun q => hmt ⟨hneg, q⟩
                                  clear hmt hdt htn hri2 hy3 hfl how hkm ht hkk hon hneg
                                  by_cases hlt : t < nx
                                  · obtain ⟨m1, m2⟩ := lt_dec hlt
                                    obtain ⟨gb, hgb2⟩ : ∃ g, (G.set i true)[t]? = some g := ⟨_, List.getElem?_eq_getElem (by have := HR2.out.2.1; have := HTN.out; omega)⟩
                                    have gc := HY3.out.2.2.2.1.cell (bls_at hgb2)
                                    cases gb
                                    · have hri3 : RI n (D2.set t dn) (G.set i true) R3 t := by have h := hri3'; rwa [if_pos ⟨hlt, hgb2⟩] at h
                                      have HRI3 := hid_mk hri3
                                      have HNX := hid_mk (And.intro hlt hnx)
                                      clear hri3' hri3 hlt hgb2 hnx
                                      go_wp2_with fail
                                      go_region
                                      go_wp2
                                      exact ⟨⟨kk + 1, t, _, R3, rfl, HK.out.1, rfl, by have := HNX.out; omega, HRI3.out, (HY3.out.quiet ((Out.refl 0 0 _).drew)).setD t dn, by rw [← HFL.out, dropc HK.out.2.1]; simp only [fldF]; rw [if_pos HTN.out, HON.out], own_set (own_out HOW.out ((Out.refl 0 0 _).drew)) (by omega)⟩, msK2 HK.out.1⟩
                                    · have hri3 : RI n (D2.set t dn) (G.set i true) R3 nx := by have h := hri3'; rwa [if_neg (fun q => by rw [hgb2] at q; cases q.2)] at h
                                      have HRI3 := hid_mk hri3
                                      have HNX := hid_mk hnx
                                      clear hri3' hri3 hlt hgb2 hnx
                                      go_wp2_with fail
                                      go_region
                                      go_wp2
                                      exact ⟨⟨kk + 1, nx, _, R3, rfl, HK.out.1, rfl, HNX.out, HRI3.out, (HY3.out.quiet ((Out.refl 0 0 _).drew)).setD t dn, by rw [← HFL.out, dropc HK.out.2.1]; simp only [fldF]; rw [if_pos HTN.out, HON.out], own_set (own_out HOW.out ((Out.refl 0 0 _).drew)) (by omega)⟩, msK2 HK.out.1⟩
                                  · obtain ⟨m1, m2⟩ := ge_dec hlt
                                    have hri3 : RI n (D2.set t dn) (G.set i true) R3 nx := by have h := hri3'; rwa [if_neg (fun q => hlt q.1)] at h
                                    have HRI3 := hid_mk hri3
                                    have HNX := hid_mk hnx
                                    clear hri3' hri3 hlt hnx
                                    go_wp2_with fail
                                    go_region
                                    go_wp2
                                    exact ⟨⟨kk + 1, nx, _, R3, rfl, HK.out.1, rfl, HNX.out, HRI3.out, (HY3.out.quiet ((Out.refl 0 0 _).drew)).setD t dn, by rw [← HFL.out, dropc HK.out.2.1]; simp only [fldF]; rw [if_pos HTN.out, HON.out], own_set (own_out HOW.out ((Out.refl 0 0 _).drew)) (by omega)⟩, msK2 HK.out.1⟩
                                · have s1 : decide (0 ≤ dt) = false := by simpa using hneg
                                  clear hmt hdt htn hri2 hy3 hfl how hkm ht hkk hon hneg
                                  by_cases hlt : t < nx
                                  · obtain ⟨m1, m2⟩ := lt_dec hlt
                                    obtain ⟨gb, hgb2⟩ : ∃ g, (G.set i true)[t]? = some g := ⟨_, List.getElem?_eq_getElem (by have := HR2.out.2.1; have := HTN.out; omega)⟩
                                    have gc := HY3.out.2.2.2.1.cell (bls_at hgb2)
                                    cases gb
                                    · have hri3 : RI n (D2.set t dn) (G.set i true) R3 t := by have h := hri3'; rwa [if_pos ⟨hlt, hgb2⟩] at h
                                      have HRI3 := hid_mk hri3
                                      have HNX := hid_mk (And.intro hlt hnx)
                                      clear hri3' hri3 hlt hgb2 hnx
                                      go_wp2_with fail
                                      go_region
                                      go_wp2
                                      exact ⟨⟨kk + 1, t, _, R3, rfl, HK.out.1, rfl, by have := HNX.out; omega, HRI3.out, (HY3.out.quiet ((Out.refl 0 0 _).drew)).setD t dn, by rw [← HFL.out, dropc HK.out.2.1]; simp only [fldF]; rw [if_pos HTN.out, HON.out], own_set (own_out HOW.out ((Out.refl 0 0 _).drew)) (by omega)⟩, msK2 HK.out.1⟩
                                    · have hri3 : RI n (D2.set t dn) (G.set i true) R3 nx := by have h := hri3'; rwa [if_neg (fun q => by rw [hgb2] at q; cases q.2)] at h
                                      have HRI3 := hid_mk hri3
                                      have HNX := hid_mk hnx
                                      clear hri3' hri3 hlt hgb2 hnx
                                      go_wp2_with fail
                                      go_region
                                      go_wp2
                                      exact ⟨⟨kk + 1, nx, _, R3, rfl, HK.out.1, rfl, HNX.out, HRI3.out, (HY3.out.quiet ((Out.refl 0 0 _).drew)).setD t dn, by rw [← HFL.out, dropc HK.out.2.1]; simp only [fldF]; rw [if_pos HTN.out, HON.out], own_set (own_out HOW.out ((Out.refl 0 0 _).drew)) (by omega)⟩, msK2 HK.out.1⟩
                                  · obtain ⟨m1, m2⟩ := ge_dec hlt
                                    have hri3 : RI n (D2.set t dn) (G.set i true) R3 nx := by have h := hri3'; rwa [if_neg (fun q => hlt q.1)] at h
                                    have HRI3 := hid_mk hri3
                                    have HNX := hid_mk hnx
                                    clear hri3' hri3 hlt hnx
                                    go_wp2_with fail
                                    go_region
                                    go_wp2
                                    exact ⟨⟨kk + 1, nx, _, R3, rfl, HK.out.1, rfl, HNX.out, HRI3.out, (HY3.out.quiet ((Out.refl 0 0 _).drew)).setD t dn, by rw [← HFL.out, dropc HK.out.2.1]; simp only [fldF]; rw [if_pos HTN.out, HON.out], own_set (own_out HOW.out ((Out.refl 0 0 _).drew)) (by omega)⟩, msK2 HK.out.1⟩
                            · have r1 : decide ((n : Int) ≤ (t : Int)) = true := by simp; omega
                              have r2 : decide (n ≤ t) = true := by simp; omega
                              have HTN := hid_mk htn
                              clear htn hri2 hy3 hfl how hkm ht hkk hnx
                              go_wp2_with fail
                              go_region
                              go_wp2
                              go_ret3
                              exact RYQ.bad (HST.out 77 (by rw [HT.out.1, HSF.out, HTG.out, ← HFL.out, dropc HK.out.2.1]; unfold fldF; rw [if_neg HTN.out])) HY3.out.2.2.2.2.1.drew
                          · obtain rfl : kk = 1 := by omega
                            have HEN : Hid (stF tkk n i (op, a) (D, R') = .inr (D2, R2)) := hid_mk (by rw [HSF.out, HTG.out, ← hfl]; rfl)
                            obtain ⟨k', hk', hwy'⟩ := wy_go (tk := tkV fs) (cd := cd) (s := (D2, R2)) HX.out.1 HWY.out.2 (by rw [HN.out.1, HT.out.1]; exact HEN.out)
                            have hun := fld_ok HDN.out.2 (by have := HD64.out; omega) HTK.out.1 (show fldF n dn [i1] (D, R') = .inr (D2, R2) by rw [← hfl]; rfl)
                            have HF : Hid (wyF (tkV fs) cd k' (D2, R2) = wyA fs cd ∧ unk D2 + R2.length ≤ k' ∧ nx ≤ n) := hid_mk ⟨by rw [← HWY.out.1]; exact hwy'.symm, by have := HWY.out.2; simp only [List.length_cons] at this hun; omega, by have := HI.out; omega⟩
                            clear hkm hkk hri2 hy3 hfl how hk' hwy' hun hnx
                            go_wp2
                            exact ⟨⟨nx, D2, _, R2, k', rfl, HF.out.2.2, HR2.out, HY3.out, HF.out.1, HF.out.2.1⟩, by rw [wcnt_is HY3.out.2.2.2.1, wcnt_is HYS.out.2.2.2.1]; exact ms_g (cnt_set HI.out.2.2.2)⟩
            · have HS := hid_mk (HRI.out.skip (fun q => by obtain ⟨d', e1, e2, e3⟩ := q; rw [hg] at e3; cases e3))
              clear hd0 hd hg hys
              go_wp2
              exact ⟨⟨i1, D, G, R, k, by rw [HIW.out], by have := HI.out; omega, by rw [← HI.out.2.1]; exact HS.out, HYS.out, HWY.out.1, HWY.out.2⟩, by rw [HIW.out]; exact ms_i HI.out.1 HI.out.2.1⟩
        · obtain rfl : n = i := by omega
          have l1 : decide ((n : Int) < (n : Int)) = false := by simp
          have hR := hri.end
          subst hR
          have HE : Hid (wyA fs cd = .inr D) := hid_mk (by rw [← hwy]; exact wy_nil)
          clear hgo hi hri hwy hunk hys
          go_wp2
          go_ret3
          exact RYQ.good HE.out HYS.out.2.2.1 (by have := HYS.out.2.2.2.2.2; omega) HYS.out.2.2.2.2.1
end Go.Proofs.YtkghabmgofgclaaDoor
