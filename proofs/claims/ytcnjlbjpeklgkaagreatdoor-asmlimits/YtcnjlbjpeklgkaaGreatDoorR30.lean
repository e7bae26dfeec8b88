import Derived.Test.YtcnjlbjpeklgkaaGreatDoorR29
namespace Go.Proofs.YtcnjlbjpeklgkaaGreatDoor
set_option linter.unusedVariables false
set_option linter.unusedSimpArgs false

/-- the code with the uses ahead of place k led to their places -/
def led (n k : Nat) (c : List InF) : List InF := c.mapIdx (fun i x => if i < k then x else if lbB n x then (x.1, 0) else x)
theorem led_zero (n : Nat) (c : List InF) : led n 0 c = pend n c := by
  unfold led pend
  apply List.ext_getElem?
  intro i
  simp [List.getElem?_mapIdx]
theorem led_all (n k : Nat) (c : List InF) (h : c.length ≤ k) : led n k c = c := by
  unfold led
  apply List.ext_getElem?
  intro i
  rw [List.getElem?_mapIdx]
  cases e : c[i]? with
  | none => rfl
  | some x =>
    have := (List.getElem?_eq_some_iff.mp e).1
    simp only [Option.map_some]
    rw [if_pos (by omega)]
theorem led_same (n k : Nat) (c : List InF) (x : InF) (hx : c[k]? = some x) (h : lbB n x = false) : led n (k + 1) c = led n k c := by
  unfold led
  apply List.ext_getElem?
  intro i
  rw [List.getElem?_mapIdx, List.getElem?_mapIdx]
  cases e : c[i]? with
  | none => rfl
  | some y =>
    simp only [Option.map_some]
    by_cases h1 : i < k
    · rw [if_pos h1, if_pos (by omega)]
    · by_cases h2 : i = k
      · subst h2
        rw [hx] at e
        cases e
        rw [if_pos (by omega), if_neg h1, h]
        rfl
      · rw [if_neg h1, if_neg (by omega)]
theorem led_set (n k : Nat) (c : List InF) (x : InF) (hx : c[k]? = some x) (h : lbB n x = true) : (led n k c).modify k (fun y => (y.1, x.2)) = led n (k + 1) c := by
  unfold led
  apply List.ext_getElem?
  intro i
  rw [List.getElem?_modify, List.getElem?_mapIdx, List.getElem?_mapIdx]
  cases e : c[i]? with
  | none => rfl
  | some y =>
    simp only [Option.map_some, Option.map_eq_map]
    by_cases h2 : k = i
    · subst h2
      rw [hx] at e
      cases e
      simp [h]
    · simp only [if_neg h2]
      by_cases h1 : i < k
      · simp only [if_pos h1, if_pos (show i < k + 1 by omega)]
      · simp only [if_neg h1, if_neg (show ¬ i < k + 1 by omega)]
/-- a label that is gone to is there -/
theorem labs_yes (c : List InF) (hl : c.length ≤ 4096) (x : InF) (hx : x ∈ c) (h0 : 0 ≤ x.2) (h : lbB c.length x = true) : (labs c c.length).find? (fun p => p.1 == 76 :: dcF x.2.toNat) = some (76 :: dcF x.2.toNat, x.2) := by
  obtain ⟨h1, h2⟩ := lb_iff.mp h
  have hg : goesB c x.2.toNat = true := by
    unfold goesB
    rw [List.any_eq_true]
    refine ⟨x, hx, ?_⟩
    simp
    omega
  have hm : (76 :: dcF x.2.toNat, x.2) ∈ labs c c.length := by
    unfold labs
    rw [List.mem_map]
    refine ⟨x.2.toNat, List.mem_filter.mpr ⟨List.mem_range.mpr (by omega), hg⟩, ?_⟩
    congr 1; omega
  cases e : (labs c c.length).find? (fun p => p.1 == 76 :: dcF x.2.toNat) with
  | none =>
    have := List.find?_eq_none.mp e _ hm
    simp at this
  | some q =>
    have hq := List.find?_some e
    have hq2 := List.mem_of_find?_eq_some e
    obtain ⟨j, hj, rfl⟩ := List.mem_map.mp hq2
    have hj' := List.mem_range.mp (List.mem_filter.mp hj).1
    simp only [beq_iff_eq, List.cons.injEq, true_and] at hq
    have := dcF_inj (m := j) (n := x.2.toNat) (by omega) (by omega) hq
    rw [this]
    congr 2; omega
theorem uses_led (c : List InF) (hc : ∀ x ∈ c, okI x) (hl : c.length ≤ 4096) (g : Int) (tx : List (List Int)) (fs : List FnF) (a b d : Int) (bg : Bool) (us0 : List (Nat × Nat × List Int)) (bd : Nat) :
    ∀ (k : Nat), k ≤ c.length → ∀ us : List (Nat × Nat × List Int), unl us = useK c k →
      us.foldl MkF.use1 ⟨g, tx, fs ++ [(a, b, d, pend c.length c)], bg, true, labs c c.length, us0, bd⟩
        = ⟨g, tx, fs ++ [(a, b, d, led c.length k c)], bg, true, labs c c.length, us0, bd⟩ := by
  intro k
  induction k with
  | zero =>
    intro _ us hu
    have : us = [] := by
      unfold unl useK at hu
      simpa using hu
    rw [this, led_zero]
    rfl
  | succ k ih =>
    intro hk us hu
    have hxk : c[k]? = some c[k] := List.getElem?_eq_getElem (by omega)
    have hmem : c[k] ∈ c := List.getElem_mem _
    rw [useK_succ c k _ hxk] at hu
    by_cases h : lbB c.length c[k] = true
    · rw [if_pos h] at hu
      have hne : us ≠ [] := by
        intro e
        rw [e] at hu
        simp [unl] at hu
      obtain ⟨us1, u, rfl⟩ : ∃ us1 u, us = us1 ++ [u] := ⟨us.dropLast, us.getLast hne, (List.dropLast_concat_getLast hne).symm⟩
      unfold unl at hu
      rw [List.map_append] at hu
      obtain ⟨h1, h2⟩ := List.append_inj' hu rfl
      simp only [List.map_cons, List.map_nil, List.cons.injEq, Prod.mk.injEq, and_true] at h2
      rw [List.foldl_append, ih (by omega) us1 h1]
      simp only [List.foldl_cons, List.foldl_nil, MkF.use1, h2.1, h2.2]
      have ok := hc _ hmem
      have o2 : opS c[k].1 = 2 := by
        rcases (lb_iff.mp h).1 with q | q <;> rw [q] <;> decide
      rw [labs_yes c hl _ hmem (ok.2.2.1 o2).1 h]
      simp only [setA_last]
      rw [led_set _ _ _ _ hxk h]
    · rw [if_neg h, List.append_nil] at hu
      rw [ih (by omega) us hu, led_same _ _ _ _ hxk (by simpa using h)]
theorem ends_code (c : List InF) (hc : ∀ x ∈ c, okI x) (hl : c.length ≤ 4096) (g : Int) (tx : List (List Int)) (fs : List FnF) (a b d : Int) (bg : Bool) (us : List (Nat × Nat × List Int)) (hu : unl us = useK c c.length) (bd : Nat) :
    MkF.ends ⟨g, tx, fs ++ [(a, b, d, pend c.length c)], bg, true, labs c c.length, us, bd⟩ = ⟨g, tx, fs ++ [(a, b, d, c)], bg, true, [], [], bd⟩ := by
  unfold MkF.ends
  simp only
  rw [uses_led c hc hl g tx fs a b d bg us bd c.length (by omega) us hu, led_all _ _ _ (by omega)]
end Go.Proofs.YtcnjlbjpeklgkaaGreatDoor
namespace Go.Proofs.YtcnjlbjpeklgkaaGreatDoor
set_option linter.unusedVariables false
set_option linter.unusedSimpArgs false

theorem wd_globals : Wd (byS "globals") := by
  have : byS "globals" = [103, 108, 111, 98, 97, 108, 115] := by decide +kernel
  rw [this]
  refine ⟨_, _, rfl, by unfold beB pcB; omega, ?_⟩
  unfold pcB; decide
theorem wd_text : Wd (byS "text") := by
  have : byS "text" = [116, 101, 120, 116] := by decide +kernel
  rw [this]
  refine ⟨_, _, rfl, by unfold beB pcB; omega, ?_⟩
  unfold pcB; decide
theorem wd_func : Wd (byS "func") := by
  have : byS "func" = [102, 117, 110, 99] := by decide +kernel
  rw [this]
  refine ⟨_, _, rfl, by unfold beB pcB; omega, ?_⟩
  unfold pcB; decide
theorem nums_oneP (n : Nat) (h : n ≤ 9223372036854775807) : numsF [dcF n] 1 = some [(n : Int)] := by
  unfold numsF
  simp [dec_dc n h]
theorem nums_threeP (a b c : Nat) (ha : a ≤ 9223372036854775807) (hb : b ≤ 9223372036854775807) (hc : c ≤ 9223372036854775807) : numsF [dcF a, dcF b, dcF c] 3 = some [(a : Int), (b : Int), (c : Int)] := by
  unfold numsF
  simp [dec_dc a ha, dec_dc b hb, dec_dc c hc]
theorem gl_step (g : Int) (h0 : 0 ≤ g) (h1 : g ≤ 64) (line : Nat) : MkF.line plO MkF.zero line (byS "globals " ++ dcF g.toNat) = ⟨g, [], [], true, false, [], [], 0⟩ := by
  have e : byS "globals " ++ dcF g.toNat = byS "globals" ++ 32 :: dcF g.toNat := by
    have : byS "globals " = byS "globals" ++ [32] := by decide +kernel
    rw [this, List.append_assoc]; rfl
  unfold MkF.line
  rw [e, wd_globals.then, (wd_dc _).last]
  simp only [Option.map_some, Option.bind_some, MkF.words]
  rw [if_neg (by simp), if_pos trivial]
  unfold MkF.globals
  rw [nums_oneP _ (by omega)]
  simp [MkF.zero]
  omega
theorem tx_step (b : List Int) (h : ∀ x ∈ b, 0 ≤ x ∧ x ≤ 255) (g : Int) (tx : List (List Int)) (bg : Bool) (line : Nat) : MkF.line plO ⟨g, tx, [], bg, false, [], [], 0⟩ line (byS "text \"" ++ spF b ++ [34]) = ⟨g, tx ++ [b], [], true, false, [], [], 0⟩ := by
  have e : byS "text \"" ++ spF b ++ [34] = byS "text" ++ 32 :: (34 :: spF b ++ [34]) := by
    have : byS "text \"" = byS "text" ++ [32, 34] := by decide +kernel
    rw [this]; simp
  have n1 : byS "text" ≠ byS "globals" := by decide +kernel
  unfold MkF.line
  rw [e, wd_text.then, ws_text b h]
  simp only [Option.map_some, Option.bind_some, MkF.words]
  rw [if_neg (by simp), if_neg n1, if_pos ⟨trivial, trivial⟩]
  unfold MkF.text
  simp only [quo_text b h]
  simp
theorem txs_run (l : List (List Int)) (h : ∀ b ∈ l, ∀ x ∈ b, 0 ≤ x ∧ x ≤ 255) (g : Int) : ∀ (tx : List (List Int)) (bg : Bool) (line : Nat), ∃ bg', MkF.run plO ⟨g, tx, [], bg, false, [], [], 0⟩ line (l.map (fun b => byS "text \"" ++ spF b ++ [34])) = ⟨g, tx ++ l, [], bg', false, [], [], 0⟩ := by
  induction l with
  | nil => intro tx bg line; exact ⟨bg, by simp [MkF.run]⟩
  | cons b l ih =>
    intro tx bg line
    simp only [List.map_cons, MkF.run]
    rw [tx_step b (h b (by simp))]
    obtain ⟨bg', e⟩ := ih (fun c hc => h c (by simp [hc])) (tx ++ [b]) true (line + 1)
    exact ⟨bg', by rw [e]; simp⟩
theorem fn_step (m : MkF) (g : Int) (tx : List (List Int)) (fs : List FnF) (bg ins : Bool) (hm : m.ends = ⟨g, tx, fs, bg, ins, [], [], 0⟩) (a b c : Int) (ha : 0 ≤ a ∧ a ≤ 64) (hb : 0 ≤ b ∧ b ≤ 64) (hc : 0 ≤ c ∧ c ≤ 64) (line : Nat) :
    MkF.line plO m line (byS "func " ++ dcF a.toNat ++ [32] ++ dcF b.toNat ++ [32] ++ dcF c.toNat) = ⟨g, tx, fs ++ [(a, b, c, [])], true, true, [], [], 0⟩ := by
  have e : byS "func " ++ dcF a.toNat ++ [32] ++ dcF b.toNat ++ [32] ++ dcF c.toNat = byS "func" ++ 32 :: (dcF a.toNat ++ 32 :: (dcF b.toNat ++ 32 :: dcF c.toNat)) := by
    have : byS "func " = byS "func" ++ [32] := by decide +kernel
    rw [this]; simp
  have n1 : byS "func" ≠ byS "globals" := by decide +kernel
  have n2 : byS "func" ≠ byS "text" := by decide +kernel
  unfold MkF.line
  rw [e, wd_func.then, (wd_dc _).then, (wd_dc _).then, (wd_dc _).last]
  simp only [Option.map_some, Option.bind_some, MkF.words]
  rw [if_neg (by simp), if_neg n1, if_neg (fun q => n2 q.1), if_pos trivial]
  unfold MkF.func
  rw [nums_threeP _ _ _ (by omega) (by omega) (by omega)]
  simp only [hm]
  congr 3
  simp only [Prod.mk.injEq, List.cons.injEq, and_true]
  omega
theorem fns_run (l : List FnF) (h : ∀ f ∈ l, okF f) (g : Int) (tx : List (List Int)) : ∀ (m : MkF) (fs : List FnF) (bg ins : Bool) (line : Nat), m.ends = ⟨g, tx, fs, bg, ins, [], [], 0⟩ → ∃ bg' ins', (MkF.run plO m line (l.flatMap (fnL plO))).ends = ⟨g, tx, fs ++ l, bg', ins', [], [], 0⟩ := by
  induction l with
  | nil => intro m fs bg ins line hm; exact ⟨bg, ins, by simpa [MkF.run] using hm⟩
  | cons f l ih =>
    intro m fs bg ins line hm
    obtain ⟨a, b, d, c⟩ := f
    obtain ⟨ka, kb, kd, kl, kc⟩ := h (a, b, d, c) (by simp)
    simp only at ka kb kd kl kc
    rw [List.flatMap_cons, run_app]
    have e1 : MkF.run plO m line (fnL plO (a, b, d, c)) = (MkF.line plO m line (byS "func " ++ dcF a.toNat ++ [32] ++ dcF b.toNat ++ [32] ++ dcF d.toNat)).run plO (line + 1) (codL plO c 0 c) := rfl
    rw [e1, fn_step m g tx fs bg ins hm a b d (by omega) kb kd]
    obtain ⟨us, hu, e2⟩ := run_code c kc kl g tx fs a b d true 0 c [] (line + 1) [] rfl rfl
    have e3 : pend c.length [] = [] := rfl
    have e4 : labs c ([] : List InF).length = [] := rfl
    rw [e3, e4] at e2
    have e5 : codL plO c ([] : List InF).length c = codL plO c 0 c := rfl
    rw [e5] at e2
    rw [e2]
    obtain ⟨bg', ins', e⟩ := ih (fun q hq => h q (by simp [hq])) _ (fs ++ [(a, b, d, c)]) true true (line + (fnL plO (a, b, d, c)).length) (ends_code c kc kl g tx fs a b d true us hu 0)
    exact ⟨bg', ins', by rw [e]; simp⟩
/-- what is told of a program says that program -/
theorem lines_back (p : PrF) (h : okP p) (hB : ∀ b ∈ p.2.1, ∀ x ∈ b, 0 ≤ x ∧ x ≤ 255) : ∃ bg ins, (MkF.run plO MkF.zero 1 (prL plO p)).ends = ⟨p.1, p.2.1, p.2.2, bg, ins, [], [], 0⟩ := by
  obtain ⟨g, tx, fs⟩ := p
  obtain ⟨hg, h1, h2, h3, h4⟩ := h
  simp only at hg h1 h2 h3 h4 hB ⊢
  unfold prL
  simp only
  rw [run_app, run_app]
  have e : ∃ bg, ∀ line, MkF.run plO MkF.zero line (if g > 0 then [byS "globals " ++ dcF g.toNat] else []) = ⟨g, [], [], bg, false, [], [], 0⟩ := by
    by_cases hp : g > 0
    · refine ⟨true, fun line => ?_⟩
      rw [if_pos hp]
      simp only [MkF.run]
      exact gl_step g hg.1 hg.2 line
    · refine ⟨false, fun line => ?_⟩
      rw [if_neg hp]
      have : g = 0 := by omega
      subst this
      rfl
  obtain ⟨bg, e⟩ := e
  rw [e]
  obtain ⟨bg2, e2⟩ := txs_run tx hB g [] bg (1 + (if g > 0 then [byS "globals " ++ dcF g.toNat] else []).length)
  rw [e2]
  obtain ⟨bg3, ins, e3⟩ := fns_run fs h4 g ([] ++ tx) ⟨g, [] ++ tx, [], bg2, false, [], [], 0⟩ [] bg2 false (1 + ((if g > 0 then [byS "globals " ++ dcF g.toNat] else []) ++ tx.map (fun b => byS "text \"" ++ spF b ++ [34])).length) rfl
  refine ⟨bg3, ins, ?_⟩
  rw [e3]
  simp
end Go.Proofs.YtcnjlbjpeklgkaaGreatDoor
namespace Go.Proofs.YtcnjlbjpeklgkaaGreatDoor
set_option linter.unusedVariables false
set_option linter.unusedSimpArgs false

theorem dcF_len (k : Nat) : ∀ n : Nat, n < 10 ^ (k + 1) → (dcF n).length ≤ k + 1 := by
  induction k with
  | zero => intro n h; rw [dcF_lt (by omega)]; simp
  | succ k ih =>
    intro n h
    by_cases h1 : n < 10
    · rw [dcF_lt h1]; simp
    · rw [dcF_ge (by omega), List.length_append]
      have : 10 ^ (k + 1 + 1) = 10 ^ (k + 1) * 10 := Nat.pow_succ ..
      have := ih (n / 10) (by omega)
      simp only [List.length_singleton]
      omega
theorem nodup_len (l : List Nat) : ∀ m : List Nat, l.Nodup → (∀ x ∈ l, x ∈ m) → l.length ≤ m.length := by
  induction l with
  | nil => intro m _ _; simp
  | cons x l ih =>
    intro m hd hs
    have hx := hs x (by simp)
    have hd' := List.nodup_cons.mp hd
    have := ih (m.erase x) hd'.2 (fun y hy => by
      have : y ≠ x := fun e => hd'.1 (e ▸ hy)
      exact (List.mem_erase_of_ne this).mpr (hs y (by simp [hy])))
    rw [List.length_erase_of_mem hx] at this
    have : 0 < m.length := List.length_pos_of_mem hx
    simp only [List.length_cons]
    omega
/-- so many labels at most as there are jumps -/
theorem goes_len (c : List InF) (hc : ∀ x ∈ c, okI x) : ((List.range c.length).filter (goesB c)).length ≤ (c.filter (lbB c.length)).length := by
  have h := nodup_len ((List.range c.length).filter (goesB c)) ((c.filter (lbB c.length)).map (fun x => x.2.toNat)) (List.nodup_range.filter _) (by
    intro j hj
    obtain ⟨h1, h2⟩ := List.mem_filter.mp hj
    have h1 := List.mem_range.mp h1
    unfold goesB at h2
    rw [List.any_eq_true] at h2
    obtain ⟨x, hx, h3⟩ := h2
    simp only [Bool.and_eq_true, Bool.or_eq_true, beq_iff_eq] at h3
    refine List.mem_map.mpr ⟨x, List.mem_filter.mpr ⟨hx, lb_iff.mpr ⟨h3.1, by omega⟩⟩, by omega⟩)
  rwa [List.length_map] at h
/-- what lines cost, each by itself -/
def cst (f : List Int → Nat) (ls : List (List Int)) : Nat := (ls.map f).sum
theorem cst_app (f : List Int → Nat) (a b : List (List Int)) : cst f (a ++ b) = cst f a + cst f b := by
  unfold cst; simp
theorem cst_cons (f : List Int → Nat) (l : List Int) (b : List (List Int)) : cst f (l :: b) = f l + cst f b := by
  unfold cst; simp
theorem cst_code (f : List Int → Nat) (q B : Nat) (c : List InF) (hl : c.length ≤ 4096) (hlab : ∀ j, j ≤ 4096 → f (76 :: dcF j ++ [58]) ≤ q) :
    ∀ (r : List InF) (k : Nat), k + r.length ≤ 4096 → cst f (codL plO c k r) ≤ q * ((List.range' k r.length).filter (goesB c)).length + (r.map (fun x => f (inL c.length x))).sum := by
  intro r
  induction r with
  | nil => intro k _; simp [codL, cst]
  | cons x r ih =>
    intro k hk
    simp only [List.length_cons] at hk
    have el : codL plO c k (x :: r) = (if goesB c k then [76 :: dcF k ++ [58]] else []) ++ (inL c.length x :: codL plO c (k + 1) r) := by
      simp only [codL, insL, inL, List.append_assoc]
      rfl
    have := ih (k + 1) (by omega)
    rw [el, cst_app, cst_cons]
    simp only [List.length_cons, List.range'_succ, List.filter_cons, List.map_cons, List.sum_cons]
    by_cases hg : goesB c k = true
    · rw [if_pos hg, if_pos hg]
      have h1 := hlab k (by omega)
      have e : cst f [76 :: dcF k ++ [58]] = f (76 :: dcF k ++ [58]) := by simp [cst]
      rw [e, List.length_cons, Nat.mul_add]
      omega
    · rw [if_neg hg, if_neg hg]
      have e : cst f [] = 0 := rfl
      rw [e]
      omega
theorem sum_lb (q n : Nat) (f : InF → Nat) (B : Nat) (c : List InF) (h : ∀ x ∈ c, f x + (if lbB n x then q else 0) ≤ B * (encI x).length) : q * (c.filter (lbB n)).length + (c.map f).sum ≤ B * (c.flatMap encI).length := by
  induction c with
  | nil => simp
  | cons x c ih =>
    have h1 := h x (by simp)
    have h2 := ih (fun y hy => h y (by simp [hy]))
    rw [List.flatMap_cons, List.length_append, Nat.mul_add]
    simp only [List.filter_cons, List.map_cons, List.sum_cons]
    by_cases hb : lbB n x = true
    · rw [if_pos hb] at h1 ⊢
      rw [List.length_cons, Nat.mul_add]
      omega
    · rw [if_neg hb] at h1 ⊢
      omega
theorem code_cost (f : List Int → Nat) (q B : Nat) (c : List InF) (hc : ∀ x ∈ c, okI x) (hl : c.length ≤ 4096) (hlab : ∀ j, j ≤ 4096 → f (76 :: dcF j ++ [58]) ≤ q)
    (h : ∀ x ∈ c, f (inL c.length x) + (if lbB c.length x then q else 0) ≤ B * (encI x).length) : cst f (codL plO c 0 c) ≤ B * (c.flatMap encI).length := by
  have a := cst_code f q B c hl hlab c 0 (by omega)
  have b := goes_len c hc
  rw [List.range_eq_range'] at b
  have d := sum_lb q c.length (fun x => f (inL c.length x)) B c h
  have := Nat.mul_le_mul_left q b
  omega
theorem numB_pos (n : Nat) : 1 ≤ (numB n).length := by
  have := numB_ne n
  cases e : numB n with
  | nil => exact absurd e this
  | cons a l => simp
theorem nm_len : ∀ i : Fin 76, (nameF (i.val : Int)).length ≤ 10 ∧ (opS (i.val : Int) ≠ 1 → (nameF (i.val : Int)).length ≤ 9) := by decide +kernel
theorem name_len {op : Int} (h : opS op ≠ 0) : (nameF op).length ≤ 10 ∧ (opS op ≠ 1 → (nameF op).length ≤ 9) := by
  have hr := ops_rng h
  have := nm_len ⟨op.toNat, by omega⟩
  have e : ((op.toNat : Nat) : Int) = op := by omega
  simp only [e] at this
  exact this
theorem im_len : ∀ i : Fin 6, (imW.getD i []).length ≤ 7 := by decide +kernel
theorem told_le {x : InF} (h : okI x) (hp : 1 < opS x.1) (n : Nat) : (toldF x n).length ≤ 20 := by
  have digs : ∀ m : Nat, m < 10 ^ 19 → (dcF m).length ≤ 19 := fun m => dcF_len 18 m
  have hs : x.2.toNat < 10 ^ 19 ∧ (-x.2).toNat < 10 ^ 19 := by
    obtain ⟨h0, h1, h2, h3, h4⟩ := h
    have : opS x.1 = 2 ∨ opS x.1 = 3 ∨ opS x.1 = 4 := by
      unfold opS at hp ⊢
      split at hp <;> rename_i c1
      · simp [c1]
      · split at hp <;> rename_i c2
        · simp [c2]
        · split at hp <;> rename_i c3
          · simp [c1, c2, c3]
          · split at hp <;> omega
    rcases this with q | q | q
    · have := h2 q; omega
    · have := h3 q; omega
    · have := h4 q; omega
  have a := digs _ hs.1
  have b := digs _ hs.2
  unfold toldF
  split
  · simp only [List.length_cons]; omega
  · split
    · rw [fl_len]; omega
    · split
      · simp
      · split
        · simp
        · split
          · rename_i h2
            have h0 : 0 ≤ x.2 := by
              have : opS x.1 = 2 := by rw [h2.1]; decide
              exact (h.2.2.1 this).1
            have := im_len ⟨x.2.toNat, by omega⟩
            simp only at this
            omega
          · split
            · simp only [List.length_cons]; omega
            · omega
theorem told_le2 {x : InF} (h : okI x) (hp : opS x.1 = 2) (n : Nat) : (toldF x n).length ≤ 8 := by
  have hb := h.2.2.1 hp
  have a := dcF_len 6 x.2.toNat (by omega)
  have n1 : x.1 ≠ 1 := by intro e; rw [e] at hp; exact absurd hp (by decide)
  have n5 : x.1 ≠ 5 := by intro e; rw [e] at hp; exact absurd hp (by decide)
  unfold toldF
  rw [if_neg (fun e => n1 e.1), if_neg n5]
  split
  · simp
  · split
    · simp
    · split
      · have := im_len ⟨x.2.toNat, by omega⟩
        simp only at this
        omega
      · split
        · simp only [List.length_cons]; omega
        · omega
theorem lab_le (j : Nat) (h : j ≤ 4096) : (dcF j).length ≤ 4 := dcF_len 3 j (by omega)
theorem zig_len (a : Int) (h : a < -64 ∨ 63 < a) : 2 ≤ (numB (zig a)).length := by
  have hz : 128 ≤ zig a := by unfold zig; split <;> omega
  rw [numB_ge (by omega), List.length_cons]
  have := numB_pos (zig a / 128)
  omega
theorem in_cost {x : InF} (h : okI x) (n : Nat) (hn : n ≤ 4096) : (inL n x).length + 1 + (if lbB n x then 7 else 0) ≤ 12 * (encI x).length := by
  obtain ⟨k1, k2⟩ := name_len h.1
  unfold inL
  by_cases hp : plO x.1 = true
  · have hp' : 1 < opS x.1 := of_decide_eq_true hp
    have k3 := k2 (by omega)
    rw [if_pos hp]
    simp only [List.length_append, List.length_cons]
    by_cases h22 : opS x.1 = 2
    · have e : (encI x).length = 1 + (numB x.2.toNat).length := by unfold encI opB; rw [if_pos h22]; simp; omega
      have e2 := numB_pos x.2.toNat
      by_cases hb : lbB n x = true
      · rw [if_pos hb]
        have hb' := lb_iff.mp hb
        have e3 : (nameF x.1).length ≤ 6 := by
          rcases hb'.1 with q | q <;> rw [q] <;> decide +kernel
        have et : toldF x n = 76 :: dcF x.2.toNat := by
          unfold toldF
          have q := hb'.1
          rw [if_neg (by omega), if_neg (by omega), if_neg (by omega), if_neg (by omega), if_neg (by omega)]
          exact if_pos hb'
        have := lab_le x.2.toNat (by omega)
        rw [et, List.length_cons]
        omega
      · rw [if_neg hb]
        have := told_le2 h h22 n
        omega
    · have hb : ¬ lbB n x = true := by
        intro e
        rcases (lb_iff.mp e).1 with q | q <;> rw [q] at h22 <;> exact h22 (by decide)
      rw [if_neg hb]
      by_cases h33 : opS x.1 = 3
      · have o1 : x.1 = 1 := by
          unfold opS at h33
          split at h33
          · assumption
          · split at h33
            · omega
            · split at h33
              · omega
              · split at h33 <;> omega
        have e : (encI x).length = 1 + (numB (zig x.2)).length := by unfold encI opB; rw [if_neg h22, if_pos h33]; simp; omega
        have n3 : (nameF x.1).length ≤ 3 := by rw [o1]; decide +kernel
        by_cases hz : x.2 < -64 ∨ 63 < x.2
        · have := zig_len x.2 hz
          have := told_le h hp' n
          omega
        · have e2 := numB_pos (zig x.2)
          have a := dcF_len 1 x.2.toNat (by omega)
          have b := dcF_len 1 (-x.2).toNat (by omega)
          have et : (toldF x n).length ≤ 3 := by
            unfold toldF
            split
            · simp only [List.length_cons]; omega
            · rw [if_neg (by omega), if_neg (by omega), if_neg (by omega), if_neg (by omega), if_neg (by omega)]
              omega
          omega
      · have h44 : opS x.1 = 4 := by
          unfold opS at hp' h22 h33 ⊢
          split at hp' <;> rename_i c1
          · simp [c1] at h33
          · split at hp' <;> rename_i c2
            · simp [c2]
            · split at hp' <;> rename_i c3
              · simp [c1, c2, c3] at h22
              · split at hp' <;> omega
        have e : (encI x).length = 9 := by unfold encI opB; rw [if_neg h22, if_neg h33, if_pos h44]; simp [le8]
        have := told_le h hp' n
        omega
  · have h1 : opS x.1 = 1 := by
      have : ¬ 1 < opS x.1 := fun e => hp (decide_eq_true e)
      have := h.1
      omega
    have hb : ¬ lbB n x = true := by
      intro e
      rcases (lb_iff.mp e).1 with q | q <;> rw [q] at h1 <;> exact absurd h1 (by decide)
    rw [if_neg hp, if_neg hb, List.append_nil]
    unfold encI
    simp only [List.length_cons]
    omega
theorem in_cost1 {x : InF} (h : okI x) (n : Nat) : 1 + (if lbB n x then 1 else 0) ≤ 1 * (encI x).length := by
  by_cases hb : lbB n x = true
  · have h22 : opS x.1 = 2 := by rcases (lb_iff.mp hb).1 with q | q <;> rw [q] <;> decide
    have e : (encI x).length = 1 + (numB x.2.toNat).length := by unfold encI opB; rw [if_pos h22]; simp; omega
    have e2 := numB_pos x.2.toNat
    rw [if_pos hb]
    omega
  · rw [if_neg hb]
    unfold encI
    simp only [List.length_cons]
    omega
end Go.Proofs.YtcnjlbjpeklgkaaGreatDoor
namespace Go.Proofs.YtcnjlbjpeklgkaaGreatDoor
set_option linter.unusedVariables false
set_option linter.unusedSimpArgs false

def szL (l : List Int) : Nat := l.length + 1
def ctL (_ : List Int) : Nat := 1
theorem fn_cost (f : FnF) (h : okF f) : cst szL (fnL plO f) ≤ 12 * (encF f).length ∧ cst ctL (fnL plO f) ≤ (encF f).length := by
  obtain ⟨a, b, d, c⟩ := f
  obtain ⟨ka, kb, kd, kl, kc⟩ := h
  simp only at ka kb kd kl kc
  have e1 : fnL plO (a, b, d, c) = (byS "func " ++ dcF a.toNat ++ [32] ++ dcF b.toNat ++ [32] ++ dcF d.toNat) :: codL plO c 0 c := rfl
  have f5 : (byS "func ").length = 5 := by decide +kernel
  have la := dcF_len 1 a.toNat (by omega)
  have lb := dcF_len 1 b.toNat (by omega)
  have ld := dcF_len 1 d.toNat (by omega)
  have c1 := code_cost szL 7 12 c kc kl (fun j hj => by
    have := lab_le j hj
    unfold szL
    simp only [List.length_append, List.length_cons, List.length_nil]
    omega) (fun x hx => in_cost (kc x hx) c.length kl)
  have c2 := code_cost ctL 1 1 c kc kl (fun j hj => Nat.le_refl 1) (fun x hx => in_cost1 (kc x hx) c.length)
  have p1 := numB_pos a.toNat
  have p2 := numB_pos b.toNat
  have p3 := numB_pos d.toNat
  have p4 := numB_pos c.length
  have eL : (encF (a, b, d, c)).length = (numB a.toNat).length + ((numB b.toNat).length + ((numB d.toNat).length + ((numB c.length).length + (c.flatMap encI).length))) := by
    unfold encF
    simp only [List.length_append]
  rw [e1, cst_cons, cst_cons, eL]
  refine ⟨?_, ?_⟩
  · simp only [szL, List.length_append, List.length_cons, List.length_nil, f5] at c1 ⊢
    omega
  · simp only [ctL] at c2 ⊢
    omega
theorem cst_flat {α : Type} (f : List Int → Nat) (B : Nat) (g : α → List (List Int)) (en : α → List Int) (l : List α) (h : ∀ x ∈ l, cst f (g x) ≤ B * (en x).length) : cst f (l.flatMap g) ≤ B * (l.flatMap en).length := by
  induction l with
  | nil => simp [cst]
  | cons x l ih =>
    rw [List.flatMap_cons, List.flatMap_cons, cst_app, List.length_append, Nat.mul_add]
    have := h x (by simp)
    have := ih (fun y hy => h y (by simp [hy]))
    omega
theorem sp_len (b : List Int) : (spF b).length ≤ 4 * b.length := by
  unfold spF
  induction b with
  | nil => simp
  | cons x b ih =>
    rw [List.flatMap_cons, List.length_append, List.length_cons]
    have : (spB x).length ≤ 4 := by
      unfold spB
      repeat' split
      all_goals simp
    omega
theorem tx_cost (b : List Int) : szL (byS "text \"" ++ spF b ++ [34]) ≤ 12 * (encT b).length ∧ ctL (byS "text \"" ++ spF b ++ [34]) ≤ 1 * (encT b).length := by
  have t6 : (byS "text \"").length = 6 := by decide +kernel
  have := sp_len b
  have p := numB_pos b.length
  unfold szL ctL encT
  simp only [List.length_append, List.length_cons, List.length_nil, t6]
  omega
theorem pr_cost (p : PrF) (h : okP p) : cst szL (prL plO p) ≤ 12 * (encP p).length ∧ cst ctL (prL plO p) ≤ (encP p).length := by
  obtain ⟨g, tx, fs⟩ := p
  obtain ⟨hg, h1, h2, h3, h4⟩ := h
  simp only at hg h1 h2 h3 h4
  have g8 : (byS "globals ").length = 8 := by decide +kernel
  have lg := dcF_len 1 g.toNat (by omega)
  have eL : (encP (g, tx, fs)).length = 4 + ((numB g.toNat).length + ((numB tx.length).length + ((tx.flatMap encT).length + ((numB fs.length).length + (fs.flatMap encF).length)))) := by
    unfold encP
    simp only [List.length_append, List.length_cons, List.length_nil]
  have em : ∀ f : List Int → Nat, cst f (tx.map (fun b => byS "text \"" ++ spF b ++ [34])) = cst f (tx.flatMap (fun b => [byS "text \"" ++ spF b ++ [34]])) := by
    intro f
    rw [List.map_eq_flatMap]
  have a1 := cst_flat szL 12 (fun b => [byS "text \"" ++ spF b ++ [34]]) encT tx (fun b _ => by
    have := (tx_cost b).1
    simpa [cst] using this)
  have a2 := cst_flat ctL 1 (fun b => [byS "text \"" ++ spF b ++ [34]]) encT tx (fun b _ => by
    have := (tx_cost b).2
    simpa [cst] using this)
  have b1 := cst_flat szL 12 (fnL plO) encF fs (fun f hf => (fn_cost f (h4 f hf)).1)
  have b2 := cst_flat ctL 1 (fnL plO) encF fs (fun f hf => by have := (fn_cost f (h4 f hf)).2; omega)
  unfold prL
  simp only [cst_app, em, eL]
  have c1 : cst szL (if g > 0 then [byS "globals " ++ dcF g.toNat] else []) ≤ 11 := by
    split
    · simp only [cst, szL, List.map_cons, List.map_nil, List.sum_cons, List.sum_nil, List.length_append, g8]
      omega
    · simp [cst]
  have c2 : cst ctL (if g > 0 then [byS "globals " ++ dcF g.toNat] else []) ≤ 1 := by
    split <;> simp [cst, ctL]
  omega
theorem prt_len (pl : Int → Bool) (p : PrF) : (prtF pl p).length = cst szL (prL pl p) := by
  unfold prtF cst
  rw [List.length_flatMap]
  congr 1
  apply List.map_congr_left
  intro l _
  simp [szL]
theorem prL_len (pl : Int → Bool) (p : PrF) : (prL pl p).length = cst ctL (prL pl p) := by
  generalize prL pl p = ls
  induction ls with
  | nil => rfl
  | cons l ls ih =>
    rw [cst_cons, List.length_cons, ih]
    unfold ctL
    omega

/-- no line holds a line end -/
theorem dc_no10 (n : Nat) : (10 : Int) ∉ dcF n := by
  intro h
  have := dcF_dig n 10 h
  omega
theorem sp_no10 (b : List Int) (h : ∀ x ∈ b, 0 ≤ x ∧ x ≤ 255) : (10 : Int) ∉ spF b := by
  unfold spF
  intro hm
  obtain ⟨x, hx, h1⟩ := List.mem_flatMap.mp hm
  have hb := h x hx
  have hh : ∀ n, 0 ≤ n → n < 16 → (10 : Int) ≠ hx1 n := by
    intro n h0 h1
    unfold hx1
    split <;> omega
  have q1 := hh (x / 16) (by omega) (by omega)
  have q2 := hh (x % 16) (by omega) (by omega)
  unfold spB at h1
  split at h1
  · simp at h1; omega
  · split at h1
    · simp at h1
    · split at h1
      · simp at h1
      · split at h1
        · simp at h1; omega
        · simp [q1, q2] at h1
theorem told_no10 {x : InF} (h : okI x) (hp : 1 < opS x.1) (n : Nat) : (10 : Int) ∉ toldF x n := by
  unfold toldF
  split
  · simp [dc_no10]
  · split
    · unfold flF
      simp
      intro k _ e
      have : 0 ≤ x.2 % 18446744073709551616 / 16 ^ (15 - k) % 16 := by omega
      unfold hx1 at e
      split at e <;> omega
    · split
      · rename_i q
        simp
        omega
      · split
        · rename_i q
          simp
          omega
        · split
          · rename_i h2
            have h0 : 0 ≤ x.2 := by
              have : opS x.1 = 2 := by rw [h2.1]; decide
              exact (h.2.2.1 this).1
            have : ∀ i : Fin 6, (10 : Int) ∉ imW.getD i [] := by decide +kernel
            exact this ⟨x.2.toNat, by omega⟩
          · split
            · simp [dc_no10]
            · exact dc_no10 _
theorem in_no10 {x : InF} (h : okI x) (n : Nat) : (10 : Int) ∉ inL n x := by
  unfold inL
  have h1 : (10 : Int) ∉ nameF x.1 := by
    intro e
    have := (nm_op h.1).2.1 10 e
    omega
  by_cases hp : plO x.1 = true
  · rw [if_pos hp]
    have := told_no10 h (of_decide_eq_true hp) n
    simp [h1, this]
  · rw [if_neg hp]
    simp [h1]
theorem cod_no10 (c : List InF) : ∀ (r : List InF) (k : Nat), (∀ x ∈ r, okI x) → ∀ l ∈ codL plO c k r, (10 : Int) ∉ l := by
  intro r
  induction r with
  | nil => intro k _ l hl; simp [codL] at hl
  | cons x r ih =>
    intro k hr l hl
    have el : codL plO c k (x :: r) = (if goesB c k then [76 :: dcF k ++ [58]] else []) ++ (inL c.length x :: codL plO c (k + 1) r) := by
      simp only [codL, insL, inL, List.append_assoc]
      rfl
    rw [el] at hl
    rcases List.mem_append.mp hl with h1 | h1
    · split at h1
      · have := List.mem_singleton.mp h1
        subst this
        simp [dc_no10]
      · simp at h1
    · rcases List.mem_cons.mp h1 with h2 | h2
      · subst h2
        exact in_no10 (hr x (by simp)) _
      · exact ih (k + 1) (fun y hy => hr y (by simp [hy])) l h2
theorem pr_no10 (p : PrF) (h : okP p) (hB : ∀ b ∈ p.2.1, ∀ x ∈ b, 0 ≤ x ∧ x ≤ 255) : ∀ l ∈ prL plO p, (10 : Int) ∉ l := by
  obtain ⟨g, tx, fs⟩ := p
  obtain ⟨hg, h1, h2, h3, h4⟩ := h
  simp only at hg h1 h2 h3 h4 hB
  have w1 : (10 : Int) ∉ byS "globals " := by decide +kernel
  have w2 : (10 : Int) ∉ byS "text \"" := by decide +kernel
  have w3 : (10 : Int) ∉ byS "func " := by decide +kernel
  intro l hl
  unfold prL at hl
  rcases List.mem_append.mp hl with h5 | h5
  · rcases List.mem_append.mp h5 with h6 | h6
    · split at h6
      · have := List.mem_singleton.mp h6
        subst this
        simp [w1, dc_no10]
      · simp at h6
    · obtain ⟨b, hb, rfl⟩ := List.mem_map.mp h6
      have := sp_no10 b (hB b hb)
      simp [w2, this]
  · obtain ⟨f, hf, h6⟩ := List.mem_flatMap.mp h5
    rcases List.mem_cons.mp h6 with h7 | h7
    · subst h7
      simp [w3, dc_no10]
    · exact cod_no10 _ _ 0 (h4 f hf).2.2.2.2 l h7
/-- P2507: what is told of a program that can be written is assembled as that program -/
theorem asm_back (wr : PrF → Int) (p : PrF) (h : okP p) (hB : ∀ b ∈ p.2.1, ∀ x ∈ b, 0 ≤ x ∧ x ≤ 255) (hl : (encP p).length ≤ 65536) (hw : wr p = 0) : asmF plO wr (prtF plO p) = (p, 0, 0) := by
  have e : lnsF (prtF plO p) = prL plO p := lns_rows _ (pr_no10 p h hB)
  obtain ⟨c1, c2⟩ := pr_cost p h
  have n1 := prt_len plO p
  have n2 := prL_len plO p
  obtain ⟨bg, ins, e2⟩ := lines_back p h hB
  have e3 : MkF.prog ⟨p.1, p.2.1, p.2.2, bg, ins, [], [], 0⟩ = p := rfl
  unfold asmF
  rw [e, e2, if_neg (by omega), if_neg (by simp), e3, if_neg (by simp [hw])]
end Go.Proofs.YtcnjlbjpeklgkaaGreatDoor
