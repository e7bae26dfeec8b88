import Derived.Test.YtcnjlbjpeklgkaaGreatDoorR36
namespace Go.Proofs.YtcnjlbjpeklgkaaGreatDoor
set_option linter.unusedVariables false
set_option linter.unusedSimpArgs false

theorem zero_eq : MkF.zero = ⟨0, [], [], false, false, [], [], 0⟩ := rfl
theorem fn_zero : byS "func 0 0 0" = byS "func " ++ dcF (0 : Int).toNat ++ [32] ++ dcF (0 : Int).toNat ++ [32] ++ dcF (0 : Int).toNat := by
  have e : dcF (0 : Int).toNat = [48] := by rw [dcF_lt (by decide)]; rfl
  rw [e]
  decide +kernel
theorem fn0_step (m : MkF) (g : Int) (tx : List (List Int)) (fs : List FnF) (bg ins : Bool) (hm : m.ends = ⟨g, tx, fs, bg, ins, [], [], 0⟩) (line : Nat) :
    MkF.line plO m line (byS "func 0 0 0") = ⟨g, tx, fs ++ [(0, 0, 0, [])], true, true, [], [], 0⟩ := by
  rw [fn_zero]
  exact fn_step m g tx fs bg ins hm 0 0 0 (by omega) (by omega) (by omega) line
theorem asm_of (wr : PrF → Int) (t : List Int) (p : PrF) (bg ins : Bool) (ls : List (List Int)) (hl : lnsF t = ls) (h1 : t.length ≤ 1048576) (h2 : ls.length ≤ 100000) (he : (MkF.zero.run plO 1 ls).ends = ⟨p.1, p.2.1, p.2.2, bg, ins, [], [], 0⟩) (hw : wr p = 0) : asmF plO wr t = (p, 0, 0) := by
  have e3 : MkF.prog ⟨p.1, p.2.1, p.2.2, bg, ins, [], [], 0⟩ = p := rfl
  unfold asmF
  rw [hl, he, if_neg (by omega), if_neg (by simp), e3, if_neg (by simp [hw])]
theorem raw_len (b : List Int) : (b.flatMap rawB).length ≤ 2 * b.length := by
  induction b with
  | nil => simp
  | cons x b ih =>
    rw [List.flatMap_cons, List.length_append, List.length_cons]
    have : (rawB x).length ≤ 2 := by
      unfold rawB
      repeat' split
      all_goals simp
    omega
theorem hex_len (b : List Int) : (b.flatMap hexB).length = 4 * b.length := by
  induction b with
  | nil => simp
  | cons x b ih =>
    rw [List.flatMap_cons, List.length_append, List.length_cons, ih]
    have : (hexB x).length = 4 := rfl
    omega
/-- a text of bytes, spelt in both ways -/
theorem quotes_asm (wr : PrF → Int) (b : List Int) (h : ∀ x ∈ b, 0 ≤ x ∧ x ≤ 255) (hl : b.length ≤ 1000) (hw : wr (0, [b, b], [(0, 0, 0, [])]) = 0) :
    asmF plO wr (byS "text \"" ++ b.flatMap rawB ++ byS "\"\ntext \"" ++ b.flatMap hexB ++ byS "\"\nfunc 0 0 0\n") = ((0, [b, b], [(0, 0, 0, [])]), 0, 0) := by
  have w2 : (10 : Int) ∉ byS "text \"" := by decide +kernel
  have w3 : (10 : Int) ∉ byS "func 0 0 0" := by decide +kernel
  have e1 : byS "\"\ntext \"" = [34, 10] ++ byS "text \"" := by decide +kernel
  have e2 : byS "\"\nfunc 0 0 0\n" = [34, 10] ++ byS "func 0 0 0" ++ [10] := by decide +kernel
  have l1 : (byS "text \"").length = 6 := by decide +kernel
  have l2 : (byS "func 0 0 0").length = 10 := by decide +kernel
  have a := raw_len b
  have c := hex_len b
  refine asm_of wr _ (0, [b, b], [(0, 0, 0, [])]) true true [byS "text \"" ++ b.flatMap rawB ++ [34], byS "text \"" ++ b.flatMap hexB ++ [34], byS "func 0 0 0"] ?_ ?_ ?_ ?_ hw
  · have := lns_rows [byS "text \"" ++ b.flatMap rawB ++ [34], byS "text \"" ++ b.flatMap hexB ++ [34], byS "func 0 0 0"] (by
      intro l hl
      simp only [List.mem_cons, List.not_mem_nil, or_false] at hl
      rcases hl with rfl | rfl | rfl
      · have := sp_no sp_raw b h
        simp [w2, this]
      · have := sp_no sp_hex b h
        simp [w2, this]
      · exact w3)
    rw [e1, e2]
    simpa using this
  · rw [e1, e2]
    simp only [List.length_append, List.length_cons, List.length_nil, l1, l2]
    omega
  · simp
  · simp only [MkF.run]
    rw [zero_eq, sp_step sp_raw b h, sp_step sp_hex b h, fn0_step _ 0 ([] ++ [b] ++ [b]) [] true false rfl]
    rfl
theorem char_line (x : Int) (h0 : 0 ≤ x) (h1 : x ≤ 1114111) (h2 : ¬ (55296 ≤ x ∧ x ≤ 57343)) (g : Int) (tx : List (List Int)) (fs : List FnF) (a b c : Int) (l : List InF) (bg : Bool) (la : List (List Int × Int)) (us : List (Nat × Nat × List Int)) (bd line : Nat) :
    MkF.line plO ⟨g, tx, fs ++ [(a, b, c, l)], bg, true, la, us, bd⟩ line (byS "char" ++ 32 :: (39 :: (chQ x ++ [39]))) = ⟨g, tx, fs ++ [(a, b, c, l ++ [(2, x)])], bg, true, la, us, bd⟩ := by
  have hn : byS "char" = nameF 2 := by decide +kernel
  have ho : opS 2 ≠ 0 := by decide
  obtain ⟨n1, n2, n3, n4, n5⟩ := nm_op ho
  unfold MkF.line
  rw [hn, (wd_name ho).then, ws_chQ x h0 h1]
  simp only [Option.map_some, Option.bind_some, MkF.words]
  rw [if_neg (fun e => name_last ho e.2), if_neg n4, if_neg (by simp), if_neg n5]
  simp only [MkF.ins, n3]
  rw [if_neg (by simp)]
  have hp : plO 2 = true := by decide
  rw [if_pos hp]
  simp only [opn_chQ x h0 h1 h2, addI_last]
/-- a char of any scalar -/
theorem char_asm (wr : PrF → Int) (x : Int) (h0 : 0 ≤ x) (h1 : x ≤ 1114111) (h2 : ¬ (55296 ≤ x ∧ x ≤ 57343)) (hw : wr (0, [], [(0, 0, 0, [(2, x)])]) = 0) :
    asmF plO wr (byS "func 0 0 0\nchar '" ++ chQ x ++ byS "'\n") = ((0, [], [(0, 0, 0, [(2, x)])]), 0, 0) := by
  have w3 : (10 : Int) ∉ byS "func 0 0 0" := by decide +kernel
  have w4 : (10 : Int) ∉ byS "char" := by decide +kernel
  have e1 : byS "func 0 0 0\nchar '" = byS "func 0 0 0" ++ [10] ++ byS "char" ++ [32, 39] := by decide +kernel
  have e2 : byS "'\n" = [39, 10] := by decide +kernel
  have l2 : (byS "func 0 0 0").length = 10 := by decide +kernel
  have l3 : (byS "char").length = 4 := by decide +kernel
  have hc : (10 : Int) ∉ chQ x ∧ (chQ x).length ≤ 4 := by
    unfold chQ
    split
    · simp
    · split
      · simp
      · split
        · simp
        · rename_i a b c
          refine ⟨?_, (utf_len x).2⟩
          by_cases h : x < 128
          · have e : utfF x = [x] := by unfold utfF; rw [if_pos h]
            rw [e]; simp; omega
          · intro hm
            have := utf_high x (by omega) h1 10 hm
            omega
  refine asm_of wr _ (0, [], [(0, 0, 0, [(2, x)])]) true true [byS "func 0 0 0", byS "char" ++ 32 :: (39 :: (chQ x ++ [39]))] ?_ ?_ ?_ ?_ hw
  · have := lns_rows [byS "func 0 0 0", byS "char" ++ 32 :: (39 :: (chQ x ++ [39]))] (by
      intro l hl
      simp only [List.mem_cons, List.not_mem_nil, or_false] at hl
      rcases hl with rfl | rfl
      · exact w3
      · simp [w4, hc.1])
    rw [e1, e2]
    simpa using this
  · rw [e1, e2]
    simp only [List.length_append, List.length_cons, List.length_nil, l2, l3]
    omega
  · simp
  · simp only [MkF.run]
    rw [zero_eq, fn0_step _ 0 [] [] false false rfl, char_line x h0 h1 h2 0 [] [] 0 0 0 []]
    rfl
end Go.Proofs.YtcnjlbjpeklgkaaGreatDoor
namespace Go.Proofs.YtcnjlbjpeklgkaaGreatDoor
set_option linter.unusedVariables false
set_option linter.unusedSimpArgs false

/-- is a label looked for in vain? -/
def lost (m : MkF) (nm : List Int) : Prop := m.lab.find? (fun l => l.1 == nm) = none
theorem lost_iff (m : MkF) (nm : List Int) : lost m nm ↔ nm ∉ m.lab.map (·.1) := by
  unfold lost
  rw [List.find?_eq_none, List.mem_map]
  constructor
  · rintro h ⟨l, hl, rfl⟩
    exact h l hl (by simp)
  · intro h l hl e
    exact h ⟨l, hl, by simpa using e⟩
def Late (A : Nat) (m : MkF) : Prop := m.bad = 0 ∨ A ≤ m.bad
theorem wrong_late {A : Nat} {m : MkF} (h : Late A m) (i : Nat) (hi : A ≤ i) : Late A (m.wrong i) := by
  unfold MkF.wrong
  split
  · exact .inr hi
  · exact h
theorem wrong_hit {A : Nat} {m : MkF} (h : Late A m) : (m.wrong A).bad = A := by
  unfold MkF.wrong
  split
  · rfl
  · rcases h with h | h <;> omega
theorem wrong_keep {A : Nat} {m : MkF} (h : m.bad = A) (hA : 0 < A) (i : Nat) (hi : A ≤ i) : (m.wrong i).bad = A := by
  unfold MkF.wrong
  rw [if_neg (by omega)]
  exact h
theorem use1_lab (m : MkF) (u : Nat × Nat × List Int) : (m.use1 u).lab = m.lab := by
  unfold MkF.use1 MkF.wrong
  split
  · rfl
  · split <;> rfl
theorem uses_late {A : Nat} (hA : 0 < A) (us : List (Nat × Nat × List Int)) : ∀ m : MkF, (∀ u ∈ us, lost m u.2.2 → A ≤ u.2.1) → Late A m →
    Late A (us.foldl MkF.use1 m) ∧ ((m.bad = A ∨ ∃ u ∈ us, lost m u.2.2 ∧ u.2.1 = A) → (us.foldl MkF.use1 m).bad = A) := by
  induction us with
  | nil =>
    intro m _ h
    refine ⟨h, ?_⟩
    rintro (e | ⟨u, hu, _⟩)
    · exact e
    · simp at hu
  | cons u us ih =>
    intro m hl h
    have hlab := use1_lab m u
    have hl' : ∀ v ∈ us, lost (m.use1 u) v.2.2 → A ≤ v.2.1 := by
      intro v hv hv2
      unfold lost at hv2
      rw [hlab] at hv2
      exact hl v (by simp [hv]) hv2
    by_cases hu : lost m u.2.2
    · have e : m.use1 u = m.wrong u.2.1 := by
        unfold MkF.use1
        unfold lost at hu
        rw [hu]
      have hA' := hl u (by simp) hu
      have h1 : Late A (m.use1 u) := by rw [e]; exact wrong_late h _ hA'
      obtain ⟨i1, i2⟩ := ih (m.use1 u) hl' h1
      refine ⟨i1, ?_⟩
      rintro (q | ⟨v, hv, q1, q2⟩)
      · exact i2 (.inl (by rw [e]; exact wrong_keep q hA _ hA'))
      · rcases List.mem_cons.mp hv with rfl | hv
        · exact i2 (.inl (by rw [e, q2]; exact wrong_hit h))
        · refine i2 (.inr ⟨v, hv, ?_, q2⟩)
          unfold lost
          rw [hlab]
          exact q1
    · have hb : (m.use1 u).bad = m.bad := by
        unfold MkF.use1
        split
        · rfl
        · rename_i q
          exact absurd q hu
      have h1 : Late A (m.use1 u) := by unfold Late; rw [hb]; exact h
      obtain ⟨i1, i2⟩ := ih (m.use1 u) hl' h1
      refine ⟨i1, ?_⟩
      rintro (q | ⟨v, hv, q1, q2⟩)
      · exact i2 (.inl (by rw [hb]; exact q))
      · rcases List.mem_cons.mp hv with rfl | hv
        · exact absurd q1 hu
        · refine i2 (.inr ⟨v, hv, ?_, q2⟩)
          unfold lost
          rw [hlab]
          exact q1
/-- the run of the text itself, and the run with lines put in from line A on (No: names that are no labels) -/
structure Dis (A : Nat) (No : List (List Int)) (m m' : MkF) : Prop where
  ok : m.bad = 0
  be : m'.began = m.began
  ins : m'.inside = m.inside
  lab : m'.lab.map (·.1) = m.lab.map (·.1)
  no : ∀ nm ∈ No, nm ∉ m.lab.map (·.1)
  pos : Pos m.use
  use : ∀ u ∈ m'.use, (∃ v ∈ m.use, v.2.2 = u.2.2) ∨ A ≤ u.2.1
  late : Late A m'
/-- line A is wrong already, or will be -/
def Hit (A : Nat) (No : List (List Int)) (m' : MkF) : Prop := m'.bad = A ∨ ∃ u ∈ m'.use, u.2.2 ∈ No ∧ u.2.1 = A
theorem uses_ok (us : List (Nat × Nat × List Int)) (hp : Pos us) : ∀ m : MkF, (us.foldl MkF.use1 m).bad = 0 → ∀ u ∈ us, ¬ lost m u.2.2 := by
  induction us with
  | nil => intro m _ u hu; simp at hu
  | cons u us ih =>
    intro m hb v hv hl
    have hp' : Pos us := fun w hw => hp w (by simp [hw])
    simp only [List.foldl_cons] at hb
    rcases List.mem_cons.mp hv with rfl | hv
    · have e : m.use1 v = m.wrong v.2.1 := by
        unfold MkF.use1
        unfold lost at hl
        rw [hl]
      exact uses_mono us hp' _ (by rw [e]; exact wrong_badP m _ (hp v (by simp))) hb
    · refine ih hp' _ hb v hv ?_
      unfold lost
      rw [use1_lab]
      exact hl
theorem Dis.ends {A : Nat} {No : List (List Int)} {m m' : MkF} (hA : 0 < A) (h : Dis A No m m') (hb : m.ends.bad = 0) : Late A m'.ends ∧ (Hit A No m' → m'.ends.bad = A) := by
  have hok := uses_ok m.use h.pos m hb
  have key : ∀ u ∈ m'.use, lost m' u.2.2 → A ≤ u.2.1 := by
    intro u hu hl
    rcases h.use u hu with ⟨v, hv, e⟩ | q
    · exfalso
      refine hok v hv ?_
      rw [lost_iff, e, ← h.lab, ← lost_iff]
      exact hl
    · exact q
  obtain ⟨a, b⟩ := uses_late hA m'.use m' key h.late
  refine ⟨a, ?_⟩
  rintro (q | ⟨u, hu, q1, q2⟩)
  · exact b (.inl q)
  · refine b (.inr ⟨u, hu, ?_, q2⟩)
    rw [lost_iff, h.lab]
    exact h.no _ q1
end Go.Proofs.YtcnjlbjpeklgkaaGreatDoor
namespace Go.Proofs.YtcnjlbjpeklgkaaGreatDoor
set_option linter.unusedVariables false
set_option linter.unusedSimpArgs false

theorem find_none_iff {m m' : MkF} (h : m'.lab.map (·.1) = m.lab.map (·.1)) (s : List Int) : m'.lab.find? (fun l => l.1 == s) = none ↔ m.lab.find? (fun l => l.1 == s) = none := by
  have a := lost_iff m s
  have b := lost_iff m' s
  rw [h] at b
  exact b.trans a.symm
theorem Dis.words {A : Nat} {No : List (List Int)} {m m' m1 : MkF} (hA : 0 < A) (h : Dis A No m m') (pl : Int → Bool) (i j : Nat) (hi : 0 < i) (ws : List (List Int)) (hn : ∀ nm ∈ No, ws ≠ [nm ++ [58]]) (e : m.words pl i ws = some m1) (hb : m1.bad = 0) :
    ∃ m2, m'.words pl j ws = some m2 ∧ Dis A No m1 m2 ∧ (Hit A No m' → Hit A No m2) := by
  unfold MkF.words at e ⊢
  split at e
  · cases e; exact ⟨m', rfl, h, id⟩
  · rename_i w l
    split at e
    · rename_i q
      rw [if_pos q]
      unfold MkF.mark at e ⊢
      split at e
      · rename_i q2
        rw [if_pos ⟨q2.1, h.ins.trans q2.2.1, (find_none_iff h.lab _).mpr q2.2.2⟩]
        cases e
        refine ⟨_, rfl, ⟨h.ok, h.be, h.ins, ?_, ?_, h.pos, h.use, h.late⟩, id⟩
        · simp only [List.map_append, h.lab]
          rfl
        · intro nm hnm hm
          simp only [List.map_append, List.map_cons, List.map_nil] at hm
          rcases List.mem_append.mp hm with k | k
          · exact h.no nm hnm k
          · have k := List.mem_singleton.mp k
            refine hn nm hnm ?_
            have hw : w ≠ [] := by
              intro e0
              rw [e0] at q
              simp at q
            have hl := List.dropLast_concat_getLast hw
            have hg : w.getLast hw = 58 := by
              have := q.2
              rw [List.getLast?_eq_some_getLast hw] at this
              exact Option.some.inj this
            rw [hg] at hl
            rw [q.1, k, hl]
      · cases e
    · rename_i q
      rw [if_neg q]
      split at e
      · rename_i q
        rw [if_pos q]
        unfold MkF.globals at e ⊢
        split at e
        · split at e
          · cases e
          · rename_i q2
            rw [if_neg (by rw [h.be]; exact q2)]
            cases e
            exact ⟨_, rfl, ⟨h.ok, rfl, h.ins, h.lab, h.no, h.pos, h.use, h.late⟩, id⟩
        · cases e
      · rename_i q
        rw [if_neg q]
        split at e
        · rename_i q
          rw [if_pos ⟨q.1, h.ins.trans q.2⟩]
          unfold MkF.text at e ⊢
          split at e
          · split at e
            · cases e
            · rename_i q2
              rw [if_neg (by rw [h.ins]; exact q2)]
              obtain ⟨b, hb2, e3⟩ := Option.map_eq_some_iff.mp e
              rw [hb2]
              cases e3
              exact ⟨_, rfl, ⟨h.ok, rfl, h.ins, h.lab, h.no, h.pos, h.use, h.late⟩, id⟩
          · cases e
        · rename_i q
          rw [if_neg (by rw [h.ins]; exact q)]
          split at e
          · rename_i q
            rw [if_pos q]
            unfold MkF.func at e ⊢
            split at e
            · cases e
              have hb2 : m.ends.bad = 0 := hb
              obtain ⟨d1, d2⟩ := h.ends hA hb2
              refine ⟨_, rfl, ⟨hb2, rfl, rfl, rfl, ?_, pos_ends m, ?_, d1⟩, fun k => .inl (d2 k)⟩
              · intro nm _ hm
                simp [MkF.ends] at hm
              · intro u hu
                simp [MkF.ends] at hu
            · cases e
          · rename_i q
            rw [if_neg q]
            unfold MkF.ins at e ⊢
            split at e
            · cases e
            · rename_i q2
              rw [if_neg (by rw [h.ins]; exact q2)]
              split at e
              · rename_i q5
                rw [if_pos q5]
                split at e
                · split at e
                  · cases e
                    exact ⟨_, rfl, ⟨h.ok, h.be, h.ins, h.lab, h.no, h.pos, h.use, h.late⟩, id⟩
                  · rename_i nm ha
                    cases e
                    refine ⟨_, rfl, ⟨h.ok, h.be, h.ins, h.lab, h.no, ?_, ?_, h.late⟩, ?_⟩
                    · intro u hu
                      rcases List.mem_append.mp hu with k | k
                      · exact h.pos u k
                      · have := List.mem_singleton.mp k
                        subst this
                        exact hi
                    · intro u hu
                      rcases List.mem_append.mp hu with k | k
                      · rcases h.use u k with ⟨v, hv, e9⟩ | k2
                        · exact .inl ⟨v, List.mem_append.mpr (.inl hv), e9⟩
                        · exact .inr k2
                      · have := List.mem_singleton.mp k
                        subst this
                        exact .inl ⟨_, List.mem_append.mpr (.inr (List.mem_singleton.mpr rfl)), rfl⟩
                    · rintro (k | ⟨u, hu, k⟩)
                      · exact .inl k
                      · exact .inr ⟨u, List.mem_append.mpr (.inl hu), k⟩
                  · cases e
                · cases e
              · rename_i q5
                rw [if_neg q5]
                split at e
                · rename_i q6
                  rw [if_pos q6]
                  cases e
                  exact ⟨_, rfl, ⟨h.ok, h.be, h.ins, h.lab, h.no, h.pos, h.use, h.late⟩, id⟩
                · cases e
/-- words that are no line, wherever they stand -/
def never (pl : Int → Bool) : List (List Int) → Bool
  | [] => false
  | w :: l => if l = [] ∧ w.getLast? = some 58 then !nmB w.dropLast
    else if w = byS "globals" then (numsF l 1).isNone
    else (w != byS "text" || (match l with | [s] => (quoF s 34).isNone | _ => true)) &&
      (if w = byS "func" then (numsF l 3).isNone
       else opF w == 0 || (if pl (opF w) then (match l with | [s] => (opnF (opF w) s).isNone | _ => true) else l != []))
theorem never_none (pl : Int → Bool) (m : MkF) (i : Nat) (ws : List (List Int)) (h : never pl ws = true) : m.words pl i ws = none := by
  cases ws with
  | nil => simp [never] at h
  | cons w l =>
    unfold never at h
    unfold MkF.words
    simp only at h ⊢
    split at h
    · rename_i q
      rw [if_pos q]
      unfold MkF.mark
      rw [if_neg]
      intro k
      rw [k.1] at h
      simp at h
    · rename_i q
      rw [if_neg q]
      split at h
      · rename_i q
        rw [if_pos q]
        unfold MkF.globals
        rw [Option.isNone_iff_eq_none.mp h]
      · rename_i q
        rw [if_neg q]
        simp only [Bool.and_eq_true] at h
        obtain ⟨h1, h2⟩ := h
        by_cases q1 : w = byS "text" ∧ m.inside = false
        · rw [if_pos q1]
          simp only [q1.1, bne_self_eq_false, Bool.false_or] at h1
          unfold MkF.text
          split
          · rename_i s
            simp only at h1
            rw [Option.isNone_iff_eq_none.mp h1]
            split <;> rfl
          · rfl
        · rw [if_neg q1]
          split at h2
          · rename_i q
            rw [if_pos q]
            unfold MkF.func
            rw [Option.isNone_iff_eq_none.mp h2]
          · rename_i q
            rw [if_neg q]
            unfold MkF.ins
            split
            · rfl
            · rename_i q3
              have q4 : opF w ≠ 0 := fun e => q3 (.inl e)
              simp only [Bool.or_eq_true, beq_iff_eq, q4, false_or] at h2
              split at h2
              · rename_i q5
                rw [if_pos q5]
                split
                · rename_i s
                  simp only at h2
                  rw [Option.isNone_iff_eq_none.mp h2]
                · rfl
              · rename_i q5
                rw [if_neg q5, if_neg (by simpa using h2)]
end Go.Proofs.YtcnjlbjpeklgkaaGreatDoor
namespace Go.Proofs.YtcnjlbjpeklgkaaGreatDoor
set_option linter.unusedVariables false
set_option linter.unusedSimpArgs false

theorem wrong_same (m : MkF) (i : Nat) : ∃ b, m.wrong i = { m with bad := b } := by
  unfold MkF.wrong
  split
  · exact ⟨i, rfl⟩
  · exact ⟨m.bad, rfl⟩
/-- a line that is none: no words, words that are none, or a jump to a name that is no label -/
def Nev (No : List (List Int)) (s : List Int) : Prop :=
  wsF s = none ∨ (∃ ws, wsF s = some ws ∧ never plO ws = true) ∨ ∃ w nm, wsF s = some [w, nm] ∧ nm ∈ No ∧ w ≠ byS "globals" ∧ w ≠ byS "text" ∧ w ≠ byS "func" ∧ opF w ≠ 0 ∧ plO (opF w) = true ∧ opnF (opF w) nm = some (.inr nm)
theorem dis_wrong {A : Nat} {No : List (List Int)} {m m' : MkF} (hA : 0 < A) (h : Dis A No m m') (j : Nat) (hj : A ≤ j) : Dis A No m (m'.wrong j) ∧ (Hit A No m' → Hit A No (m'.wrong j)) ∧ (j = A → Hit A No (m'.wrong j)) := by
  have hl := wrong_late h.late j hj
  refine ⟨?_, ?_, ?_⟩
  · obtain ⟨b, e⟩ := wrong_same m' j
    rw [e] at hl ⊢
    exact ⟨h.ok, h.be, h.ins, h.lab, h.no, h.pos, h.use, hl⟩
  · rintro (k | ⟨u, hu, k⟩)
    · exact .inl (wrong_keep k hA j hj)
    · obtain ⟨b, e⟩ := wrong_same m' j
      rw [e]
      exact .inr ⟨u, hu, k⟩
  · intro e
    subst e
    exact .inl (wrong_hit h.late)
theorem dis_put {A : Nat} {No : List (List Int)} {m m' : MkF} (hA : 0 < A) (h : Dis A No m m') (j : Nat) (hj : A ≤ j) (s : List Int) (hs : Nev No s) : Dis A No m (m'.line plO j s) ∧ (Hit A No m' → Hit A No (m'.line plO j s)) ∧ (j = A → Hit A No (m'.line plO j s)) := by
  rcases hs with hs | ⟨ws, hs, hn⟩ | ⟨w, nm, hs, h1, h2, h3, h4, h5, h6, h7⟩
  · have e : m'.line plO j s = m'.wrong j := by unfold MkF.line; rw [hs]; rfl
    rw [e]
    exact dis_wrong hA h j hj
  · have e : m'.line plO j s = m'.wrong j := by unfold MkF.line; rw [hs, Option.bind_some, never_none plO m' j ws hn]
    rw [e]
    exact dis_wrong hA h j hj
  · by_cases hi : m'.inside = false
    · have e : m'.line plO j s = m'.wrong j := by
        unfold MkF.line
        rw [hs, Option.bind_some]
        unfold MkF.words
        simp only
        rw [if_neg (by simp), if_neg h2, if_neg (fun k => h3 k.1), if_neg h4]
        unfold MkF.ins
        rw [if_pos (.inr hi)]
      rw [e]
      exact dis_wrong hA h j hj
    · have e : m'.line plO j s = { m' with fn := addI m'.fn (opF w, 0), use := m'.use ++ [(lenI m'.fn, j, nm)] } := by
        unfold MkF.line
        rw [hs, Option.bind_some]
        unfold MkF.words
        simp only
        rw [if_neg (by simp), if_neg h2, if_neg (fun k => h3 k.1), if_neg h4]
        unfold MkF.ins
        rw [if_neg (fun k => k.elim h5 hi), if_pos h6]
        simp only [h7]
      rw [e]
      refine ⟨⟨h.ok, h.be, h.ins, h.lab, h.no, h.pos, ?_, h.late⟩, ?_, ?_⟩
      · intro u hu
        rcases List.mem_append.mp hu with k | k
        · exact h.use u k
        · have := List.mem_singleton.mp k
          subst this
          exact .inr hj
      · rintro (k | ⟨u, hu, k⟩)
        · exact .inl k
        · exact .inr ⟨u, List.mem_append.mpr (.inl hu), k⟩
      · intro ej
        exact .inr ⟨_, List.mem_append.mpr (.inr (List.mem_singleton.mpr rfl)), h1, ej⟩
/-- the second list is the first with lines put in, from line A on; j is the number of its next line -/
inductive Junk (A : Nat) (No : List (List Int)) : Nat → List (List Int) → List (List Int) → Prop where
  | nil {j : Nat} : Junk A No j [] []
  | put {j : Nat} {s : List Int} {l r : List (List Int)} : A ≤ j → Nev No s → Junk A No (j + 1) l r → Junk A No j l (s :: r)
  | line {j : Nat} {s : List Int} {l r : List (List Int)} : Junk A No (j + 1) l r → Junk A No j (s :: l) (s :: r)
theorem Junk.refl {A : Nat} {No : List (List Int)} (l : List (List Int)) : ∀ j, Junk A No j l l := by
  induction l with
  | nil => intro j; exact .nil
  | cons s l ih => intro j; exact .line (ih (j + 1))
theorem dis_run {A : Nat} {No : List (List Int)} (hA : 0 < A) {l r : List (List Int)} {j : Nat} (h : Junk A No j l r) : ∀ (m m' : MkF) (i : Nat), 0 < i → 0 < j → Dis A No m m' → (∀ s ∈ l, ∀ nm ∈ No, wsF s ≠ some [nm ++ [58]]) → (m.run plO i l).bad = 0 →
    Dis A No (m.run plO i l) (m'.run plO j r) ∧ (Hit A No m' → Hit A No (m'.run plO j r)) := by
  induction h with
  | nil => intro m m' i _ _ hd _ _; exact ⟨hd, id⟩
  | @put j s l r hj hs _ ih =>
    intro m m' i hi hj0 hd hn hb
    obtain ⟨d1, d2, _⟩ := dis_put hA hd j hj s hs
    obtain ⟨e1, e2⟩ := ih m _ i hi (by omega) d1 hn hb
    exact ⟨e1, fun k => e2 (d2 k)⟩
  | @line j s l r _ ih =>
    intro m m' i hi hj0 hd hn hb
    simp only [MkF.run] at hb ⊢
    obtain ⟨p1, p2⟩ := line_mono plO m i hi s hd.pos
    obtain ⟨p3, p4⟩ := run_mono plO l (m.line plO i s) (i + 1) (by omega) p1
    have b1 : (m.line plO i s).bad = 0 := by
      apply Classical.byContradiction
      intro hne
      exact p4 hne hb
    have e : Dis A No (m.line plO i s) (m'.line plO j s) ∧ (Hit A No m' → Hit A No (m'.line plO j s)) := by
      cases ew : wsF s with
      | none =>
        have : m.line plO i s = m.wrong i := by unfold MkF.line; rw [ew]; rfl
        rw [this] at b1
        exact absurd b1 (wrong_badP m i hi)
      | some ws =>
        cases em : m.words plO i ws with
        | none =>
          have : m.line plO i s = m.wrong i := by unfold MkF.line; rw [ew, Option.bind_some, em]
          rw [this] at b1
          exact absurd b1 (wrong_badP m i hi)
        | some m1 =>
          have e1 : m.line plO i s = m1 := by unfold MkF.line; rw [ew, Option.bind_some, em]
          rw [e1] at b1 ⊢
          obtain ⟨m2, e2, d, k⟩ := hd.words hA plO i j hi ws (fun nm hnm e9 => hn s (by simp) nm hnm (by rw [ew, e9])) em b1
          have e3 : m'.line plO j s = m2 := by unfold MkF.line; rw [ew, Option.bind_some, e2]
          rw [e3]
          exact ⟨d, k⟩
    obtain ⟨f1, f2⟩ := ih _ _ (i + 1) (by omega) (by omega) e.1 (fun t ht => hn t (by simp [ht])) hb
    exact ⟨f1, fun k => f2 (e.2 k)⟩
/-- P2505: the least of the lines that are none is told -/
theorem asm_line (wr : PrF → Int) (No : List (List Int)) (t : List Int) (pre post r : List (List Int)) (s : List Int) (hl : lnsF t = pre ++ s :: r) (h1 : t.length ≤ 1048576) (h2 : (lnsF t).length ≤ 100000) (hs : Nev No s) (hr : Junk (pre.length + 1) No (pre.length + 2) post r)
    (hn : ∀ s ∈ pre ++ post, ∀ nm ∈ No, wsF s ≠ some [nm ++ [58]]) (hb : (MkF.zero.run plO 1 (pre ++ post)).ends.bad = 0) : asmF plO wr t = ((0, [], []), pre.length + 1, 90) := by
  have hA : 0 < pre.length + 1 := by omega
  have hz : Pos MkF.zero.use := fun u hu => by simp [MkF.zero] at hu
  have d0 : Dis (pre.length + 1) No MkF.zero MkF.zero := ⟨rfl, rfl, rfl, rfl, fun nm _ hm => by simp [MkF.zero] at hm, hz, fun u hu => by simp [MkF.zero] at hu, .inl rfl⟩
  have e1 := run_app plO pre MkF.zero 1 post
  obtain ⟨p1, p2⟩ := run_mono plO pre MkF.zero 1 (by omega) hz
  obtain ⟨p3, p4⟩ := run_mono plO post (MkF.zero.run plO 1 pre) (1 + pre.length) (by omega) p1
  rw [e1] at hb
  have b2 : ((MkF.zero.run plO 1 pre).run plO (1 + pre.length) post).bad = 0 := by
    apply Classical.byContradiction
    intro hne
    exact ends_mono _ p3 hne hb
  have b1 : (MkF.zero.run plO 1 pre).bad = 0 := by
    apply Classical.byContradiction
    intro hne
    exact p4 hne b2
  obtain ⟨d1, _⟩ := dis_run hA (Junk.refl pre 1) MkF.zero MkF.zero 1 (by omega) (by omega) d0 (fun s hs => hn s (by simp [hs])) b1
  obtain ⟨d2, _, k2⟩ := dis_put hA d1 (pre.length + 1) (Nat.le_refl _) s hs
  obtain ⟨d3, k3⟩ := dis_run hA hr _ _ (1 + pre.length) (by omega) (by omega) d2 (fun s hs => hn s (by simp [hs])) b2
  obtain ⟨_, k4⟩ := d3.ends hA hb
  have k5 := k4 (k3 (k2 rfl))
  have e2 : MkF.zero.run plO 1 (lnsF t) = ((MkF.zero.run plO 1 pre).line plO (pre.length + 1) s).run plO (pre.length + 2) r := by
    rw [hl, run_app]
    simp only [MkF.run]
    rw [show 1 + pre.length = pre.length + 1 by omega]
  unfold asmF
  rw [e2, k5, if_neg (by omega), if_pos (by omega)]
end Go.Proofs.YtcnjlbjpeklgkaaGreatDoor
namespace Go.Proofs.YtcnjlbjpeklgkaaGreatDoor
set_option linter.unusedVariables false
set_option linter.unusedSimpArgs false

/-- the lines that are none -/
def jkL : List (List Int) := [byS "foo", byS "fix", byS "fix 1 2", byS "fix 01", byS "fix -0", byS "fix 1152921504606846976", byS "pop 1", byS "flo 1", byS "flo 0x123", byS "flo 0x3FF0000000000000", byS "char ''", byS "char 'ab'", byS "char '" ++ [255] ++ byS "'", byS "char \"a\"", byS "imm no", byS "jump 1x", byS "func 0 0", byS "func 0 0 0 0", byS "func 0 0 x", byS "globals", byS "globals 1 1", byS "text", byS "text \"a", byS "text \"a\"b", byS "text \"\\q\"", byS "L0: pop", byS "1a:", byS ":", byS "add\r", byS "jump nowhere", byS "branch nowhere ; there"]
def nevB (nw s : List Int) : Bool := match wsF s with
  | none => true
  | some ws => never plO ws || (match ws with
    | [w, nm] => nm == nw && w != byS "globals" && w != byS "text" && w != byS "func" && opF w != 0 && plO (opF w) && (match opnF (opF w) nm with
      | some (.inr x) => x == nm
      | _ => false)
    | _ => false)
theorem nev_of {nw s : List Int} (h : nevB nw s = true) : Nev [nw] s := by
  unfold nevB at h
  split at h
  · rename_i e; exact .inl e
  · rename_i ws e
    by_cases hn : never plO ws = true
    · exact .inr (.inl ⟨ws, e, hn⟩)
    · simp only [hn, Bool.false_or] at h
      split at h
      · rename_i w nm
        simp only [Bool.and_eq_true, beq_iff_eq, bne_iff_ne, ne_eq] at h
        obtain ⟨⟨⟨⟨⟨⟨a, b⟩, c⟩, d⟩, e1⟩, f⟩, g⟩ := h
        refine .inr (.inr ⟨w, nm, e, by simp [a], b, c, d, e1, f, ?_⟩)
        split at g
        · rename_i x hx
          rw [hx, beq_iff_eq.mp g]
        · cases g
      · cases h
theorem jk_len : jkL.length = 31 := rfl
theorem jk_nev : ∀ i : Fin 31, nevB (byS "nowhere") (jkL.getD i []) = true ∧ (10 : Int) ∉ jkL.getD i [] ∧ (jkL.getD i []).length ≤ 30 := by decide +kernel
theorem jk_ok (i : Nat) (h : i < 31) : Nev [byS "nowhere"] (jkL.getD i []) ∧ (10 : Int) ∉ jkL.getD i [] ∧ (jkL.getD i []).length ≤ 30 := by
  have := jk_nev ⟨i, h⟩
  exact ⟨nev_of this.1, this.2⟩
/-- no line of a printed program is a label of that name -/
theorem two_ws {a b : List Int} {r : List (List Int)} {s : List Int} (h : wsF s = some (a :: b :: r)) (x : List Int) : wsF s ≠ some [x] := by
  rw [h]; simp
theorem cod_nolab (nm : List Int) (h1 : nm.head? ≠ some 76) (h2 : nm ≠ []) (c : List InF) : ∀ (r : List InF) (k : Nat), (∀ x ∈ r, okI x) → ∀ l ∈ codL plO c k r, wsF l ≠ some [nm ++ [58]] := by
  intro r
  induction r with
  | nil => intro k _ l hl; simp [codL] at hl
  | cons x r ih =>
    intro k hr l hl
    have el : codL plO c k (x :: r) = (if goesB c k then [76 :: dcF k ++ [58]] else []) ++ (inL c.length x :: codL plO c (k + 1) r) := by
      simp only [codL, insL, inL, List.append_assoc]
      rfl
    rw [el] at hl
    rcases List.mem_append.mp hl with q | q
    · split at q
      · have := List.mem_singleton.mp q
        subst this
        have hw : Wd (76 :: dcF k ++ [58]) := wd_app (wd_cons (by unfold beB pcB; omega) (wd_dc k)) (by intro d hd; simp at hd; subst hd; unfold pcB; omega)
        rw [hw.last]
        intro e
        have e := (List.cons.inj (Option.some.inj e)).1
        cases nm with
        | nil => exact h2 rfl
        | cons y nm =>
          have := (List.cons.inj e).1
          subst this
          exact h1 rfl
      · simp at q
    · rcases List.mem_cons.mp q with q2 | q2
      · subst q2
        have hx := hr x (by simp)
        rw [in_ws hx]
        by_cases hp : plO x.1 = true
        · rw [if_pos hp]; simp
        · rw [if_neg hp]
          intro e
          have e := (List.cons.inj (Option.some.inj e)).1
          refine name_last hx.1 ?_
          rw [e, List.getLast?_concat]
      · exact ih (k + 1) (fun y hy => hr y (by simp [hy])) l q2
theorem pr_nolab (nm : List Int) (h1 : nm.head? ≠ some 76) (h2 : nm ≠ []) (p : PrF) (h : okP p) (hB : ∀ b ∈ p.2.1, ∀ x ∈ b, 0 ≤ x ∧ x ≤ 255) : ∀ l ∈ prL plO p, wsF l ≠ some [nm ++ [58]] := by
  obtain ⟨g, tx, fs⟩ := p
  obtain ⟨hg, _, _, _, h4⟩ := h
  simp only at hg h4 hB
  intro l hl
  unfold prL at hl
  rcases List.mem_append.mp hl with h5 | h5
  · rcases List.mem_append.mp h5 with h6 | h6
    · split at h6
      · have := List.mem_singleton.mp h6
        subst this
        have e : byS "globals " ++ dcF g.toNat = byS "globals" ++ 32 :: dcF g.toNat := by
          have : byS "globals " = byS "globals" ++ [32] := by decide +kernel
          rw [this, List.append_assoc]; rfl
        refine two_ws (a := byS "globals") (b := dcF g.toNat) (r := []) ?_ _
        rw [e, wd_globals.then, (wd_dc _).last]
        rfl
      · simp at h6
    · obtain ⟨b, hb, rfl⟩ := List.mem_map.mp h6
      have e : byS "text \"" ++ spF b ++ [34] = byS "text" ++ 32 :: (34 :: spF b ++ [34]) := by
        have : byS "text \"" = byS "text" ++ [32, 34] := by decide +kernel
        rw [this]; simp
      refine two_ws (a := byS "text") (b := 34 :: spF b ++ [34]) (r := []) ?_ _
      rw [e, wd_text.then, ws_text b (hB b hb)]
      rfl
  · obtain ⟨f, hf, h6⟩ := List.mem_flatMap.mp h5
    rcases List.mem_cons.mp h6 with h7 | h7
    · subst h7
      have e : byS "func " ++ dcF f.1.toNat ++ [32] ++ dcF f.2.1.toNat ++ [32] ++ dcF f.2.2.1.toNat = byS "func" ++ 32 :: (dcF f.1.toNat ++ 32 :: (dcF f.2.1.toNat ++ 32 :: dcF f.2.2.1.toNat)) := by
        have : byS "func " = byS "func" ++ [32] := by decide +kernel
        rw [this]; simp
      refine two_ws (a := byS "func") (b := dcF f.1.toNat) (r := [dcF f.2.1.toNat, dcF f.2.2.1.toNat]) ?_ _
      rw [e, wd_func.then, (wd_dc _).then, (wd_dc _).then, (wd_dc _).last]
      rfl
    · exact cod_nolab nm h1 h2 _ _ 0 (h4 f hf).2.2.2.2 l h7
end Go.Proofs.YtcnjlbjpeklgkaaGreatDoor
