import Derived.Test.YtcnjlbjpeklgkaaGreatDoorR03
import Derived.Test.YtcnjlbjpeklgkaaGreatDoorR00
namespace Go.Proofs.YtcnjlbjpeklgkaaGreatDoor
set_option linter.unusedVariables false
set_option linter.unusedSimpArgs false

theorem dcF_lt {n : Nat} (h : n < 10) : dcF n = [48 + (n : Int)] := by rw [dcF, if_pos h]
theorem dcF_ge {n : Nat} (h : 10 ≤ n) : dcF n = dcF (n / 10) ++ [48 + ((n % 10 : Nat) : Int)] := by rw [dcF, if_neg (by omega)]
theorem dcF_ne (n : Nat) : dcF n ≠ [] := by
  by_cases h : n < 10
  · rw [dcF_lt h]; simp
  · rw [dcF_ge (by omega)]; simp
theorem dcF_dig (n : Nat) : ∀ c ∈ dcF n, 48 ≤ c ∧ c ≤ 57 := by
  induction n using Nat.strongRecOn with
  | _ n ih =>
    by_cases h : n < 10
    · rw [dcF_lt h]; intro c hc; simp at hc; omega
    · rw [dcF_ge (by omega)]
      intro c hc
      rcases List.mem_append.mp hc with h1 | h1
      · exact ih (n / 10) (by omega) c h1
      · simp at h1; omega
theorem dcF_head (n : Nat) (hn : 0 < n) : (dcF n).head? ≠ some 48 := by
  induction n using Nat.strongRecOn with
  | _ n ih =>
    by_cases h : n < 10
    · rw [dcF_lt h]; simp; omega
    · rw [dcF_ge (by omega)]
      have h1 := ih (n / 10) (by omega) (by omega)
      have h2 := dcF_ne (n / 10)
      cases e : dcF (n / 10) with
      | nil => exact absurd e h2
      | cons a l => rw [e] at h1; simpa using h1
theorem decA_app (l : List Int) : ∀ (n : Int) (r : List Int), decA n (l ++ r) = (decA n l).bind (fun m => decA m r) := by
  induction l with
  | nil => intro n r; rfl
  | cons c l ih =>
    intro n r
    simp only [List.cons_append, decA]
    split
    · exact ih _ r
    · rfl
theorem decA_dc (n : Nat) (hn : n ≤ 9223372036854775807) : decA 0 (dcF n) = some (n : Int) := by
  induction n using Nat.strongRecOn with
  | _ n ih =>
    by_cases h : n < 10
    · rw [dcF_lt h]
      simp only [decA, dgB]
      refine (if_pos ⟨by simp; omega, by omega⟩).trans ?_
      congr 1; omega
    · rw [dcF_ge (by omega), decA_app, ih (n / 10) (by omega) (by omega)]
      simp only [Option.bind_some, decA, dgB]
      refine (if_pos ⟨by simp; omega, by omega⟩).trans ?_
      congr 1; omega
theorem dec_dc (n : Nat) (hn : n ≤ 9223372036854775807) : decF (dcF n) = some (n : Int) := by
  unfold decF
  rw [if_neg, decA_dc n hn]
  rintro (h | ⟨h, h1⟩)
  · exact dcF_ne n h
  · by_cases h0 : n < 10
    · rw [dcF_lt h0] at h; simp at h
    · exact dcF_head n (by omega) h1
theorem lnsA_row (x : List Int) (hx : (10 : Int) ∉ x) : ∀ (l r : List Int), lnsA l (x ++ 10 :: r) = (l ++ x) :: lnsA [] r := by
  induction x with
  | nil => intro l r; simp [lnsA]
  | cons c x ih =>
    intro l r
    simp only [List.mem_cons, not_or] at hx
    simp only [List.cons_append, lnsA]
    rw [if_neg (fun e => hx.1 e.symm), ih hx.2]
    simp
theorem lns_rows (ls : List (List Int)) (h : ∀ l ∈ ls, (10 : Int) ∉ l) : lnsF (ls.flatMap (fun l => l ++ [10])) = ls := by
  unfold lnsF
  induction ls with
  | nil => rfl
  | cons l ls ih =>
    rw [List.flatMap_cons, List.append_assoc]
    have := lnsA_row l (h l (by simp)) [] (ls.flatMap (fun l => l ++ [10]))
    simp only [List.nil_append, List.singleton_append] at this ⊢
    rw [this, ih (fun l hl => h l (by simp [hl]))]
theorem hx_hx (n : Int) (h0 : 0 ≤ n) (h1 : n < 16) : hxF (hx1 n) = some n := by
  unfold hxF hx1 dgB
  by_cases h : n < 10
  · simp only [if_pos h]
    rw [if_pos (by simp; omega)]
    congr 1; omega
  · simp only [if_neg h]
    rw [if_neg (by simp; omega), if_pos (by omega)]
    congr 1; omega
theorem unq_one (c : Int) (r : List Int) (h : c ≠ 92) : unqF (c :: r) = (unqF r).map (c :: ·) := by rw [unqF.eq_def]; simp [h]
theorem unq_esc (d : Int) (r : List Int) (h : d = 92 ∨ d = 34 ∨ d = 39) : unqF (92 :: d :: r) = (unqF r).map (d :: ·) := by rw [unqF.eq_def]; simp [h]
theorem unq_n (r : List Int) : unqF (92 :: 110 :: r) = (unqF r).map (10 :: ·) := by rw [unqF.eq_def]; simp
theorem unq_t (r : List Int) : unqF (92 :: 116 :: r) = (unqF r).map (9 :: ·) := by rw [unqF.eq_def]; simp
theorem unq_x (a b x y : Int) (r : List Int) (ha : hxF a = some x) (hb : hxF b = some y) : unqF (92 :: 120 :: a :: b :: r) = (unqF r).map ((16 * x + y) :: ·) := by rw [unqF.eq_def]; simp [ha, hb]
theorem unq_sp (b : Int) (h0 : 0 ≤ b) (h1 : b ≤ 255) (r : List Int) : unqF (spB b ++ r) = (unqF r).map (b :: ·) := by
  unfold spB
  split
  · rename_i h
    exact unq_esc b r (by omega)
  · split
    · rename_i h
      subst h
      exact unq_n r
    · split
      · rename_i h
        subst h
        exact unq_t r
      · split
        · exact unq_one b r (by omega)
        · have e : 16 * (b / 16) + b % 16 = b := by omega
          have a := unq_x _ _ _ _ r (hx_hx (b / 16) (by omega) (by omega)) (hx_hx (b % 16) (by omega) (by omega))
          rw [e] at a
          exact a
theorem unq_sps (b : List Int) (h : ∀ x ∈ b, 0 ≤ x ∧ x ≤ 255) : unqF (spF b) = some b := by
  unfold spF
  induction b with
  | nil => simp [unqF]
  | cons x b ih =>
    rw [List.flatMap_cons, unq_sp x (h x (by simp)).1 (h x (by simp)).2, ih (fun y hy => h y (by simp [hy]))]
    rfl
theorem op_name : ∀ op : Fin 76, nameF op ≠ [] → opF (nameF op) = (op : Int) := by decide +kernel
end Go.Proofs.YtcnjlbjpeklgkaaGreatDoor
namespace Go.Proofs.YtcnjlbjpeklgkaaGreatDoor
set_option linter.unusedVariables false
set_option linter.unusedSimpArgs false

/-- a byte that ends no word, one that begins a plain word -/
def pcB (c : Int) : Prop := c ≠ 32 ∧ c ≠ 9 ∧ c ≠ 59
def beB (c : Int) : Prop := pcB c ∧ c ≠ 34 ∧ c ≠ 39
theorem bl_no {c : Int} (h : pcB c) : blB c = false := by
  obtain ⟨h1, h2, h3⟩ := h
  unfold blB
  simp [h1, h2]
theorem ws_word (x : List Int) (h : ∀ c ∈ x, pcB c) : ∀ (w r : List Int), wsA (.word w) (x ++ r) = wsA (.word (w ++ x)) r := by
  induction x with
  | nil => intro w r; simp
  | cons c x ih =>
    intro w r
    have hc := h c (by simp)
    simp only [List.cons_append, wsA, bl_no hc]
    rw [if_neg (by simp), if_neg hc.2.2, ih (fun d hd => h d (by simp [hd]))]
    simp
theorem ws_begin (c : Int) (x r : List Int) (hb : beB c) (h : ∀ c ∈ x, pcB c) : wsA .gap (c :: x ++ r) = wsA (.word (c :: x)) r := by
  have e : c :: x ++ r = c :: (x ++ r) := rfl
  rw [e]
  simp only [wsA, bl_no hb.1]
  rw [if_neg (by simp), if_neg hb.1.2.2, if_neg (by rintro (h | h); exact hb.2.1 h; exact hb.2.2 h), ws_word x h]
  simp
/-- a plain word, as it may stand in a line -/
def Wd (s : List Int) : Prop := ∃ c x, s = c :: x ∧ beB c ∧ ∀ d ∈ x, pcB d
theorem Wd.ws {s : List Int} (h : Wd s) (r : List Int) : wsA .gap (s ++ r) = wsA (.word s) r := by
  obtain ⟨c, x, rfl, h1, h2⟩ := h
  exact ws_begin c x r h1 h2
theorem Wd.last {s : List Int} (h : Wd s) : wsF s = some [s] := by
  have a := h.ws []
  rw [List.append_nil] at a
  unfold wsF
  rw [a]
  rfl
theorem Wd.then {s : List Int} (h : Wd s) (r : List Int) : wsF (s ++ 32 :: r) = (wsF r).map (s :: ·) := by
  unfold wsF
  rw [h.ws]
  simp [wsA, blB]
theorem ws_tab (r : List Int) : wsF (9 :: r) = wsF r := by
  unfold wsF
  simp [wsA, blB]
theorem Wd.one {s : List Int} (h : Wd s) : ∃ c, c ∈ s := by
  obtain ⟨c, x, rfl, _⟩ := h
  exact ⟨c, by simp⟩
theorem wd_dc (n : Nat) : Wd (dcF n) := by
  have h := dcF_dig n
  cases e : dcF n with
  | nil => exact absurd e (dcF_ne n)
  | cons c x =>
    rw [e] at h
    refine ⟨c, x, rfl, ?_, fun d hd => ?_⟩
    · have := h c (by simp)
      unfold beB pcB; omega
    · have := h d (by simp [hd])
      unfold pcB; omega
theorem wd_cons {c : Int} {s : List Int} (hc : beB c) (h : Wd s) : Wd (c :: s) := by
  obtain ⟨d, x, rfl, h1, h2⟩ := h
  refine ⟨c, d :: x, rfl, hc, fun y hy => ?_⟩
  rcases List.mem_cons.mp hy with h | h
  · subst h; exact h1.1
  · exact h2 y h
theorem wd_app {s t : List Int} (h : Wd s) (ht : ∀ d ∈ t, pcB d) : Wd (s ++ t) := by
  obtain ⟨c, x, rfl, h1, h2⟩ := h
  refine ⟨c, x ++ t, rfl, h1, fun y hy => ?_⟩
  rcases List.mem_append.mp hy with h | h
  · exact h2 y h
  · exact ht y h
/-- a quote's bytes are gone over -/
theorem ws_quote (b : List Int) (h : ∀ x ∈ b, 0 ≤ x ∧ x ≤ 255) : ∀ (w r : List Int), wsA (.quo 34 w) (spF b ++ r) = wsA (.quo 34 (w ++ spF b)) r := by
  unfold spF
  induction b with
  | nil => intro w r; simp
  | cons x b ih =>
    intro w r
    have hx := h x (by simp)
    have one : ∀ q, wsA (.quo 34 w) (spB x ++ q) = wsA (.quo 34 (w ++ spB x)) q := by
      intro q
      unfold spB
      split
      · simp [wsA]
      · split
        · simp [wsA]
        · split
          · simp [wsA]
          · split
            · rename_i h1 h2 h3 h4
              simp only [List.cons_append, List.nil_append, wsA]
              rw [if_neg (by omega), if_neg (by omega)]
            · have hh : ∀ n, 0 ≤ n → n < 16 → hx1 n ≠ 34 ∧ hx1 n ≠ 92 := by
                intro n h0 h1
                unfold hx1
                split <;> omega
              obtain ⟨a1, a2⟩ := hh (x / 16) (by omega) (by omega)
              obtain ⟨b1, b2⟩ := hh (x % 16) (by omega) (by omega)
              simp [wsA, a1, a2, b1, b2]
    rw [List.flatMap_cons, List.append_assoc, one, ih (fun y hy => h y (by simp [hy]))]
    simp
theorem ws_text (b : List Int) (h : ∀ x ∈ b, 0 ≤ x ∧ x ≤ 255) : wsF (34 :: spF b ++ [34]) = some [34 :: spF b ++ [34]] := by
  unfold wsF
  have e : 34 :: spF b ++ [34] = 34 :: (spF b ++ [34]) := rfl
  rw [e]
  simp only [wsA]
  rw [if_neg (by decide), if_neg (by decide), if_pos (by decide), ws_quote b h]
  simp [wsA]
theorem quo_in (s : List Int) (q : Int) : quoF (q :: s ++ [q]) q = unqF s := by
  unfold quoF
  rw [if_pos]
  · simp
  · refine ⟨by simp, rfl, ?_⟩
    have e : q :: s ++ [q] = (q :: s) ++ [q] := rfl
    rw [e, List.getLast?_concat]
theorem quo_text (b : List Int) (h : ∀ x ∈ b, 0 ≤ x ∧ x ≤ 255) : quoF (34 :: spF b ++ [34]) 34 = some b := by rw [quo_in, unq_sps b h]
theorem ws_char1 (c : Int) (h : c ≠ 39) (h' : c ≠ 92) : wsF [39, c, 39] = some [[39, c, 39]] := by
  unfold wsF
  simp [wsA, blB, h, h']
theorem ws_char2 (c : Int) : wsF [39, 92, c, 39] = some [[39, 92, c, 39]] := by
  unfold wsF
  simp [wsA, blB]
theorem sca_one (c : Int) (h : 32 ≤ c) (h' : c ≤ 126) : scaF [c] = some c := by
  unfold scaF
  have e : utfF c = [c] := by unfold utfF; rw [if_pos (by omega)]
  rw [if_neg]
  · rfl
  · simp only [sayF, e]
    simp
    omega
theorem quo_char1 (c : Int) (h : 32 ≤ c) (h' : c ≤ 126) (h1 : c ≠ 39) (h2 : c ≠ 92) : (quoF [39, c, 39] 39).bind scaF = some c := by
  have e : ([39, c, 39] : List Int) = 39 :: [c] ++ [39] := rfl
  rw [e, quo_in, unq_one c [] h2]
  have : unqF [] = some [] := by rw [unqF.eq_def]
  rw [this]
  exact sca_one c h h'
theorem quo_char2 (c : Int) (h : c = 39 ∨ c = 92) : (quoF [39, 92, c, 39] 39).bind scaF = some c := by
  have e : ([39, 92, c, 39] : List Int) = 39 :: [92, c] ++ [39] := rfl
  rw [e, quo_in, unq_esc c [] (by omega)]
  have : unqF [] = some [] := by rw [unqF.eq_def]
  rw [this]
  exact sca_one c (by omega) (by omega)
end Go.Proofs.YtcnjlbjpeklgkaaGreatDoor
namespace Go.Proofs.YtcnjlbjpeklgkaaGreatDoor
set_option linter.unusedVariables false
set_option linter.unusedSimpArgs false

theorem fl_step (u : Int) (hu : 0 ≤ u) : ∀ j : Nat, fl16 (u / 16 ^ j) ((List.range j).map (fun k => hx1 (u / 16 ^ (j - 1 - k) % 16))) = some u := by
  intro j
  induction j with
  | zero => simp [fl16]
  | succ j ih =>
    rw [List.range_succ_eq_map, List.map_cons, List.map_map]
    have e : ((fun k => hx1 (u / 16 ^ (j + 1 - 1 - k) % 16)) ∘ Nat.succ) = (fun k => hx1 (u / 16 ^ (j - 1 - k) % 16)) := by
      funext k
      simp only [Function.comp]
      congr 4
      omega
    rw [e]
    have h0 : (0 : Int) ≤ u / 16 ^ (j + 1 - 1 - 0) % 16 := by omega
    simp only [fl16, hx_hx _ h0 (by omega)]
    have e2 : u / 16 ^ (j + 1) * 16 + u / 16 ^ (j + 1 - 1 - 0) % 16 = u / 16 ^ j := by
      have : u / 16 ^ (j + 1) = u / 16 ^ j / 16 := by
        rw [Int.pow_succ, Int.ediv_ediv_of_nonneg (Int.le_of_lt (Int.pow_pos (by decide)))]
      rw [this]
      simp only [Nat.add_sub_cancel, Nat.sub_zero]
      omega
    rw [e2]
    exact ih
theorem fl_read (a : Int) : fl16 0 ((flF a).drop 2) = some (a % 18446744073709551616) := by
  unfold flF
  have h := fl_step (a % 18446744073709551616) (by omega) 16
  have e : a % 18446744073709551616 / 16 ^ 16 = 0 := by
    have : (16 : Int) ^ 16 = 18446744073709551616 := by decide
    rw [this]; omega
  rw [e] at h
  simpa using h
theorem fl_len (a : Int) : (flF a).length = 18 := by unfold flF; simp
theorem fl_take (a : Int) : (flF a).take 2 = [48, 120] := by unfold flF; simp
theorem sgn_mod (a : Int) (h : -9223372036854775808 ≤ a ∧ a ≤ 9223372036854775807) : sgn64 (a % 18446744073709551616) = a := by
  unfold sgn64; split <;> omega
theorem wd_fl (a : Int) : Wd (flF a) := by
  unfold flF
  refine ⟨48, 120 :: _, rfl, by unfold beB pcB; omega, fun d hd => ?_⟩
  rcases List.mem_cons.mp hd with h | h
  · subst h; unfold pcB; omega
  · obtain ⟨k, _, rfl⟩ := List.mem_map.mp h
    have : 0 ≤ a % 18446744073709551616 / 16 ^ (15 - k) % 16 := by omega
    unfold hx1 pcB
    split <;> omega
theorem dec_no {c : Int} {s : List Int} (h : c < 48 ∨ 57 < c) : decF (c :: s) = none := by
  unfold decF
  split
  · rfl
  · simp only [decA, dgB]
    refine if_neg ?_
    intro h2
    have := of_decide_eq_true h2.1
    omega
theorem dc_hd (n : Nat) : ∃ c r, dcF n = c :: r ∧ 48 ≤ c ∧ c ≤ 57 := by
  cases e : dcF n with
  | nil => exact absurd e (dcF_ne n)
  | cons c r =>
    have := dcF_dig n c (by rw [e]; simp)
    exact ⟨c, r, rfl, this⟩
theorem im_no (n : Nat) : imW.findIdx? (· == dcF n) = none := by
  obtain ⟨c, r, e, h1, h2⟩ := dc_hd n
  rw [e, List.findIdx?_eq_none_iff]
  have hw : ∀ w ∈ imW, ∃ d s, w = d :: s ∧ 97 ≤ d := by
    have : ∀ w ∈ imW, 97 ≤ w.headD 0 := by decide +kernel
    intro w hw
    have := this w hw
    cases w with
    | nil => simp at this
    | cons d s => exact ⟨d, s, rfl, by simpa using this⟩
  intro w hw'
  obtain ⟨d, s, rfl, hd⟩ := hw w hw'
  simp
  omega
theorem im_yes : ∀ i : Fin 6, imW.findIdx? (· == imW.getD i []) = some i.val := by decide +kernel
theorem im_wd : ∀ i : Fin 6, Wd (imW.getD i []) := by
  have h : ∀ i : Fin 6, (imW.getD i []) ≠ [] ∧ ∀ c ∈ imW.getD i [], 97 ≤ c := by decide +kernel
  intro i
  obtain ⟨h1, h2⟩ := h i
  cases e : imW.getD i [] with
  | nil => exact absurd e h1
  | cons c r =>
    rw [e] at h2
    have := h2 c (by simp)
    refine ⟨c, r, rfl, by unfold beB pcB; omega, fun d hd => ?_⟩
    have := h2 d (by simp [hd])
    unfold pcB; omega
theorem nm_lab (n : Nat) : nmB (76 :: dcF n) = true := by
  unfold nmB
  simp only [Bool.and_eq_true, List.all_eq_true]
  refine ⟨by decide, fun d hd => ?_⟩
  have := dcF_dig n d hd
  unfold ltB dgB
  simp; omega
/-- an operand that is told is one word, and is read again -/
def TWd (s : List Int) : Prop := wsF s = some [s]
theorem told_ws {x : InF} (h : okI x) (hp : 1 < opS x.1) (n : Nat) : TWd (toldF x n) := by
  unfold toldF TWd
  split
  · exact (wd_cons (by unfold beB pcB; omega) (wd_dc _)).last
  · split
    · exact (wd_fl _).last
    · split
      · exact ws_char2 _
      · split
        · rename_i h1 h2
          exact ws_char1 _ (fun e => h1 ⟨h2.1, .inl e⟩) (fun e => h1 ⟨h2.1, .inr e⟩)
        · split
          · rename_i h2
            have h0 : 0 ≤ x.2 := by
              have : opS x.1 = 2 := by rw [h2.1]; decide
              exact (h.2.2.1 this).1
            exact (im_wd ⟨x.2.toNat, by omega⟩).last
          · split
            · exact (wd_cons (by unfold beB pcB; omega) (wd_dc _)).last
            · exact (wd_dc _).last
theorem told_opn {x : InF} (h : okI x) (hp : 1 < opS x.1) (n : Nat) : opnF x.1 (toldF x n) = some (if (x.1 = 14 ∨ x.1 = 15) ∧ x.2 < n then .inr (76 :: dcF x.2.toNat) else .inl x.2) := by
  obtain ⟨op, a⟩ := x
  simp only at h hp ⊢
  obtain ⟨h0, h1, h2, h3, h4⟩ := h
  simp only at h0 h1 h2 h3 h4
  have hs : opS op = 2 ∨ opS op = 3 ∨ opS op = 4 := by
    unfold opS at hp ⊢
    split at hp <;> rename_i c1
    · simp [c1]
    · split at hp <;> rename_i c2
      · simp [c2]
      · split at hp <;> rename_i c3
        · simp [c1, c2, c3]
        · split at hp <;> omega
  have nine : (9223372036854775807 : Int) = ((9223372036854775807 : Nat) : Int) := rfl
  have plain : 0 ≤ a → a ≤ 9223372036854775807 → decF (dcF a.toNat) = some a := by
    intro p q
    rw [dec_dc _ (by omega)]
    congr 1; omega
  by_cases o1 : op = 1
  · subst o1
    have hb := h3 (by decide)
    have hf : ¬ (((1 : Int) = 14 ∨ (1 : Int) = 15) ∧ a < n) := by omega
    rw [if_neg hf]
    by_cases hn : a < 0
    · have et : toldF (1, a) n = 45 :: dcF (-a).toNat := by unfold toldF; exact if_pos ⟨rfl, hn⟩
      have hl : 1 < (45 :: dcF (-a).toNat : List Int).length := by
        obtain ⟨c, r, e, _⟩ := dc_hd (-a).toNat
        rw [e]; simp
      have e : decF (dcF (-a).toNat) = some (-a) := by
        rw [dec_dc _ (by omega)]
        congr 1; omega
      rw [et]
      unfold opnF
      rw [if_pos rfl, if_pos ⟨hl, rfl⟩]
      simp only [List.drop_succ_cons, List.drop_zero, e, Option.bind_some]
      rw [if_neg (by omega)]
      simp only [Int.neg_neg]
      rw [if_pos hb]
    · have et : toldF (1, a) n = dcF a.toNat := by simp [toldF, hn]
      have hh : ¬ (1 < (dcF a.toNat).length ∧ (dcF a.toNat).head? = some 45) := by
        obtain ⟨c, r, e, _⟩ := dc_hd a.toNat
        rw [e]; simp; omega
      rw [et]
      unfold opnF
      rw [if_pos rfl, if_neg hh, plain (by omega) (by omega)]
      simp only
      rw [if_pos hb]
  · by_cases o5 : op = 5
    · subst o5
      have hb := h4 (by decide)
      have hf : ¬ (((5 : Int) = 14 ∨ (5 : Int) = 15) ∧ a < n) := by omega
      have et : toldF (5, a) n = flF a := by simp [toldF]
      rw [if_neg hf, et]
      unfold opnF
      rw [if_neg (by decide), if_neg (by decide), if_neg (by decide), if_pos rfl, if_pos ⟨fl_len a, fl_take a⟩, fl_read]
      simp only [Option.map_some]
      rw [sgn_mod a hb]
    · have h22 : opS op = 2 := by
        unfold opS at hs ⊢
        rw [if_neg o1, if_neg o5] at hs ⊢
        split at hs <;> rename_i c3
        · rw [if_pos c3]
        · split at hs <;> omega
      have hb := h2 h22
      have pl := plain hb.1 (by omega)
      by_cases o2 : op = 2
      · subst o2
        have hf : ¬ (((2 : Int) = 14 ∨ (2 : Int) = 15) ∧ a < n) := by omega
        rw [if_neg hf]
        by_cases q1 : a = 39 ∨ a = 92
        · have et : toldF (2, a) n = [39, 92, a, 39] := by simp [toldF, q1]
          rw [et]
          unfold opnF
          rw [if_neg (by decide), if_pos rfl, dec_no (by omega)]
          simp only
          rw [quo_char2 a q1]
          rfl
        · by_cases q2 : 32 ≤ a ∧ a ≤ 126
          · have et : toldF (2, a) n = [39, a, 39] := by simp [toldF, q1, q2]
            rw [et]
            unfold opnF
            rw [if_neg (by decide), if_pos rfl, dec_no (by omega)]
            simp only
            rw [quo_char1 a q2.1 q2.2 (by omega) (by omega)]
            rfl
          · have et : toldF (2, a) n = dcF a.toNat := by simp [toldF, q1, q2]
            rw [et]
            unfold opnF
            rw [if_neg (by decide), if_pos rfl, pl]
      · by_cases o3 : op = 3
        · subst o3
          have hf : ¬ (((3 : Int) = 14 ∨ (3 : Int) = 15) ∧ a < n) := by omega
          rw [if_neg hf]
          by_cases q : a ≤ 5
          · have et : toldF (3, a) n = imW.getD a.toNat [] := by unfold toldF; rw [if_neg (by simp), if_neg (by simp), if_neg (by simp), if_neg (by simp), if_pos ⟨rfl, q⟩]
            have hi : imW.findIdx? (· == imW.getD a.toNat []) = some a.toNat := im_yes ⟨a.toNat, by omega⟩
            rw [et]
            unfold opnF
            rw [if_neg (by decide), if_neg (by decide), if_pos rfl, hi]
            simp only
            congr 2; omega
          · have et : toldF (3, a) n = dcF a.toNat := by unfold toldF; rw [if_neg (by simp), if_neg (by simp), if_neg (by simp), if_neg (by simp), if_neg (by simp; omega), if_neg (by simp)]
            rw [et]
            unfold opnF
            rw [if_neg (by decide), if_neg (by decide), if_pos rfl, im_no, pl]
            rfl
        · by_cases q : (op = 14 ∨ op = 15) ∧ a < n
          · have et : toldF (op, a) n = 76 :: dcF a.toNat := by
              unfold toldF
              rw [if_neg (fun e => o1 e.1), if_neg o5, if_neg (fun e => o2 e.1), if_neg (fun e => o2 e.1), if_neg (fun e => o3 e.1)]
              exact if_pos q
            rw [et, if_pos q]
            unfold opnF
            rw [if_neg o1, if_neg o2, if_neg o3, if_neg o5, if_pos q.1, dec_no (by omega)]
            simp only
            rw [if_pos (nm_lab _)]
          · have et : toldF (op, a) n = dcF a.toNat := by
              unfold toldF
              rw [if_neg (fun e => o1 e.1), if_neg o5, if_neg (fun e => o2 e.1), if_neg (fun e => o2 e.1), if_neg (fun e => o3 e.1)]
              exact if_neg q
            rw [et, if_neg q]
            unfold opnF
            rw [if_neg o1, if_neg o2, if_neg o3, if_neg o5, pl]
            split <;> rfl
end Go.Proofs.YtcnjlbjpeklgkaaGreatDoor
namespace Go.Proofs.YtcnjlbjpeklgkaaGreatDoor
set_option linter.unusedVariables false
set_option linter.unusedSimpArgs false

/-- has an operation an operand? -/
def plO (op : Int) : Bool := decide (1 < opS op)
theorem ops_rng {op : Int} (h : opS op ≠ 0) : (1 ≤ op ∧ op ≤ 22) ∨ (30 ≤ op ∧ op ≤ 75) := by
  unfold opS at h
  split at h
  · omega
  · split at h
    · omega
    · split at h
      · omega
      · split at h
        · omega
        · exact absurd rfl h
theorem nm_all : ∀ i : Fin 76, opS (i.val : Int) ≠ 0 → nameF (i.val : Int) ≠ [] ∧ (∀ c ∈ nameF (i.val : Int), 97 ≤ c) ∧ opF (nameF (i.val : Int)) = (i.val : Int) ∧ nameF (i.val : Int) ≠ byS "globals" ∧ nameF (i.val : Int) ≠ byS "func" := by decide +kernel
theorem nm_op {op : Int} (h : opS op ≠ 0) : nameF op ≠ [] ∧ (∀ c ∈ nameF op, 97 ≤ c) ∧ opF (nameF op) = op ∧ nameF op ≠ byS "globals" ∧ nameF op ≠ byS "func" := by
  have hr := ops_rng h
  have := nm_all ⟨op.toNat, by omega⟩
  have e : ((op.toNat : Nat) : Int) = op := by omega
  simp only [e] at this
  exact this h
theorem wd_name {op : Int} (h : opS op ≠ 0) : Wd (nameF op) := by
  obtain ⟨h1, h2, _⟩ := nm_op h
  cases e : nameF op with
  | nil => exact absurd e h1
  | cons c r =>
    rw [e] at h2
    have := h2 c (by simp)
    refine ⟨c, r, rfl, by unfold beB pcB; omega, fun d hd => ?_⟩
    have := h2 d (by simp [hd])
    unfold pcB; omega
theorem name_last {op : Int} (h : opS op ≠ 0) : (nameF op).getLast? ≠ some 58 := by
  obtain ⟨h1, h2, _⟩ := nm_op h
  intro e
  have := h2 58 (List.mem_of_getLast? e)
  omega
/-- an instruction's line, cut into words -/
def inL (n : Nat) (x : InF) : List Int := 9 :: nameF x.1 ++ (if plO x.1 then 32 :: toldF x n else [])
theorem in_ws {x : InF} (h : okI x) (n : Nat) : wsF (inL n x) = some (nameF x.1 :: if plO x.1 then [toldF x n] else []) := by
  unfold inL
  by_cases hp : plO x.1 = true
  · rw [if_pos hp, if_pos hp]
    have e : (9 :: nameF x.1 ++ 32 :: toldF x n) = 9 :: (nameF x.1 ++ 32 :: toldF x n) := rfl
    rw [e, ws_tab, (wd_name h.1).then, told_ws h (of_decide_eq_true hp)]
    rfl
  · rw [if_neg hp, if_neg hp, List.append_nil, ws_tab, (wd_name h.1).last]
/-- does an instruction go to a label, in a function of n instructions? -/
def lbB (n : Nat) (x : InF) : Bool := (x.1 == 14 || x.1 == 15) && decide (x.2 < (n : Int))
theorem lb_iff {n : Nat} {x : InF} : lbB n x = true ↔ (x.1 = 14 ∨ x.1 = 15) ∧ x.2 < n := by
  unfold lbB; simp
theorem addI_last (fs : List FnF) (a b c : Int) (l : List InF) (x : InF) : addI (fs ++ [(a, b, c, l)]) x = fs ++ [(a, b, c, l ++ [x])] := by
  unfold addI; simp
theorem setA_last (fs : List FnF) (a b c : Int) (l : List InF) (i : Nat) (v : Int) : setA (fs ++ [(a, b, c, l)]) i v = fs ++ [(a, b, c, l.modify i (fun x => (x.1, v)))] := by
  unfold setA; simp
theorem lenI_last (fs : List FnF) (a b c : Int) (l : List InF) : lenI (fs ++ [(a, b, c, l)]) = l.length := by
  unfold lenI; simp
/-- an instruction's line: what it does -/
theorem in_step {x : InF} (h : okI x) (n line : Nat) (g : Int) (tx : List (List Int)) (fs : List FnF) (a b c : Int) (l : List InF) (bg : Bool) (la : List (List Int × Int)) (us : List (Nat × Nat × List Int)) (bd : Nat) :
    MkF.line plO ⟨g, tx, fs ++ [(a, b, c, l)], bg, true, la, us, bd⟩ line (inL n x)
      = ⟨g, tx, fs ++ [(a, b, c, l ++ [if lbB n x then (x.1, 0) else x])], bg, true, la, us ++ (if lbB n x then [(l.length, line, 76 :: dcF x.2.toNat)] else []), bd⟩ := by
  obtain ⟨n1, n2, n3, n4, n5⟩ := nm_op h.1
  have hz : x.1 ≠ 0 := by have := ops_rng h.1; omega
  have ho : x = (x.1, x.2) := rfl
  unfold MkF.line
  rw [in_ws h n]
  simp only [Option.bind_some, MkF.words]
  rw [if_neg (fun e => name_last h.1 e.2), if_neg n4, if_neg (by simp), if_neg n5]
  simp only [MkF.ins, n3]
  rw [if_neg (by simp [hz])]
  by_cases hp : plO x.1 = true
  · rw [if_pos hp, if_pos hp]
    simp only [told_opn h (of_decide_eq_true hp) n]
    by_cases hb : lbB n x = true
    · rw [if_pos (lb_iff.mp hb), if_pos hb, if_pos hb]
      simp only [addI_last, lenI_last]
    · rw [if_neg (fun e => hb (lb_iff.mpr e)), if_neg hb, if_neg hb]
      simp only [addI_last, List.append_nil]
  · have h1 : opS x.1 = 1 := by
      have : ¬ 1 < opS x.1 := fun e => hp (decide_eq_true e)
      have := h.1
      omega
    have h0 := h.2.1 h1
    have hb : ¬ lbB n x = true := by
      intro e
      rcases (lb_iff.mp e).1 with q | q <;> rw [q] at h1 <;> exact absurd h1 (by decide)
    rw [if_neg hp, if_neg hp, if_neg hb, if_neg hb]
    simp only [if_true, addI_last, List.append_nil]
    rw [← h0]
theorem dcF_inj {m n : Nat} (hm : m ≤ 9223372036854775807) (hn : n ≤ 9223372036854775807) (h : dcF m = dcF n) : m = n := by
  have a := dec_dc m hm
  rw [h, dec_dc n hn] at a
  have := Option.some.inj a
  omega
/-- a label's line: what it does -/
theorem lb_step (j line : Nat) (g : Int) (tx : List (List Int)) (fs : List FnF) (a b c : Int) (l : List InF) (bg : Bool) (la : List (List Int × Int)) (us : List (Nat × Nat × List Int)) (bd : Nat) (hj : j = l.length) (hn : la.find? (fun p => p.1 == 76 :: dcF j) = none) :
    MkF.line plO ⟨g, tx, fs ++ [(a, b, c, l)], bg, true, la, us, bd⟩ line (76 :: dcF j ++ [58])
      = ⟨g, tx, fs ++ [(a, b, c, l)], bg, true, la ++ [(76 :: dcF j, (j : Int))], us, bd⟩ := by
  have hw : Wd (76 :: dcF j ++ [58]) := wd_app (wd_cons (by unfold beB pcB; omega) (wd_dc j)) (by intro d hd; simp at hd; subst hd; unfold pcB; omega)
  unfold MkF.line
  rw [hw.last]
  simp only [Option.bind_some, MkF.words]
  have e1 : (76 :: dcF j ++ [58] : List Int).getLast? = some 58 := List.getLast?_concat (l := 76 :: dcF j)
  have e2 : (76 :: dcF j ++ [58] : List Int).dropLast = 76 :: dcF j := List.dropLast_concat (l₁ := 76 :: dcF j)
  rw [if_pos ⟨trivial, e1⟩, e2]
  unfold MkF.mark
  rw [if_pos ⟨nm_lab j, rfl, hn⟩]
  simp only [lenI_last, hj]
end Go.Proofs.YtcnjlbjpeklgkaaGreatDoor
