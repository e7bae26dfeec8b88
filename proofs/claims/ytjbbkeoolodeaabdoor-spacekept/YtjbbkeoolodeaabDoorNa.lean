import Derived.Test.YtjbbkeoolodeaabDoorMm
namespace Go.Proofs.YtjbbkeoolodeaabDoor
open Go.RowKit
set_option linter.unusedVariables false
set_option linter.unusedSimpArgs false

theorem fr_same {n : Nat} {s s' : Sp} (h1 : s.S = s'.S) (h2 : s.O = s'.O) (c : Int) : fr n s c = fr n s' c := by
  funext i; unfold fr; rw [h1, h2]
theorem fr_one {n : Nat} {st : Sp} {c d : Int} {i : Nat} (h1 : fr n st c i = true) (h2 : fr n st d i = true) : c = d := by
  have a := (fr_iff.1 h1).2.1
  rw [(fr_iff.1 h2).2.1] at a
  simp at a; exact a.symm
theorem ln_W {n : Nat} {s1 : Sp} : ∀ c i, (∀ d : Nat, d < c → fr n s1 (d : Int) i = true → (lnSp n s1 c).W i = linkV (nf n s1 (d : Int) (i + 1))) ∧ ((∀ d : Nat, d < c → fr n s1 (d : Int) i = false) → (lnSp n s1 c).W i = s1.W i)
  | 0, i => ⟨fun d h => by omega, fun _ => rfl⟩
  | c + 1, i => by
    obtain ⟨ih1, ih2⟩ := ln_W (n := n) (s1 := s1) c i
    obtain ⟨p1, p2, p3⟩ := ln_parts n s1 c
    have hf := fun d => fr_same (n := n) p1 p2 d
    have hW : (lnSp n s1 (c + 1)).W i = if fr n s1 (c : Int) i then linkV (nf n s1 (c : Int) (i + 1)) else (lnSp n s1 c).W i := by
      show linkR n (rawOf n (lnSp n s1 c)) c i = _
      unfold linkR nf
      show (if fr n (lnSp n s1 c) (c : Int) i then linkV (nxr (fr n (lnSp n s1 c) (c : Int)) (64 * n) (i + 1)) else (lnSp n s1 c).W i) = _
      rw [hf]
    rw [hW]
    refine ⟨fun d hd hfd => ?_, fun h => ?_⟩
    · cases e : fr n s1 (c : Int) i with
      | true =>
        rw [if_pos rfl]
        have : (c : Int) = (d : Int) := fr_one e hfd
        rw [this]
      | false =>
        rw [if_neg (by simp)]
        refine ih1 d ?_ hfd
        by_cases e2 : d = c
        · rw [e2, e] at hfd; cases hfd
        · omega
    · rw [h c (by omega), if_neg (by simp)]
      exact ih2 fun d hd => h d (by omega)
theorem fr_class {n : Nat} {st : Sp} (hi : Inv n st) {c : Int} {i : Nat} (h : fr n st c i = true) : ∃ d : Nat, d < 8 ∧ c = (d : Int) := by
  obtain ⟨f1, f2, _, _⟩ := fr_iff.1 h
  rcases hi.good (i / 64) (by omega) with e | ⟨c', h0, h7, e⟩ | ⟨k, _, _, _, e, _⟩ | ⟨e, _⟩
  · rw [e] at f2; simp at f2
  · rw [e] at f2
    have : c' = c := by simp at f2; exact f2
    exact ⟨c.toNat, by omega, by omega⟩
  · rw [e] at f2; simp at f2
  · rw [e] at f2; simp at f2
/-- the words behind Keep -/
theorem keep_W {n : Nat} {st : Sp} {l : List Int} (hi : Inv n st) {i : Nat} (hn : i < 64 * n) :
    (∀ c, fr n (keepSp n st l) c i = true → (keepSp n st l).W i = linkV (nf n (keepSp n st l) c (i + 1))) ∧
    ((∀ c, fr n (keepSp n st l) c i = false) → (keepSp n st l).W i = if inRm (dropTo n (rawOf n st) (kpS l) (64 * n)) i then st.W i else 0) := by
  obtain ⟨p1, p2, p3⟩ := ln_parts n (kpSp1 n st (kpS l)) 8
  have hf : ∀ d, fr n (keepSp n st l) d = fr n (kpSp1 n st (kpS l)) d := fun d => fr_same (n := n) p1 p2 d
  obtain ⟨h1, h2⟩ := ln_W (n := n) (s1 := kpSp1 n st (kpS l)) 8 i
  refine ⟨fun c hc => ?_, fun hno => ?_⟩
  · obtain ⟨d, d8, rfl⟩ := fr_class (inv_keep hi) hc
    have := h1 d d8 (by rw [← hf]; exact hc)
    unfold nf
    rw [hf]
    exact this
  · refine (h2 fun d hd => by rw [← hf]; exact hno _).trans ?_
    show wpW (dropTo n (rawOf n st) (kpS l) (64 * n)) (64 * n) i = _
    unfold wpW
    have hW : (dropTo n (rawOf n st) (kpS l) (64 * n)).W = (rawOf n st).W := (drop_keeps (n := n) (r := rawOf n st) (kp := kpS l) (told_of st) (64 * n) i).2.2
    rw [hW]
    cases e : inRm (dropTo n (rawOf n st) (kpS l) (64 * n)) i with
    | true => rw [if_neg (by simp), if_pos rfl]; rfl
    | false => rw [if_pos ⟨hn, rfl⟩, if_neg (by simp)]
/-- what stands behind Keep -/
theorem keep_O {n : Nat} {st : Sp} {l : List Int} (a : Nat) : (keepSp n st l).O a = if kpS l a then st.O a else noB := by
  obtain ⟨p1, p2, p3⟩ := ln_parts n (kpSp1 n st (kpS l)) 8
  exact congrFun p2 a
theorem keep_has {n : Nat} {st : Sp} {l : List Int} (a : Nat) : hasB ((keepSp n st l).O a) = (hasB (st.O a) && kpS l a) := by
  rw [keep_O]
  cases kpS l a with
  | true => simp
  | false => simp [has_noB]
/-- a word lies in a kept object's room -/
theorem inRm_keep {n : Nat} {st : Sp} {l : List Int} (hi : Inv n st) (i : Nat) : inRm (dropTo n (rawOf n st) (kpS l) (64 * n)) i = true ↔ ∃ a, hasB ((keepSp n st l).O a) = true ∧ a ≤ i ∧ i < a + roomN (st.O a).2.1 := by
  unfold inRm
  rw [List.any_eq_true]
  have hP : ∀ a, (dropTo n (rawOf n st) (kpS l) (64 * n)).P a = (ob n st a && !(decide (a < 64 * n) && !kpS l a)) := fun a => (drop_keeps (n := n) (r := rawOf n st) (kp := kpS l) (told_of st) (64 * n) a).1
  have hM : ∀ a, (dropTo n (rawOf n st) (kpS l) (64 * n)).P a = true → (dropTo n (rawOf n st) (kpS l) (64 * n)).M (a : Int) = obM st (a : Int) := fun a h => (drop_keeps (n := n) (r := rawOf n st) (kp := kpS l) (told_of st) (64 * n) a).2.1 (.inl h)
  have key : ∀ a, (dropTo n (rawOf n st) (kpS l) (64 * n)).P a = hasB ((keepSp n st l).O a) := fun a => by
    rw [hP, keep_has, ob_has hi]
    cases e : hasB (st.O a) with
    | false => rfl
    | true => rw [show decide (a < 64 * n) = true from by simpa using (hi.objs a e).1]; simp
  have hMM : ∀ a, hasB ((keepSp n st l).O a) = true → (dropTo n (rawOf n st) (kpS l) (64 * n)).M (a : Int) = some (st.O a) := fun a h => by
    rw [hM a (by rw [key]; exact h)]
    rw [keep_has, Bool.and_eq_true] at h
    unfold obM
    rw [show ((a : Int)).toNat = a from by omega, if_pos ⟨by omega, h.1⟩]
  constructor
  · rintro ⟨a, ha, hb⟩
    rw [key, Bool.and_eq_true] at hb
    rw [hMM a hb.1] at hb
    exact ⟨a, hb.1, by simp at ha; omega, by simpa using hb.2⟩
  · rintro ⟨a, ha, h1, h2⟩
    refine ⟨a, by simp; omega, ?_⟩
    rw [key, ha, hMM a ha]
    simpa using h2
theorem rt_keep {n : Nat} {st : Sp} {l : List Int} (hi : Inv n st) (hR : Rt n st) : Rt n (keepSp n st l) := by
  refine ⟨fun c a hf => (keep_W hi (fr_iff.1 hf).1).1 c hf, fun a ha => ?_⟩
  have hi' := inv_keep (l := l) hi
  obtain ⟨o1, o2, _⟩ := hi'.objs a ha
  have hno : ∀ c, fr n (keepSp n st l) c a = false := fun c => by
    cases e : fr n (keepSp n st l) c a with
    | false => rfl
    | true => have := (fr_iff.1 e).2.2.2; rw [ha] at this; cases this
  have ha' := ha
  rw [keep_has, Bool.and_eq_true] at ha'
  have hO : (keepSp n st l).O a = st.O a := by rw [keep_O, ha'.2]; rfl
  rw [(keep_W hi o1).2 hno, hO]
  rw [hO] at o2
  have hw : 1 ≤ roomN (st.O a).2.1 := by
    have hk := fits_size o2
    by_cases h : (st.O a).2.1 ≤ 32
    · rw [room_small h]
      have hc := of_small hk.2.2.1 h
      have := wN_pos hc.1 hc.2.1; omega
    · rw [room_great (by omega)]
      have := run_k (s := (st.O a).2.1) (by omega) hk.2.2.2; omega
  rw [if_pos ((inRm_keep hi a).2 ⟨a, ha, Nat.le_refl _, by omega⟩)]
  exact hR.2 a ha'.1
end Go.Proofs.YtjbbkeoolodeaabDoor
namespace Go.Proofs.YtjbbkeoolodeaabDoor
open Go.RowKit
set_option linter.unusedVariables false
set_option linter.unusedSimpArgs false

/-- the objects, in the order of their taking: place, kind, size, serial, tag -/
def ObL (st : Sp) (l : List (Nat × Blk)) : Prop := (l.map Prod.fst).Nodup ∧ (∀ q ∈ l, st.O q.1 = q.2 ∧ hasB q.2 = true) ∧ ∀ a, hasB (st.O a) = true → a ∈ l.map Prod.fst
theorem obl_new : ObL newSp [] := ⟨List.nodup_nil, by simp, fun a h => by cases h⟩
theorem obl_take {n a : Nat} {st : Sp} {fresh : Bool} {kd z t : Int} {l : List (Nat × Blk)} (h : ObL st l) (hf : fitsB kd z = true) (hno : hasB (st.O a) = false) : ObL (takeF n st a fresh kd z t) (l ++ [(a, (kd, z, serOf st kd, t))]) := by
  obtain ⟨h1, h2, h3⟩ := h
  have hk := fits_size hf
  have hna : a ∉ l.map Prod.fst := fun hm => by
    obtain ⟨q, hq, rfl⟩ := List.mem_map.1 hm
    obtain ⟨e1, e2⟩ := h2 q hq
    rw [e1, e2] at hno; cases hno
  have hb : hasB (kd, z, serOf st kd, t) = true := by unfold hasB; simp; omega
  refine ⟨?_, ?_, ?_⟩
  · rw [List.map_append, List.nodup_append]
    refine ⟨h1, by simp, ?_⟩
    intro x hx y hy
    simp at hy
    subst hy
    exact fun e => hna (e ▸ hx)
  · intro q hq
    rw [List.mem_append] at hq
    rcases hq with hq | hq
    · have : q.1 ≠ a := fun e => hna (e ▸ List.mem_map.2 ⟨q, hq, rfl⟩)
      rw [takeF_O, putO_ne this]
      exact h2 q hq
    · simp at hq
      subst hq
      rw [takeF_O, putO_self]
      exact ⟨rfl, hb⟩
  · intro x hx
    rw [takeF_O, hasB_put] at hx
    rw [List.map_append, List.mem_append]
    by_cases e : x = a
    · right; simp [e]
    · rw [if_neg e] at hx; exact .inl (h3 x hx)
theorem obl_keep {n : Nat} {st : Sp} {l : List (Nat × Blk)} {ps : List Int} (h : ObL st l) : ObL (keepSp n st ps) (l.filter fun q => kpS ps q.1) := by
  obtain ⟨h1, h2, h3⟩ := h
  refine ⟨?_, ?_, ?_⟩
  · exact (List.filter_sublist.map _).nodup h1
  · intro q hq
    rw [List.mem_filter] at hq
    obtain ⟨e1, e2⟩ := h2 q hq.1
    rw [keep_O, hq.2]
    exact ⟨e1, e2⟩
  · intro a ha
    rw [keep_has, Bool.and_eq_true] at ha
    obtain ⟨q, hq, rfl⟩ := List.mem_map.1 (h3 a ha.1)
    exact List.mem_map.2 ⟨q, List.mem_filter.2 ⟨hq, ha.2⟩, rfl⟩
/-- a word of an object is written -/
def wrSp (st : Sp) (i : Nat) (v : Int) : Sp := { st with W := updW st.W i v }
theorem wr_inv {n i : Nat} {st : Sp} {v : Int} (h : Inv n st) : Inv n (wrSp st i v) := ⟨h.n1, h.n2, h.good, h.objs, h.none, h.heads, h.last0, h.ser, h.one⟩
theorem size_room {n : Nat} {st : Sp} (hi : Inv n st) {a : Nat} (ha : hasB (st.O a) = true) : (st.O a).2.1 ≤ (roomN (st.O a).2.1 : Int) ∧ a + roomN (st.O a).2.1 ≤ 64 * n := by
  obtain ⟨h1, h2, h3⟩ := hi.objs a ha
  have hz := fits_size h2
  have hP : (rawOf n st).P a = true := by show ob n st a = true; rw [ob_has hi]; exact ha
  obtain ⟨b, hb⟩ := told_of st a hP
  obtain ⟨rfl, _⟩ := obM_of hb
  refine ⟨?_, (rooms_of hi a _ hP hb).2.2.1⟩
  by_cases h : (st.O a).2.1 ≤ 32
  · rw [room_small h]
    have hc := of_small hz.2.2.1 h
    unfold wN
    have : 0 ≤ wordsV (ofV (st.O a).2.1) := by omega
    omega
  · rw [room_great (by omega)]
    have := run_k (s := (st.O a).2.1) (by omega) hz.2.2.2
    omega
theorem wr_rt {n : Nat} {st : Sp} {v : Int} (hi : Inv n st) (hR : Rt n st) {a : Nat} (ha : hasB (st.O a) = true) {j : Nat} (h1 : 1 ≤ j) (h2 : (j : Int) < (st.O a).2.1) : Rt n (wrSp st (a + j) v) := by
  have hsz := size_room hi ha
  refine ⟨fun c i hf => ?_, fun b hb => ?_⟩
  · have hf' : fr n st c i = true := hf
    have := free_out hi hf' ha
    show updW st.W (a + j) v i = _
    unfold updW
    rw [if_neg (by omega)]
    exact hR.1 c i hf'
  · have hb' : hasB (st.O b) = true := hb
    show updW st.W (a + j) v b = _
    unfold updW
    have hne : b ≠ a + j := by
      by_cases e : b = a
      · omega
      · have := obj_out hi ha hb' e; omega
    rw [if_neg hne]
    exact hR.2 b hb'
/-- how many are freed -/
theorem freed_cnt (r : Raw) (kp : Nat → Bool) : ∀ p, freedTo r kp p = cnt (fun j => r.P j && !kp j) p
  | 0 => rfl
  | p + 1 => by
    have ih := freed_cnt r kp p
    show _ = cnt _ p + (if (r.P p && !kp p) then 1 else 0)
    conv => lhs; unfold freedTo
    rw [← ih]
    split <;> simp_all
theorem cnt_set {P : Nat → Bool} {a : Nat} (ha : P a = false) : ∀ k, a < k → cnt (upd P a true) k = cnt P k + 1
  | 0, h => by omega
  | k + 1, h => by
    by_cases e : a = k
    · subst e
      show cnt (upd P a true) a + (if upd P a true a then 1 else 0) = cnt P a + (if P a then 1 else 0) + 1
      rw [ha, cnt_congr (S := upd P a true) (T := P) (k := a) (fun j hj => by unfold upd; rw [if_neg (by omega)])]
      have : upd P a true a = true := by unfold upd; rw [if_pos rfl]
      rw [this]; simp
    · have ih := cnt_set ha k (by omega)
      show cnt (upd P a true) k + (if upd P a true k then 1 else 0) = cnt P k + (if P k then 1 else 0) + 1
      have : upd P a true k = P k := by unfold upd; rw [if_neg (by omega)]
      rw [this]; omega
theorem cnt_list {m : Nat} : ∀ (l : List Nat), l.Nodup → (∀ a ∈ l, a < m) → cnt (fun j => l.contains j) m = l.length
  | [], _, _ => cnt_zero fun j _ => by simp
  | a :: l, hn, hm => by
    rw [List.nodup_cons] at hn
    have ih := cnt_list l hn.2 fun x hx => hm x (List.mem_cons_of_mem _ hx)
    have hna : (fun j => l.contains j) a = false := by simp [hn.1]
    have : (fun j => (a :: l).contains j) = upd (fun j => l.contains j) a true := by
      funext j
      unfold upd
      by_cases e : j = a
      · simp [e]
      · simp [e]
    rw [this, cnt_set hna m (hm a (by simp)), ih]
    rfl
theorem filter_split {α : Type} (f : α → Bool) : ∀ l : List α, (l.filter f).length + (l.filter fun x => !f x).length = l.length
  | [] => rfl
  | a :: l => by
    have ih := filter_split f l
    cases h : f a with
    | true => simp [List.filter_cons, h]; omega
    | false => simp [List.filter_cons, h]; omega
theorem freed_list {n : Nat} {st : Sp} {l : List (Nat × Blk)} (hi : Inv n st) (h : ObL st l) (ps : List Int) : freedTo (rawOf n st) (kpS ps) (64 * n) = l.length - (l.filter fun q => kpS ps q.1).length := by
  obtain ⟨h1, h2, h3⟩ := h
  have hin : ∀ q ∈ l, hasB (st.O q.1) = true := fun q hq => by rw [(h2 q hq).1]; exact (h2 q hq).2
  have hc : cnt (fun j => (rawOf n st).P j && !kpS ps j) (64 * n) = ((l.filter fun q => !kpS ps q.1).map Prod.fst).length := by
    rw [← cnt_list (m := 64 * n) ((l.filter fun q => !kpS ps q.1).map Prod.fst) ((List.filter_sublist.map _).nodup h1)]
    · refine cnt_congr fun j hj => ?_
      show (ob n st j && !kpS ps j) = _
      rw [ob_has hi, Bool.eq_iff_iff]
      simp only [Bool.and_eq_true, List.contains_iff_mem, List.mem_map, List.mem_filter]
      constructor
      · rintro ⟨e1, e2⟩
        obtain ⟨q, hq, rfl⟩ := List.mem_map.1 (h3 j e1)
        exact ⟨q, ⟨hq, e2⟩, rfl⟩
      · rintro ⟨q, ⟨hq, e2⟩, rfl⟩
        exact ⟨hin q hq, e2⟩
    · intro a ha
      obtain ⟨q, hq, rfl⟩ := List.mem_map.1 ha
      exact (hi.objs q.1 (hin q (List.mem_filter.1 hq).1)).1
  rw [freed_cnt, hc, List.length_map]
  have := filter_split (fun q : Nat × Blk => kpS ps q.1) l
  omega
end Go.Proofs.YtjbbkeoolodeaabDoor
