import Derived.Test.YtcpignkjlnjjmaaDoorNk25
namespace Go.Proofs.YtcpignkjlnjjmaaDoor
open Go.RowKit
set_option linter.unusedVariables false
set_option linter.unusedSimpArgs false

def wSpO (st : Sp) (W : Nat → Int) : Sp := { st with W := W }
theorem wO_inv {n : Nat} {st : Sp} (h : Inv n st) (W : Nat → Int) : Inv n (wSpO st W) := ⟨h.n1, h.n2, h.good, h.objs, h.none, h.heads, h.last0, h.ser, h.one⟩
theorem spPokeO {w : World} {lo hi n cap : Nat} {s : Nat → Nat} {st : Sp} (h : SpAt w lo hi s n cap st) (a v : Int) : Calls Tryd.prog 23 #[.pointer (some ⟨s 14, 0, none⟩), .int .i64 a, .int .i64 v] w fun e w' => e = .returned (.bool (inB (64 * n) a)) ∧ SpAt w' lo hi s n cap (wSpO st (pokeW n st.W a v)) ∧ Out lo hi w w' :=
  (poke_any h.1 a v).mono fun e w' ⟨h1, h2, h3⟩ => ⟨h1, ⟨h2, wO_inv h.2 _⟩, h3⟩
/-- the words of a new object: each field begins with its first word -/
def mkF (n : Nat) (a k z : Int) (W : Nat → Int) : List Nat → Nat → Int
  | [] => W
  | x :: l => mkF n a k z (pokeW n W (a + x) (firstV (roleV k z x))) l
theorem mkF_app (n : Nat) (a k z : Int) (l : List Nat) (x : Nat) : ∀ W, mkF n a k z W (l ++ [x]) = pokeW n (mkF n a k z W l) (a + x) (firstV (roleV k z x)) := by
  induction l with
  | nil => intro W; rfl
  | cons y l ih => intro W; exact ih _
theorem mkF_take {n : Nat} {a k z : Int} {W : Nat → Int} {l : List Nat} {j x : Nat} (h : l[j]? = some x) : mkF n a k z W (l.take (j + 1)) = pokeW n (mkF n a k z W (l.take j)) (a + x) (firstV (roleV k z x)) := by
  rw [List.take_add_one, h]
  exact mkF_app n a k z _ x W
theorem flds_lt {k s : Int} {x : Nat} (h : x ∈ flds_o k s) : x ≤ 1024 := by
  unfold flds_o at h
  by_cases c : fitsB k s = true
  · rw [if_pos c] at h
    unfold fl_o at h
    have := List.mem_range.1 (List.mem_filter.1 h).1
    have := fits_le_o c
    omega
  · rw [if_neg c] at h; exact absurd h (List.not_mem_nil)
theorem flds_len (k s : Int) : (flds_o k s).length ≤ 1024 := by
  unfold flds_o
  by_cases c : fitsB k s = true
  · rw [if_pos c]; have := fl_len_o k s.toNat; have := fits_le_o c; omega
  · rw [if_neg c]; simp
theorem list_open {w : World} {v : Value} {base : Nat} {l : List Nat} (h : ListIs_o w base v l) :
    ∃ p cap, v = .slice p l.length cap ∧ (0 < l.length → ∃ g, p = some ⟨g, 0, none⟩ ∧ base ≤ g ∧ ∀ (i x : Nat), l[i]? = some x → w.cell? ⟨g, i, none⟩ = some (.int .i64 (x : Int))) := by
  obtain ⟨hlen, hcase⟩ := h
  rcases hcase with ⟨hv, h0⟩ | ⟨g, cap', cur, rfl, hg1, hg2, hg3, hg4, hg5, hg6⟩
  · exact ⟨none, 0, by rw [hv, h0], fun h => by omega⟩
  · refine ⟨_, _, rfl, fun _ => ⟨g, rfl, hg1, fun i x hx => ?_⟩⟩
    have hi : i < l.length := (List.getElem?_eq_some_iff.1 hx).1
    have e : (cur.toList.take (l.length * 1))[i]? = (ints_o l)[i]? := by rw [hg6]
    have e2 : l[i] = x := (List.getElem?_eq_some_iff.1 hx).2
    simp [ints_o, hi, e2] at e
    simp [World.cell?, hg2, e]
theorem mIn_o {n : Nat} {st : Sp} (hI : Inv n st) : ∀ a b, (rawOf n st).M a = some b → ∃ j : Nat, a = j ∧ j < 64 * n := by
  intro a b h
  have h' : obM st a = some b := h
  unfold obM at h'
  by_cases e : 0 ≤ a ∧ hasB (st.O a.toNat) = true
  · exact ⟨a.toNat, by omega, (hI.objs _ e.2).1⟩
  · rw [if_neg e] at h'; cases h'
theorem obM_o {n : Nat} {st : Sp} {a : Nat} {b : Blk} (h : (rawOf n st).M (a : Int) = some b) : b = st.O a ∧ hasB (st.O a) = true := by
  have h' : obM st (a : Int) = some b := h
  unfold obM at h'
  rw [show ((a : Int)).toNat = a from by omega] at h'
  by_cases e : (0 : Int) ≤ (a : Int) ∧ hasB (st.O a) = true
  · rw [if_pos e] at h'; cases h'; exact ⟨rfl, e.2⟩
  · rw [if_neg e] at h'; cases h'
theorem arenaO {n : Nat} {st : Sp} (hI : Inv n st) : InArena n (rawOf n st) := by
  intro a b h
  obtain ⟨j, rfl, hj⟩ := mIn_o hI a b h
  obtain ⟨rfl, hh⟩ := obM_o h
  obtain ⟨h1, h2, h3⟩ := hI.objs j hh
  have hz := fits_size h2
  refine ⟨by omega, ?_, hz.2.2.1, hz.2.2.2⟩
  rcases h3 with ⟨s1, s2, s3⟩ | ⟨s1, s2, s3⟩
  · have hc := of_small hz.2.2.1 s1
    unfold startB wN at s3
    rw [Bool.and_eq_true] at s3
    have s5 : j % 64 + (wordsV (ofV (st.O j).2.1)).toNat ≤ 64 := by simpa using s3.2
    omega
  · rcases hI.good (j / 64) (by omega) with e | ⟨c, _, _, e⟩ | ⟨q, q1, q2, q3, e, q4⟩ | ⟨e, _⟩
    · rw [s3] at e; simp at e
    · rw [s3] at e; simp at e
    · rw [s3] at e
      have : ((st.O j).2.1 + 63) / 64 = (q : Int) := by simpa using e
      omega
    · rw [s3] at e; simp at e
theorem refr_at {a : Int} (h : validB_v 2 a = true) (w : World) : Calls Tryd.prog 30 #[.int .i64 a] w fun e w' => e = .returned (.agg #[.int .i64 2, .int .i64 a]) ∧ Out 0 0 w w' := by
  refine (refr_any_v a w).mono ?_
  rintro e w' ⟨rfl, q⟩
  unfold mkK_v mkN_v
  rw [if_pos h, if_pos h]
  exact ⟨rfl, out_below q⟩
section
variable {w : World} {lo hi hb : Nat} {s : Nat → Nat} {n cap : Nat} {st : Sp}
set_option maxRecDepth 100000 in
set_option maxHeartbeats 4000000 in
theorem Make_text (h : SpAt w lo hi s n cap st) (hH : w.cell? ⟨hb, 0, none⟩ = some (.pointer (some ⟨s 14, 0, none⟩))) (hout : hb < lo ∨ hi ≤ hb) (k nn t : Int) (hk : k = 4) : Calls Tryd.prog 10 #[.pointer (some ⟨hb, 0, none⟩), .int .i64 k, .int .i64 nn, .int .i64 t] w fun e w' => e = .returned (.tuple #[.agg #[.int .i64 0, .int .i64 0], .agg #[.int .i64 24, .int .i64 0]]) ∧ Out 0 0 w w' := by
  subst hk
  have hmf : ∀ (fn : Fn) (first cap : Array Value) (w : World), (Instr.makeFunc fn first cap).run Tryd.prog w = .ok (.func fn first cap) w := fun _ _ _ _ => rfl
  have Hh := hid_mk h
  have fR := hid_mk (two_first (w := w) (o := .cells #[.int .i64 0, .int .i64 0] 31) (o2 := .cells #[.int .i64 0, .int .i64 0] 34))
  have fF := hid_mk (two_second (w := w) (o := .cells #[.int .i64 0, .int .i64 0] 31) (o2 := .cells #[.int .i64 0, .int .i64 0] 34))
  have HO := hid_mk (((Out.refl 0 0 w).alloc (.cells #[.int .i64 0, .int .i64 0] 31)).alloc (.cells #[.int .i64 0, .int .i64 0] 34))
  obtain ⟨gv, hgv⟩ : ∃ g, w.heap.size = g := ⟨_, rfl⟩
  have Hgv := hid_mk hgv
  obtain ⟨V1, hV1⟩ : ∃ V, (w.alloc (.cells #[.int .i64 0, .int .i64 0] 31)).alloc (.cells #[.int .i64 0, .int .i64 0] 34) = V := ⟨_, rfl⟩
  rw [hV1, hgv] at fR fF
  rw [hV1] at HO
  have hH1 := HO.out.cell hH (.inr (Nat.zero_le _))
  have HH1 := hid_mk hH1
  have Hout := hid_mk hout
  clear h hH hout
  go_enter_defers Tryd.func10, Tryd.ntmps10
  go_wp2_with fail
  (try rw [hV1])
  (try rw [hgv])
  clear hV1 hgv
  refine (oself_any _ _).mono ?_
  rintro e w5 ⟨rfl, he⟩
  rw [he]
  clear he w5
  go_wp2_with fail
  refine (want_no _ _).mono ?_
  rintro e w6 ⟨rfl, he⟩
  rw [he]
  clear he w6
  simp
  refine leaves_cons (f := 25) (args := #[.pointer (some ⟨gv + 1, 0, none⟩)]) (by simp) (by simp [go_sem]) ?_
  refine (catchMake_stop ((Out.refl 0 0 V1).heap fF.out (.inr (Nat.zero_le _)))).mono ?_
  rintro e u' w9 ⟨rfl, rfl, f9, q9⟩
  exact leaves_ret (results_two Tryd.results10 rfl rfl (load_val (q9.heap ((Out.refl 0 0 V1).heap fR.out (.inr (Nat.zero_le _))) (.inl (Nat.lt_succ_self _)))) (load_flt f9)) ⟨rfl, HO.out.trans' q9 (by have := Hgv.out; omega)⟩
set_option maxRecDepth 100000 in
set_option maxHeartbeats 4000000 in
theorem Make_size (h : SpAt w lo hi s n cap st) (hH : w.cell? ⟨hb, 0, none⟩ = some (.pointer (some ⟨s 14, 0, none⟩))) (hout : hb < lo ∨ hi ≤ hb) (k nn t : Int) (hk : k ≠ 4) (hz : sizeB k nn = false) : Calls Tryd.prog 10 #[.pointer (some ⟨hb, 0, none⟩), .int .i64 k, .int .i64 nn, .int .i64 t] w fun e w' => e = .returned (.tuple #[.agg #[.int .i64 0, .int .i64 0], .agg #[.int .i64 24, .int .i64 0]]) ∧ Out 0 0 w w' := by
  have k4 : (k != 4) = true := by simpa using hk
  clear hk
  have hmf : ∀ (fn : Fn) (first cap : Array Value) (w : World), (Instr.makeFunc fn first cap).run Tryd.prog w = .ok (.func fn first cap) w := fun _ _ _ _ => rfl
  have Hh := hid_mk h
  have fR := hid_mk (two_first (w := w) (o := .cells #[.int .i64 0, .int .i64 0] 31) (o2 := .cells #[.int .i64 0, .int .i64 0] 34))
  have fF := hid_mk (two_second (w := w) (o := .cells #[.int .i64 0, .int .i64 0] 31) (o2 := .cells #[.int .i64 0, .int .i64 0] 34))
  have HO := hid_mk (((Out.refl 0 0 w).alloc (.cells #[.int .i64 0, .int .i64 0] 31)).alloc (.cells #[.int .i64 0, .int .i64 0] 34))
  obtain ⟨gv, hgv⟩ : ∃ g, w.heap.size = g := ⟨_, rfl⟩
  have Hgv := hid_mk hgv
  obtain ⟨V1, hV1⟩ : ∃ V, (w.alloc (.cells #[.int .i64 0, .int .i64 0] 31)).alloc (.cells #[.int .i64 0, .int .i64 0] 34) = V := ⟨_, rfl⟩
  rw [hV1, hgv] at fR fF
  rw [hV1] at HO
  have hH1 := HO.out.cell hH (.inr (Nat.zero_le _))
  have HH1 := hid_mk hH1
  have Hout := hid_mk hout
  clear h hH hout
  have HTk := hid_mk (take_size (Hh.out.quiet HO.out) hH1 Hout.out k nn t hz)
  clear hz
  go_enter_defers Tryd.func10, Tryd.ntmps10
  go_wp2_with fail
  (try rw [hV1])
  (try rw [hgv])
  clear hV1 hgv
  refine (oself_any _ _).mono ?_
  rintro e w5 ⟨rfl, he⟩
  rw [he]
  clear he w5
  go_wp2_with fail
  refine (want_yes _ _).mono ?_
  rintro e w6 ⟨rfl, he⟩
  rw [he]
  clear he w6
  go_wp2_with fail
  refine HTk.out.mono ?_
  rintro e X3 ⟨rfl, q3⟩
  simp
  refine leaves_cons (f := 25) (args := #[.pointer (some ⟨gv + 1, 0, none⟩)]) (by simp) (by simp [go_sem]) ?_
  refine (catchMake_stop (q3.heap fF.out (.inr (Nat.zero_le _)))).mono ?_
  rintro e u' w9 ⟨rfl, rfl, f9, q9⟩
  exact leaves_ret (results_two Tryd.results10 rfl rfl (load_val (q9.heap (q3.heap fR.out (.inr (Nat.zero_le _))) (.inl (Nat.lt_succ_self _)))) (load_flt f9)) ⟨rfl, (HO.out.trans q3).trans' q9 (by have := Hgv.out; omega)⟩
set_option maxRecDepth 100000 in
set_option maxHeartbeats 4000000 in
theorem Make_full (h : SpAt w lo hi s n cap st) (hH : w.cell? ⟨hb, 0, none⟩ = some (.pointer (some ⟨s 14, 0, none⟩))) (hout : hb < lo ∨ hi ≤ hb) (k nn t : Int) (hk : k ≠ 4) {z a ec fa : Int} (hz : sizeB k nn = true) (hzv : sizeV k nn = z) (z1 : -9223372036854775808 ≤ z) (z2 : z ≤ 9223372036854775807) (hl : st.last < 4611686018427387904) (ha : (alF n st k z t).1 = a) (he : (alF n st k z t).2.1 = ec) (hf : (alF n st k z t).2.2.1 = fa) (hne : ec ≠ 0) : Calls Tryd.prog 10 #[.pointer (some ⟨hb, 0, none⟩), .int .i64 k, .int .i64 nn, .int .i64 t] w fun e w' => e = .returned (.tuple #[.agg #[.int .i64 0, .int .i64 0], .agg #[.int .i64 ec, .int .i64 fa]]) ∧ SpAt w' lo hi s n cap (alF n st k z t).2.2.2 ∧ Out lo hi w w' := by
  have k4 : (k != 4) = true := by simpa using hk
  clear hk
  have hmf : ∀ (fn : Fn) (first cap : Array Value) (w : World), (Instr.makeFunc fn first cap).run Tryd.prog w = .ok (.func fn first cap) w := fun _ _ _ _ => rfl
  have Hh := hid_mk h
  have fR := hid_mk (two_first (w := w) (o := .cells #[.int .i64 0, .int .i64 0] 31) (o2 := .cells #[.int .i64 0, .int .i64 0] 34))
  have fF := hid_mk (two_second (w := w) (o := .cells #[.int .i64 0, .int .i64 0] 31) (o2 := .cells #[.int .i64 0, .int .i64 0] 34))
  have HO := hid_mk (((Out.refl 0 0 w).alloc (.cells #[.int .i64 0, .int .i64 0] 31)).alloc (.cells #[.int .i64 0, .int .i64 0] 34))
  obtain ⟨gv, hgv⟩ : ∃ g, w.heap.size = g := ⟨_, rfl⟩
  have Hgv := hid_mk hgv
  obtain ⟨V1, hV1⟩ : ∃ V, (w.alloc (.cells #[.int .i64 0, .int .i64 0] 31)).alloc (.cells #[.int .i64 0, .int .i64 0] 34) = V := ⟨_, rfl⟩
  rw [hV1, hgv] at fR fF
  rw [hV1] at HO
  have hH1 := HO.out.cell hH (.inr (Nat.zero_le _))
  have HH1 := hid_mk hH1
  have Hout := hid_mk hout
  clear h hH hout
  have HTk := hid_mk (take_full (Hh.out.quiet HO.out) hH1 Hout.out k nn t hz hzv z1 z2 hl ha he hf hne)
  have HG := hid_mk Hh.out.1.glob
  clear hz hzv z1 z2 hl ha he hf hne
  go_enter_defers Tryd.func10, Tryd.ntmps10
  go_wp2_with fail
  (try rw [hV1])
  (try rw [hgv])
  clear hV1 hgv
  refine (oself_any _ _).mono ?_
  rintro e w5 ⟨rfl, he⟩
  rw [he]
  clear he w5
  go_wp2_with fail
  refine (want_yes _ _).mono ?_
  rintro e w6 ⟨rfl, he⟩
  rw [he]
  clear he w6
  go_wp2_with fail
  refine HTk.out.mono ?_
  rintro e X3 ⟨rfl, S3, q3⟩
  have hd : hi ≤ gv + 1 := by have h1 := Hh.out.1.top; have h2 := Hgv.out; omega
  have hn : 4 ≤ gv + 1 := by have h3 := Hh.out.1.glob; have h4 := Hh.out.1.inn 0 (by omega); omega
  simp
  refine leaves_cons (f := 25) (args := #[.pointer (some ⟨gv + 1, 0, none⟩)]) (by simp) (by simp [go_sem]) ?_
  refine (catchMake_stop (q3.heap fF.out (.inr (by have h1 := Hh.out.1.top; have h2 := Hgv.out; omega)))).mono ?_
  rintro e u' w9 ⟨rfl, rfl, f9, q9⟩
  exact leaves_ret (results_two Tryd.results10 rfl rfl (load_val (q9.heap (q3.heap fR.out (.inr (by have h1 := Hh.out.1.top; have h2 := Hgv.out; omega))) (.inl (Nat.lt_succ_self _)))) (load_flt f9)) ⟨rfl, S3.kept q9 (.inl hd) (.inl hn), ((HO.out.any lo hi).trans q3).then q9 (by have := Hgv.out; omega)⟩
set_option maxRecDepth 100000 in
set_option maxHeartbeats 4000000 in
theorem Make_ok (h : SpAt w lo hi s n cap st) (hH : w.cell? ⟨hb, 0, none⟩ = some (.pointer (some ⟨s 14, 0, none⟩))) (hout : hb < lo ∨ hi ≤ hb) (k nn t : Int) (hk : k ≠ 4) {z a fa : Int} (hz : sizeB k nn = true) (hzv : sizeV k nn = z) (z1 : -9223372036854775808 ≤ z) (z2 : z ≤ 9223372036854775807) (hl : st.last < 4611686018427387904) (ha : (alF n st k z t).1 = a) (he : (alF n st k z t).2.1 = 0) (hf : (alF n st k z t).2.2.1 = fa) {b1 b2 b3 b4 : Int} (hM : (rawOf n (alF n st k z t).2.2.2).M a = some (b1, b2, b3, b4)) : Calls Tryd.prog 10 #[.pointer (some ⟨hb, 0, none⟩), .int .i64 k, .int .i64 nn, .int .i64 t] w fun e w' => e = .returned (.tuple #[.agg #[.int .i64 2, .int .i64 a], .agg #[.int .i64 0, .int .i64 0]]) ∧ SpAt w' lo hi s n cap (wSpO (alF n st k z t).2.2.2 (mkF n a b1 b2 (alF n st k z t).2.2.2.W (flds_o b1 b2))) ∧ Out lo hi w w' := by
  have k4 : (k != 4) = true := by simpa using hk
  clear hk
  have hmf : ∀ (fn : Fn) (first cap : Array Value) (w : World), (Instr.makeFunc fn first cap).run Tryd.prog w = .ok (.func fn first cap) w := fun _ _ _ _ => rfl
  have Hh := hid_mk h
  have fR := hid_mk (two_first (w := w) (o := .cells #[.int .i64 0, .int .i64 0] 31) (o2 := .cells #[.int .i64 0, .int .i64 0] 34))
  have fF := hid_mk (two_second (w := w) (o := .cells #[.int .i64 0, .int .i64 0] 31) (o2 := .cells #[.int .i64 0, .int .i64 0] 34))
  have HO := hid_mk (((Out.refl 0 0 w).alloc (.cells #[.int .i64 0, .int .i64 0] 31)).alloc (.cells #[.int .i64 0, .int .i64 0] 34))
  obtain ⟨gv, hgv⟩ : ∃ g, w.heap.size = g := ⟨_, rfl⟩
  have Hgv := hid_mk hgv
  obtain ⟨V1, hV1⟩ : ∃ V, (w.alloc (.cells #[.int .i64 0, .int .i64 0] 31)).alloc (.cells #[.int .i64 0, .int .i64 0] 34) = V := ⟨_, rfl⟩
  rw [hV1, hgv] at fR fF
  rw [hV1] at HO
  have hH1 := HO.out.cell hH (.inr (Nat.zero_le _))
  have HH1 := hid_mk hH1
  have Hout := hid_mk hout
  clear h hH hout
  have HTk := hid_mk (take_ok (Hh.out.quiet HO.out) hH1 Hout.out k nn t hz hzv z1 z2 hl ha he hf hM)
  have Ha : Hid (∀ V, SpAt V lo hi s n cap (alF n st k z t).2.2.2 → 0 ≤ a ∧ a + b2 ≤ 64 * n ∧ 1 ≤ b2 ∧ b2 ≤ 1024 ∧ n ≤ 4096) := fun V hV => by
    have q := arenaO hV.2 a _ hM
    exact ⟨q.1, q.2.1, q.2.2.1, q.2.2.2, hV.1.n2⟩
  generalize (alF n st k z t).2.2.2 = S2 at *
  clear hz hzv z1 z2 hl ha he hf hM hH1
  go_enter_defers Tryd.func10, Tryd.ntmps10
  go_wp2_with fail
  (try rw [hV1])
  (try rw [hgv])
  clear hV1 hgv
  refine (oself_any _ _).mono ?_
  rintro e w5 ⟨rfl, he⟩
  rw [he]
  clear he w5
  go_wp2_with fail
  refine (want_yes _ _).mono ?_
  rintro e w6 ⟨rfl, he⟩
  rw [he]
  clear he w6
  go_wp2_with fail
  refine HTk.out.mono ?_
  rintro e X3 ⟨rfl, S3, q3⟩
  replace Ha := hid_mk (Ha.out X3 S3)
  obtain ⟨gb, hgb⟩ : ∃ g, X3.heap.size = g := ⟨_, rfl⟩
  obtain ⟨V4, hV4⟩ : ∃ V, X3.alloc (.cells #[.int .i64 a, .int .i64 b1, .int .i64 b2, .int .i64 b3, .int .i64 b4] 49) = V := ⟨_, rfl⟩
  have o4 : Out 0 0 X3 V4 := by rw [← hV4]; exact (Out.refl 0 0 _).alloc _
  have f4 : V4.heap[gb]? = some (.cells #[.int .i64 a, .int .i64 b1, .int .i64 b2, .int .i64 b3, .int .i64 b4] 49 (0, 0)) := by rw [← hV4, ← hgb]; exact heap_alloc_new _ _
  have Hgb : Hid (hi ≤ gb) := by have h1 := S3.1.top; rw [← hgb]; exact h1
  have HB4 := hid_mk f4
  have HS4 := hid_mk (S3.quiet o4)
  have HQ4 := hid_mk (((HO.out.any lo hi).trans q3).trans (o4.any lo hi))
  have HQ1 := hid_mk (q3.trans (o4.any lo hi))
  obtain ⟨y0, y1, y2, y3, y4, y5⟩ := blk5 f4
  clear S3 q3 o4 f4
  go_wp2_with fail
  (try rw [hV4])
  (try rw [hgb])
  clear hV4 hgb
  refine (fields_any_o b1 b2 HS4.out.1.tab (by have := Ha.out; omega) (by have := Ha.out; omega)).mono ?_
  rintro e X5 ⟨vl, rfl, L5, q5⟩
  obtain ⟨lp, lc, rfl, hlp⟩ := list_open L5
  have Hlp := hid_mk hlp
  have HL := hid_mk (flds_len b1 b2)
  have HS5 := hid_mk (HS4.out.quiet q5)
  have HQ5 := hid_mk (HQ4.out.trans (q5.any lo hi))
  have HQ15 := hid_mk (HQ1.out.trans (q5.any lo hi))
  have HB5 := hid_mk (q5.heap HB4.out (.inr (Nat.zero_le _)))
  have HV4 : Hid (hi ≤ V4.heap.size) := HS4.out.1.top
  obtain ⟨L, hL⟩ : ∃ L, (flds_o b1 b2).length = L := ⟨_, rfl⟩
  rw [hL]
  rw [hL] at Hlp HL
  have HLe := hid_mk hL
  have hLi : (L : Int) ≤ 1024 := by have := HL.out; omega
  clear hL hlp L5 q5 y0 y1 y2 y3 y4 y5
  go_wp2_with fail
  go_loopw [30] (fun y wr => ∃ j : Nat, j ≤ L ∧ y = .int .i64 (j : Int) ∧ SpAt wr lo hi s n cap (wSpO S2 (mkF n a b1 b2 S2.W ((flds_o b1 b2).take j))) ∧ Out lo hi X5 wr) (fun y _ => L - (intOf y).toNat)
  case atStart => exact ⟨0, Nat.zero_le _, rfl, HS5.out, Out.refl _ _ _⟩
  case round =>
    obtain ⟨j, j1, rfl, hS, hO⟩ := hrel
    have Hrel := hid_mk (And.intro hS hO)
    obtain ⟨y0, y1, y2, y3, y4, y5⟩ := blk5 (hO.heap HB5.out (.inr Hgb.out))
    clear hS hO
    by_cases hj : j < L
    · have b1' : (j : Int) < (L : Int) := by omega
      have b0 : (0 : Int) ≤ (j : Int) := by omega
      obtain ⟨x, hx⟩ : ∃ x, (flds_o b1 b2)[j]? = some x := ⟨_, List.getElem?_eq_getElem (by have := HLe.out; omega)⟩
      have Hx := hid_mk hx
      obtain ⟨g, rfl, hg1, hg2⟩ := Hlp.out (by omega)
      have d0 := Hrel.out.2.cell (hg2 j x hx) (.inr (by have h1 := HV4.out; omega))
      have hxx : x ≤ 1024 := flds_lt (List.mem_of_getElem? hx)
      have hwr : IntKind.i64.wrap (a + (x : Int)) = a + x := by have h2 := Ha.out; rw [IntKind.wrap_i64]; omega
      have y6 := (HQ15.out.trans Hrel.out.2).cell HH1.out Hout.out
      clear hx hg1 hg2 hxx y3 y4 y5
      go_wp2_with fail
      clear d0
      refine wp_region_held_drew (S := fun w' => w'.cell? ⟨hb, 0, none⟩ = some (.pointer (some ⟨s 14, 0, none⟩)) ∧ w'.cell? ⟨gb, 0, none⟩ = some (.int .i64 a) ∧ w'.cell? ⟨gb, 1, none⟩ = some (.int .i64 b1) ∧ w'.cell? ⟨gb, 2, none⟩ = some (.int .i64 b2)) (by kernel_rfl) ?hS197 (fun hHeld => ?rest197)
      case hS197 => exact ⟨y6, y0, y1, y2⟩
      obtain ⟨Z0, hZ⟩ : ∃ Z, wr.drew = Z := ⟨_, rfl⟩
      have O : Out 0 0 wr Z0 := by rw [← hZ]; exact (Out.refl 0 0 _).drew
      rw [hZ] at hHeld ⊢
      clear hZ
      refine wpAnyH_take (i := 0) (v := ?v198) rfl (by kernel_rfl) (by kernel_rfl) (by kernel_rfl) (fun _ _ _ h => leaves_tmps (results_put2 Tryd.results10 (by decide) (by decide) _ _) _ _ _ h) (Or.inl ⟨by rfl, ?hy198⟩) (by assumption) ?rest198
      case hy198 => (intro w hSw; (try dsimp only at hSw); simp only [xa, xb, xc]; go_simp; (try with_reducible rfl))
      (try simp only [Act.put, xa, xb, xc, xd, xe, xf])
      refine wpAnyH_take (i := 1) (v := ?v199) rfl (by kernel_rfl) (by kernel_rfl) (by kernel_rfl) (fun _ _ _ h => leaves_tmps (results_put2 Tryd.results10 (by decide) (by decide) _ _) _ _ _ h) (Or.inl ⟨by rfl, ?hy199⟩) (by assumption) ?rest199
      case hy199 => (intro w hSw; (try dsimp only at hSw); simp only [xa, xb, xc]; go_simp; (try with_reducible rfl))
      (try simp only [Act.put, xa, xb, xc, xd, xe, xf])
      refine wpAnyH_take (i := 2) (v := ?v200) rfl (by kernel_rfl) (by kernel_rfl) (by kernel_rfl) (fun _ _ _ h => leaves_tmps (results_put2 Tryd.results10 (by decide) (by decide) _ _) _ _ _ h) (Or.inl ⟨by rfl, ?hy200⟩) (by assumption) ?rest200
      case hy200 => (intro w hSw; (try dsimp only at hSw); simp only [xa, xb, xc]; go_simp; (try with_reducible rfl))
      (try simp only [Act.put, xa, xb, xc, xd, xe, xf])
      refine wpAnyH_take (i := 3) (v := ?v201) rfl (by kernel_rfl) (by kernel_rfl) (by kernel_rfl) (fun _ _ _ h => leaves_tmps (results_put2 Tryd.results10 (by decide) (by decide) _ _) _ _ _ h) (Or.inl ⟨by rfl, ?hy201⟩) (by assumption) ?rest201
      case hy201 => (intro w hSw; (try dsimp only at hSw); simp only [xa, xb, xc]; go_simp; (try with_reducible rfl))
      (try simp only [Act.put, xa, xb, xc, xd, xe, xf])
      refine wpAnyH_take (i := 4) (v := ?v202) rfl (by kernel_rfl) (by kernel_rfl) (by kernel_rfl) (fun _ _ _ h => leaves_tmps (results_put2 Tryd.results10 (by decide) (by decide) _ _) _ _ _ h) (Or.inl ⟨by rfl, ?hy202⟩) (by assumption) ?rest202
      case hy202 => (intro w hSw; (try dsimp only at hSw); simp only [xa, xb, xc]; go_simp; (try with_reducible rfl))
      (try simp only [Act.put, xa, xb, xc, xd, xe, xf])
      refine wpAnyH_take (i := 5) (v := ?v203) rfl (by kernel_rfl) (by kernel_rfl) (by kernel_rfl) (fun _ _ _ h => leaves_tmps (results_put2 Tryd.results10 (by decide) (by decide) _ _) _ _ _ h) (Or.inl ⟨by rfl, ?hy203⟩) (by assumption) ?rest203
      case hy203 => (intro w hSw; (try dsimp only at hSw); simp only [xa, xb, xc]; go_simp; (try with_reducible rfl))
      (try simp only [Act.put, xa, xb, xc, xd, xe, xf])
      refine wpAnyH_take (i := 6) (v := ?v204) rfl (by kernel_rfl) (by kernel_rfl) (by kernel_rfl) (fun _ _ _ h => leaves_tmps (results_put2 Tryd.results10 (by decide) (by decide) _ _) _ _ _ h) (Or.inl ⟨by rfl, ?hy204⟩) (by assumption) ?rest204
      case hy204 => (intro w hSw; (try dsimp only at hSw); simp only [xa, xb, xc]; go_simp; (try with_reducible rfl))
      (try simp only [Act.put, xa, xb, xc, xd, xe, xf])
      refine wpAnyH_take (i := 7) (v := ?v205) rfl (by kernel_rfl) (by kernel_rfl) (by kernel_rfl) (fun _ _ _ h => leaves_tmps (results_put2 Tryd.results10 (by decide) (by decide) _ _) _ _ _ h) (Or.inl ⟨by rfl, ?hy205⟩) (by assumption) ?rest205
      case hy205 => (intro w hSw; (try dsimp only at hSw); simp only [xa, xb, xc]; go_simp; (try with_reducible rfl))
      (try simp only [Act.put, xa, xb, xc, xd, xe, xf])
      refine wpAnyH_take (i := 8) (v := ?v206) rfl (by kernel_rfl) (by kernel_rfl) (by kernel_rfl) (fun _ _ _ h => leaves_tmps (results_put2 Tryd.results10 (by decide) (by decide) _ _) _ _ _ h) (Or.inl ⟨by rfl, ?hy206⟩) (by assumption) ?rest206
      case hy206 => (intro w hSw; (try dsimp only at hSw); simp only [xa, xb, xc]; go_simp; (try with_reducible rfl))
      (try simp only [Act.put, xa, xb, xc, xd, xe, xf])
      refine wpAnyH_take (i := 9) (v := ?v207) rfl (by kernel_rfl) (by kernel_rfl) (by kernel_rfl) (fun _ _ _ h => leaves_tmps (results_put2 Tryd.results10 (by decide) (by decide) _ _) _ _ _ h) (Or.inl ⟨by rfl, ?hy207⟩) (by assumption) ?rest207
      case hy207 => (intro w hSw; (try dsimp only at hSw); simp only [xa, xb, xc]; go_simp; (try with_reducible rfl))
      (try simp only [Act.put, xa, xb, xc, xd, xe, xf])
      refine wpAnyH_take (i := 10) (v := ?v208) rfl (by kernel_rfl) (by kernel_rfl) (by kernel_rfl) (fun _ _ _ h => leaves_tmps (results_put2 Tryd.results10 (by decide) (by decide) _ _) _ _ _ h) (Or.inl ⟨by rfl, ?hy208⟩) (by assumption) ?rest208
      case hy208 => (intro w hSw; (try dsimp only at hSw); simp only [xa, xb, xc]; go_simp; (try with_reducible rfl))
      (try simp only [Act.put, xa, xb, xc, xd, xe, xf])
      refine wpAnyH_take (i := 11) (v := ?v209) rfl (by kernel_rfl) (by kernel_rfl) (by kernel_rfl) (fun _ _ _ h => leaves_tmps (results_put2 Tryd.results10 (by decide) (by decide) _ _) _ _ _ h) (Or.inl ⟨by rfl, ?hy209⟩) (by assumption) ?rest209
      case hy209 => (intro w hSw; (try dsimp only at hSw); simp only [xa, xb, xc]; go_simp; (try with_reducible rfl))
      (try simp only [Act.put, xa, xb, xc, xd, xe, xf])
      refine wpAnyH_take (i := 12) (v := ?v210) rfl (by kernel_rfl) (by kernel_rfl) (by kernel_rfl) (fun _ _ _ h => leaves_tmps (results_put2 Tryd.results10 (by decide) (by decide) _ _) _ _ _ h) (Or.inl ⟨by rfl, ?hy210⟩) (by assumption) ?rest210
      case hy210 => (intro w hSw; (try dsimp only at hSw); simp only [xa, xb, xc]; go_simp; (try with_reducible rfl))
      (try simp only [Act.put, xa, xb, xc, xd, xe, xf])
      refine wpAnyH_ready (rs := [13]) (by kernel_rfl) (by simp) ?_
      refine AllReadyH.cons rfl (fun KK hK => ?_) AllReadyH.nil
      simp only [xa, xb, xc]
      go_simp
      refine (roles_any b1 b2 x ((Hrel.out.1.quiet O).1.tab) (by have := Ha.out; omega) (by have := Ha.out; omega)).mono ?_
      rintro e w6 ⟨rfl, he⟩
      rw [he]
      clear he w6
      refine hK.out _ _ ?hS211 (fun hHeld2 => ?rest211)
      case hS211 => exact hHeld
      clear hK KK
      (try clear hHeld)
      have hHeld := hHeld2
      clear hHeld2
      (try simp only [Act.put, xa, xb, xc, xd, xe, xf])
      refine wpAnyH_ready (rs := [14]) (by kernel_rfl) (by simp) ?_
      refine AllReadyH.cons rfl (fun KK hK => ?_) AllReadyH.nil
      simp only [xa, xb, xc]
      go_simp
      refine (first_any _ _).mono ?_
      rintro e X7 ⟨rfl, q7⟩
      replace O := O.trans q7
      refine hK.out _ _ ?hS212 (fun hHeld2 => ?rest212)
      case hS212 => exact ⟨q7.cell hHeld.1 (.inr (Nat.zero_le _)), q7.cell hHeld.2.1 (.inr (Nat.zero_le _)), q7.cell hHeld.2.2.1 (.inr (Nat.zero_le _)), q7.cell hHeld.2.2.2 (.inr (Nat.zero_le _))⟩
      clear q7
      clear hK KK
      (try clear hHeld)
      have hHeld := hHeld2
      clear hHeld2
      (try simp only [Act.put, xa, xb, xc, xd, xe, xf])
      refine wpAnyH_ready (rs := [15]) (by kernel_rfl) (by simp) ?_
      refine AllReadyH.cons rfl (fun KK hK => ?_) AllReadyH.nil
      simp only [xa, xb, xc]
      go_simp
      refine (spPokeO (Hrel.out.1.quiet O) (a + x) (firstV (roleV b1 b2 x))).mono ?_
      rintro e X9 ⟨rfl, P9, q9⟩
      refine hK.out _ _ ?hS213 (fun hHeld2 => ?rest213)
      case hS213 => exact ⟨q9.cell hHeld.1 Hout.out, q9.cell hHeld.2.1 (.inr Hgb.out), q9.cell hHeld.2.2.1 (.inr Hgb.out), q9.cell hHeld.2.2.2 (.inr Hgb.out)⟩
      clear hK KK
      (try clear hHeld)
      have hHeld := hHeld2
      clear hHeld2
      (try simp only [Act.put, xa, xb, xc, xd, xe, xf])
      refine wpAnyH_done (by kernel_rfl) ?_ _
      have HP9 : Hid (SpAt X9 lo hi s n cap (wSpO S2 (mkF n a b1 b2 S2.W ((flds_o b1 b2).take (j + 1))))) := by
        rw [mkF_take Hx.out]
        exact P9
      have HQ9 := hid_mk ((Hrel.out.2.trans (O.any lo hi)).trans q9)
      clear hHeld P9 q9 O y0 y1 y2 y6
      go_wp2_with fail
      go_roundw
      case rel => exact ⟨j + 1, by omega, by go_num, HP9.out, HQ9.out⟩
      case measure => simp [intOf]; omega
    · have b1' : ¬ (j : Int) < (L : Int) := by omega
      have ej : j = L := by omega
      subst ej
      have HE := hid_mk Hrel.out.1
      rw [show (flds_o b1 b2).take j = flds_o b1 b2 from List.take_of_length_le (by have := HLe.out; omega)] at HE
      have HVa : Hid (validB_v 2 a = true) := by
        have h1 := Ha.out
        unfold validB_v
        rw [decide_eq_true_eq]
        exact .inr (.inl ⟨rfl, by omega, by omega⟩)
      go_wp2_with fail
      refine (refr_at HVa.out _).mono ?_
      rintro e X8 ⟨rfl, q8⟩
      have HQ8 := hid_mk ((HQ15.out.trans Hrel.out.2).trans (q8.any lo hi))
      have HR8 := hid_mk (HQ8.out.heap fR.out (.inr (by have h1 := Hh.out.1.top; have h2 := Hgv.out; omega)))
      have HF8 := hid_mk (HQ8.out.heap fF.out (.inr (by have h1 := Hh.out.1.top; have h2 := Hgv.out; omega)))
      have HS8 := hid_mk (HE.out.quiet q8)
      obtain ⟨a0, a1, a2, a3⟩ := val_facts HR8.out
      obtain ⟨c0, c1, c2, c3⟩ := flt_facts HF8.out
      have e1 := val_set (x1 := 2) (x2 := a) HR8.out
      have o1 := (Out.refl gv (gv + 1) X8).set2 (b := gv) (o := 0) (o' := 1) (.inl ⟨Nat.le_refl _, Nat.lt_succ_self _⟩) (.int .i64 2) (.int .i64 a)
      have f1 := o1.heap HF8.out (.inr (Nat.le_refl _))
      have f2 := flt_set (x' := 0) (y' := 0) f1
      have o2 := (Out.refl (gv + 1) (gv + 2) ((X8.setCell ⟨gv, 0, none⟩ (.int .i64 2)).setCell ⟨gv, 1, none⟩ (.int .i64 a))).set2 (b := gv + 1) (o := 0) (o' := 1) (.inl ⟨Nat.le_refl _, Nat.lt_succ_self _⟩) (.int .i64 0) (.int .i64 0)
      have e2 := o2.heap e1 (.inl (Nat.lt_succ_self _))
      have hd : hi ≤ gv := by have h1 := Hh.out.1.top; have h2 := Hgv.out; omega
      have hn : 4 ≤ gv := by have h3 := Hh.out.1.glob; have h4 := Hh.out.1.inn 0 (by omega); omega
      have P9 := (HS8.out.kept o1 (.inl hd) (.inl hn)).kept o2 (.inl (by omega)) (.inl (by omega))
      have Q9 := (((HO.out.any lo hi).trans HQ8.out).then o1 (by have := Hgv.out; omega)).then o2 (by have := Hgv.out; omega)
      have HL9 := hid_mk (And.intro e2 (And.intro f2 (And.intro P9 Q9)))
      clear q8 e1 o1 f1 f2 o2 e2 P9 Q9 y0 y1 y2 y3 y4 y5
      go_wp2
      refine leaves_cons (f := 25) (args := #[.pointer (some ⟨gv + 1, 0, none⟩)]) (by simp) (by simp [go_sem]) ?_
      refine (catchMake_idle HL9.out.2.1).mono ?_
      rintro e u' w9 ⟨rfl, rfl, f9, q9⟩
      exact leaves_ret (results_two Tryd.results10 rfl rfl (load_val (q9.heap HL9.out.1 (.inl (Nat.lt_succ_self _)))) (load_flt f9)) ⟨rfl, HL9.out.2.2.1.kept q9 (.inl (by omega)) (.inl (by omega)), HL9.out.2.2.2.then q9 (by have := Hgv.out; omega)⟩
end
end Go.Proofs.YtcpignkjlnjjmaaDoor
