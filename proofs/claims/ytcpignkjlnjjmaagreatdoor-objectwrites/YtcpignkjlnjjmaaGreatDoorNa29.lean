import Derived.Test.YtcpignkjlnjjmaaGreatDoorNa28
import Derived.ArgAppend
namespace Go.Proofs.YtcpignkjlnjjmaaGreatDoor
open Go.RowKit
set_option linter.unusedVariables false
set_option linter.unusedSimpArgs false

theorem rt_new {n : Nat} : Rt n newSp := by
  refine ⟨fun c a h => ?_, fun a h => ?_⟩
  · unfold fr newSp at h; simp at h
  · unfold hasB newSp noB at h; simp at h
theorem poke_far {n : Nat} {W : Nat → Int} {p v : Int} {i : Nat} (h : (i : Int) ≠ p) : pokeW n W p v i = W i := by
  unfold pokeW updW
  split
  · rename_i hb
    obtain ⟨k, rfl, _, _⟩ := inB_nat hb
    show (if i = ((k : Nat) : Int).toNat then v else W i) = W i
    rw [if_neg (by omega)]
  · rfl
theorem poke_at {n i : Nat} {W : Nat → Int} {v : Int} (h : i < 64 * n) : pokeW n W (i : Int) v i = v := by
  unfold pokeW updW inB
  rw [if_pos (by simp; omega)]
  show (if i = ((i : Nat) : Int).toNat then v else W i) = v
  rw [if_pos (by omega)]
theorem mkF_far {n : Nat} {a k z : Int} {i : Nat} : ∀ {l : List Nat} {W : Nat → Int}, (∀ x ∈ l, (i : Int) ≠ a + x) → mkF n a k z W l i = W i
  | [], W, _ => rfl
  | x :: l, W, h => by
    show mkF n a k z (pokeW n W (a + x) _) l i = W i
    rw [mkF_far (l := l) (fun y hy => h y (List.mem_cons_of_mem _ hy)), poke_far (h x (List.mem_cons_self ..))]
theorem flds_in {k s : Int} {x : Nat} (h : x ∈ flds_o k s) : 1 ≤ x ∧ (x : Int) < s := by
  unfold flds_o at h
  by_cases c : fitsB k s = true
  · rw [if_pos c] at h
    unfold fl_o at h
    have h1 := List.mem_filter.1 h
    have := List.mem_range.1 h1.1
    have := fits_le_o c
    have h2 : decide (1 ≤ x) = true := (Bool.and_eq_true _ _ ▸ h1.2).1
    exact ⟨of_decide_eq_true h2, by omega⟩
  · rw [if_neg c] at h; exact absurd h (List.not_mem_nil)
theorem room_ge {z : Int} (h1 : 1 ≤ z) (h2 : z ≤ 1024) : z ≤ (roomN z : Int) := by
  by_cases h : 32 < z
  · rw [room_great h]; omega
  · rw [room_small (by omega)]
    unfold wN ofV
    repeat' split
    all_goals first | omega | (unfold wordsV; simp; omega)
/-- words of one object's room alone have changed, its header aside -/
theorem rt_room {n a : Nat} {st : Sp} {W : Nat → Int} (hi : Inv n st) (hR : Rt n st) (ha : hasB (st.O a) = true) (hW : ∀ i : Nat, i ≤ a ∨ (a : Int) + (st.O a).2.1 ≤ i → W i = st.W i) : Rt n (wSpO st W) := by
  have hz := fits_size (hi.objs a ha).2.1
  have hg := room_ge hz.2.2.1 hz.2.2.2
  refine ⟨fun c i h => ?_, fun b h => ?_⟩
  · have h' : fr n st c i = true := h
    show W i = linkV (nf n st c (i + 1))
    rw [hW i (by rcases free_out hi h' ha with q | q <;> omega)]
    exact hR.1 c i h'
  · have h' : hasB (st.O b) = true := h
    show W b = makeV b (st.O b).1 (st.O b).2.1
    rw [hW b (by
      by_cases e : b = a
      · omega
      · rcases obj_out hi ha h' e with q | q <;> omega)]
    exact hR.2 b h'
theorem rt_make {n a : Nat} {st : Sp} {k z x t : Int} (hi : Inv n st) (hR : Rt n st) (hO : st.O a = (k, z, x, t)) (ha : hasB (st.O a) = true) : Rt n (wSpO st (mkF n a k z st.W (flds_o k z))) := by
  refine rt_room hi hR ha fun i h => mkF_far fun y hy => ?_
  have := flds_in hy
  rw [hO] at h
  dsimp only at h
  omega
theorem raw_at {n a : Nat} {st : Sp} (ha : hasB (st.O a) = true) : (rawOf n st).M (a : Int) = some (st.O a) := by
  show obM st (a : Int) = _
  unfold obM
  rw [show ((a : Int)).toNat = a from by omega, if_pos ⟨by omega, ha⟩]
theorem op_right {n a : Nat} {st : Sp} (hR : Rt n st) (ha : hasB (st.O a) = true) : opE (rawOf n st) 2 (a : Int) = 0 := by
  have hM := raw_at (n := n) ha
  unfold opE chkE
  rw [if_pos ⟨rfl, by rw [hM]; simp⟩, hM]
  simp only []
  rw [if_pos]
  show st.W ((a : Int)).toNat = _
  rw [show ((a : Int)).toNat = a from by omega]
  exact hR.2 a ha
/-- what a making of one of the eight kinds leaves -/
theorem mk_step {n : Nat} {st : Sp} {k nn t z : Int} (hi : Inv n st) (hR : Rt n st) (hz : sizeB k nn = true) (hzv : sizeV k nn = z) (hf : fitsB k z = true) :
    (alF n st k z t).2.1 = 20 ∧ (alF n st k z t).2.2.1 = 0 ∧ (alF n st k z t).2.2.2 = st ∨
    ∃ (a : Nat) (st1 : Sp) (x : Int), (alF n st k z t).1 = a ∧ (alF n st k z t).2.1 = 0 ∧ (alF n st k z t).2.2.1 = 0 ∧ (alF n st k z t).2.2.2 = st1 ∧ (rawOf n st1).M (a : Int) = some (k, z, x, t) ∧ Rt n (wSpO st1 (mkF n a k z st1.W (flds_o k z))) ∧ hasB (st1.O a) = true ∧ st1.last = lastOf st k ∧ ∀ b, hasB (st.O b) = true → st1.O b = st.O b := by
  rcases al_right (t := t) hi hR hf with ⟨_, e⟩ | ⟨a, fresh, _, e, i1, r1, h0, h1, h2⟩
  · left; rw [e]; exact ⟨rfl, rfl, rfl⟩
  · right
    have hO : (takeF n st a fresh k z t).O a = (k, z, serOf st k, t) := putO_self
    have hk : hasB (k, z, serOf st k, t) = true := by
      have := (fits_size hf).1
      unfold hasB
      simp
      omega
    refine ⟨a, takeF n st a fresh k z t, serOf st k, by rw [e], by rw [e], by rw [e], by rw [e], ?_, rt_make i1 r1 hO (by rw [hO]; exact hk), by rw [hO]; exact hk, rfl, fun b hb => ?_⟩
    · rw [raw_at (by rw [hO]; exact hk), hO]
    · exact putO_ne (fun e => by rw [e, h0] at hb; cases hb)
end Go.Proofs.YtcpignkjlnjjmaaGreatDoor
namespace Go.Proofs.YtcpignkjlnjjmaaGreatDoor
open Go.RowKit
set_option linter.unusedVariables false
set_option linter.unusedSimpArgs false

def vls (l : List Nat) : List Value := l.flatMap fun (q : Nat) => [Value.int .i64 2, Value.int .i64 (q : Int)]
theorem vls_cons (p : Nat) (l : List Nat) : vls (p :: l) = .int .i64 2 :: .int .i64 (p : Int) :: vls l := rfl
theorem vls_append (a b : List Nat) : vls (a ++ b) = vls a ++ vls b := by unfold vls; rw [List.flatMap_append]
def VListIs (w : World) (base : Nat) (v : Value) (l : List Nat) : Prop := w.ownsRow base 31 2 v l.length (vls l)
theorem VListIs.kept {w w' : World} {base x y : Nat} {v : Value} {l : List Nat} (h : VListIs w base v l) (o : Out x y w w') (hy : y ≤ base) : VListIs w' base v l := by
  obtain ⟨h1, h2⟩ := h
  refine ⟨h1, ?_⟩
  rcases h2 with h2 | ⟨g, cap, cur, rfl, h3, h4, h5⟩
  · exact .inl h2
  · exact .inr ⟨g, cap, cur, rfl, h3, o.heap h4 (.inr (by omega)), h5⟩
theorem VListIs.nil (w : World) (base : Nat) : VListIs w base (.slice none 0 0) [] := World.ownsRow_nil _ _ _ _
theorem VListIs.at {w : World} {base : Nat} {v : Value} {l : List Nat} (h : VListIs w base v l) : ∃ po pc, v = .slice po l.length pc ∧ ∀ (j a : Nat), l[j]? = some a → ∃ g, po = some ⟨g, 0, none⟩ ∧ base ≤ g ∧ g < w.heap.size ∧ w.cell? ⟨g, j * 2, none⟩ = some (.int .i64 2) ∧ w.cell? ⟨g, j * 2 + 1, none⟩ = some (.int .i64 (a : Int)) := by
  obtain ⟨h1, h2⟩ := h
  rcases h2 with ⟨e1, h2⟩ | ⟨g, cap, cur, rfl, h3, h4, h5, h6, h7, h8⟩
  · refine ⟨none, 0, by rw [e1, h2], fun j a hj => ?_⟩
    rw [List.eq_nil_of_length_eq_zero h2] at hj
    simp at hj
  refine ⟨some ⟨g, 0, none⟩, cap, rfl, fun j a hj => ⟨g, rfl, h3, ?_, ?_⟩⟩
  · exact (Array.getElem?_eq_some_iff.1 h4).1
  have key : ∀ (l : List Nat) (j a : Nat), l[j]? = some a → (vls l)[j * 2]? = some (.int .i64 2) ∧ (vls l)[j * 2 + 1]? = some (.int .i64 (a : Int)) := by
    intro l
    induction l with
    | nil => intro j a hj; simp at hj
    | cons q l ih =>
      intro j a hj
      rw [vls_cons]
      cases j with
      | zero => simp at hj; subst hj; exact ⟨rfl, rfl⟩
      | succ j =>
        have := ih j a (by simpa using hj)
        rw [show (j + 1) * 2 = j * 2 + 2 from by omega]
        simpa using this
  obtain ⟨k0, k1⟩ := key l j a hj
  have hjl : j < l.length := (List.getElem?_eq_some_iff.1 hj).1
  have get : ∀ i u, i < l.length * 2 → (vls l)[i]? = some u → w.cell? ⟨g, i, none⟩ = some u := by
    intro i u hi hu
    rw [← h8] at hu
    have : cur[i]? = some u := by simpa [List.getElem?_take, hi] using hu
    simp [World.cell?, h4, this]
  exact ⟨get _ _ (by omega) k0, get _ _ (by omega) k1⟩
theorem info_val : (Tryz.prog.info? 31).map (fun i => (i.zero, i.size, i.bytes)) = some (some (.agg #[.int .i64 0, .int .i64 0]), 2, 16) := by kernel_rfl
theorem info_parts9 {T : TypeId} {z : Value} {a b : Nat} (h : (Tryz.prog.info? T).map (fun i => (i.zero, i.size, i.bytes)) = some (some z, a, b)) : ∃ i, Tryz.prog.info? T = some i ∧ i.zero = some z ∧ i.size = a ∧ i.bytes = b := by
  cases hi : Tryz.prog.info? T with
  | none => rw [hi] at h; cases h
  | some i => rw [hi] at h; simp at h; exact ⟨i, rfl, h.1, h.2.1, h.2.2⟩
theorem app_val {ops : Array Oper} {rest : List Oper} {o : Oper} {a : Go.Act} {Q : Exit → Go.Act → World → Prop} {w : World} (hgd : o.guard = none) (sx xx : Operand)
    (ho : o.op = .call { callee := .builtin .append, args := #[sx, xx], argTypes := #[29, 29] })
    (base : Nat) (v : Value) (l : List Nat) (hs : a.eval sx = v) (hown : VListIs w base v l) (bb : Nat) (hx : a.eval xx = .slice (some ⟨bb, 0, none⟩) 1 1) (q : Nat) (hn : w.heap[bb]? = some (.cells #[.int .i64 2, .int .i64 (q : Int)] 31 (0, 0)))
    (hlen : l.length ≤ 1000) (hbase : base ≤ w.heap.size)
    (h : ∀ v' w', VListIs w' base v' (l ++ [q]) → Out base w.heap.size w w' → wpList Tryz.prog ops Q rest (a.put o.dst v') w') : wpList Tryz.prog ops Q (o :: rest) a w := by
  obtain ⟨i0, hi0, hz0, hz1, hz2⟩ := info_parts9 info_val
  have hc : ∀ (j : Nat) u, ([.int .i64 2, .int .i64 (q : Int)] : List Value)[j]? = some u → w.cell? ((⟨bb, 0, none⟩ : Addr).add j) = some u := by
    intro j u hj
    rcases j with _ | _ | j
    · simp at hj; subst hj; simp [Addr.add, World.cell?, hn]
    · simp at hj; subst hj; simp [Addr.add, World.cell?, hn]
    · simp at hj
  obtain ⟨v2, w', hrun, hown2, hgrow, hnil⟩ := run_append_own (P := Tryz.prog) w base 29 o.type 31 i0 (.agg #[.int .i64 0, .int .i64 0]) 2 16 Tryz.underlying29 hi0 hz0 hz1 hz2 rfl (by decide) v l.length (vls l) hown ⟨bb, 0, none⟩ 1 1 [.int .i64 2, .int .i64 (q : Int)] rfl hc (by intro u hu; simp at hu; rcases hu with rfl | rfl <;> rfl) (by unfold maxLen; omega) (by omega) hbase
  have hl2 : VListIs w' base v2 (l ++ [q]) := by
    unfold VListIs
    rw [vls_append, List.length_append]
    exact hown2
  have hob : ∀ g, v.ownBlock = some g → base ≤ g := by
    intro g hg
    rcases hown.2 with ⟨rfl, _⟩ | ⟨g', cap, cur, rfl, h3, h4, _⟩
    · cases hg
    · simp [Value.ownBlock] at hg; omega
  refine wpList_plain hgd fun K hK => ?_
  unfold Oper.wp
  simp [execOp, ho, resolve, invoke, builtin, hs, hx, hrun, Result.andThen]
  exact hK _ _ (h v2 w' hl2 ⟨hgrow.os, hgrow.tape, hgrow.output, hgrow.size, fun k h1 h2 => hgrow.block k h1 (fun e => by have := hob k e.symm; omega)⟩)
end Go.Proofs.YtcpignkjlnjjmaaGreatDoor
namespace Go.Proofs.YtcpignkjlnjjmaaGreatDoor
open Go.RowKit
set_option linter.unusedVariables false
set_option linter.unusedSimpArgs false

def SlI (w : World) (b : Nat) (p : Option Addr) (L : List Int) : Prop := (∀ x ∈ L, -9223372036854775808 ≤ x ∧ x ≤ 9223372036854775807) ∧ (L = [] ∨ ∃ g off, p = some ⟨g, off, none⟩ ∧ g < b ∧ ∀ j x, L[j]? = some x → w.cell? ⟨g, off + j, none⟩ = some (.int .i64 x))
theorem SlI.kept {w w' : World} {b x y : Nat} {p : Option Addr} {L : List Int} (h : SlI w b p L) (o : Out x y w w') (hx : b ≤ x ∨ y = 0) : SlI w' b p L := by
  refine ⟨h.1, ?_⟩
  rcases h.2 with h | ⟨g, off, h1, h2, h3⟩
  · exact .inl h
  · exact .inr ⟨g, off, h1, h2, fun j x hj => o.cell (h3 j x hj) (by omega)⟩
def kdL : List Int := [1, 2, 3, 8, 9, 6, 7, 11]
theorem kd_facts {j : Nat} (h : j < 8) : ∃ k nn z, kdL[j]? = some k ∧ k ≠ 4 ∧ sizeB k nn = true ∧ sizeV k nn = z ∧ fitsB k z = true ∧ 1 ≤ z ∧ z ≤ 20 ∧ (k = 3 ∧ nn = 3 ∨ k = 6 ∧ nn = 3 ∨ k = 11 ∧ nn = 3 ∨ nn = 0 ∧ (k == 3) = false ∧ (k == 6) = false ∧ (k == 11) = false) := by
  have h8 : j = 0 ∨ j = 1 ∨ j = 2 ∨ j = 3 ∨ j = 4 ∨ j = 5 ∨ j = 6 ∨ j = 7 := by omega
  rcases h8 with rfl | rfl | rfl | rfl | rfl | rfl | rfl | rfl
  · exact ⟨1, 0, _, rfl, by decide, by decide, rfl, by decide, by decide, by decide, by decide⟩
  · exact ⟨2, 0, _, rfl, by decide, by decide, rfl, by decide, by decide, by decide, by decide⟩
  · exact ⟨3, 3, _, rfl, by decide, by decide, rfl, by decide, by decide, by decide, by decide⟩
  · exact ⟨8, 0, _, rfl, by decide, by decide, rfl, by decide, by decide, by decide, by decide⟩
  · exact ⟨9, 0, _, rfl, by decide, by decide, rfl, by decide, by decide, by decide, by decide⟩
  · exact ⟨6, 3, _, rfl, by decide, by decide, rfl, by decide, by decide, by decide, by decide⟩
  · exact ⟨7, 0, _, rfl, by decide, by decide, rfl, by decide, by decide, by decide, by decide⟩
  · exact ⟨11, 3, _, rfl, by decide, by decide, rfl, by decide, by decide, by decide, by decide⟩
theorem lit_cell {w : World} {j : Nat} {k : Int} (h : kdL[j]? = some k) : (w.alloc (.cells #[.int .i64 1, .int .i64 2, .int .i64 3, .int .i64 8, .int .i64 9, .int .i64 6, .int .i64 7, .int .i64 11] 3)).cell? ⟨w.heap.size, j, none⟩ = some (.int .i64 k) := by
  have e := heap_alloc_new w (.cells #[.int .i64 1, .int .i64 2, .int .i64 3, .int .i64 8, .int .i64 9, .int .i64 6, .int .i64 7, .int .i64 11] 3)
  have hj : j < 8 := (List.getElem?_eq_some_iff.1 h).1
  have h8 : j = 0 ∨ j = 1 ∨ j = 2 ∨ j = 3 ∨ j = 4 ∨ j = 5 ∨ j = 6 ∨ j = 7 := by omega
  rcases h8 with rfl | rfl | rfl | rfl | rfl | rfl | rfl | rfl <;> simp [kdL] at h <;> subst h <;> (unfold World.cell?; rw [e]; rfl)
/-- the heap of the law, and the objects that it has made -/
def Md (w0 : World) (lo hi : Nat) (s : Nat → Nat) (cap hb : Nat) (v : Value) (wr : World) (st : Sp) (l : List Nat) : Prop :=
  SpAt wr lo hi s 4 cap st ∧ Rt 4 st ∧ wr.cell? ⟨hb, 0, none⟩ = some (.pointer (some ⟨s 14, 0, none⟩)) ∧ VListIs wr (hb + 1) v l ∧ (∀ a ∈ l, hasB (st.O a) = true) ∧ Out 0 0 w0 wr
theorem Md.quiet {w0 wr w' : World} {lo hi cap hb : Nat} {s : Nat → Nat} {v : Value} {st : Sp} {l : List Nat} (h : Md w0 lo hi s cap hb v wr st l) (o : Out 0 0 wr w') : Md w0 lo hi s cap hb v w' st l := by
  obtain ⟨h1, h2, h3, h4, h5, h6⟩ := h
  exact ⟨h1.quiet o, h2, o.cell h3 (.inr (Nat.zero_le _)), h4.kept o (Nat.zero_le _), h5, h6.trans o⟩
theorem Md.make {w0 wr w' : World} {lo hi cap hb : Nat} {s : Nat → Nat} {v : Value} {st st' : Sp} {l : List Nat} (h : Md w0 lo hi s cap hb v wr st l) (hh : hi ≤ hb) (hlo : w0.heap.size ≤ lo) (hs : SpAt w' lo hi s 4 cap st') (hr : Rt 4 st') (hO : ∀ b, hasB (st.O b) = true → st'.O b = st.O b) (o : Out lo hi wr w') : Md w0 lo hi s cap hb v w' st' l := by
  obtain ⟨h1, h2, h3, h4, h5, h6⟩ := h
  exact ⟨hs, hr, o.cell h3 (.inr hh), h4.kept o (by omega), fun a ha => by rw [hO a (h5 a ha)]; exact h5 a ha, h6.then o hlo⟩
theorem Md.grow {w0 wr w' : World} {lo hi cap hb a y : Nat} {s : Nat → Nat} {v v' : Value} {st : Sp} {l : List Nat} (h : Md w0 lo hi s cap hb v wr st l) (hh : hi ≤ hb) (hlo : w0.heap.size = lo) (hv : VListIs w' (hb + 1) v' (l ++ [a])) (ha : hasB (st.O a) = true) (o : Out (hb + 1) y wr w') : Md w0 lo hi s cap hb v' w' st (l ++ [a]) := by
  obtain ⟨h1, h2, h3, h4, h5, h6⟩ := h
  have hl := (h1.1.inn 14 (by omega))
  have hg := h1.1.glob
  refine ⟨h1.kept o (.inl (by omega)) (.inl (by omega)), h2, o.cell h3 (.inl (Nat.lt_succ_self _)), hv, fun b hb => ?_, h6.then o (by omega)⟩
  rcases List.mem_append.1 hb with h | h
  · exact h5 b h
  · simp at h; subst h; exact ha
set_option maxRecDepth 100000 in
set_option maxHeartbeats 4000000 in
theorem made_any {w : World} (hT : Tab w) {p : Option Addr} {L : List Int} {cap0 : Nat} (hL : SlI w w.heap.size p L) :
    Calls Tryz.prog 10 #[.slice p L.length cap0] w fun e w' => ∃ hi s cap hb st l v, e = .returned (.tuple #[.pointer (some ⟨hb, 0, none⟩), v, .bool true]) ∧ Md w w.heap.size hi s cap hb v w' st l ∧ hi ≤ hb ∧ l.length ≤ 12 := by
  have HN := hid_mk (NewS hT 4 (by omega) (by omega))
  rw [show ((4 : Nat) : Int) = 4 from rfl] at HN
  have HL := hid_mk hL
  clear hT hL
  go_enter Tryz.func10, Tryz.ntmps10
  go_wp2_with fail
  refine HN.out.mono ?_
  rintro e X1 ⟨s, cap, hi, hb, rfl, S1, hh, hc, o1⟩
  obtain ⟨lo, hlo⟩ : ∃ lo, w.heap.size = lo := ⟨_, rfl⟩
  have HLo := hid_mk hlo
  rw [hlo] at S1
  have HX : Hid (hb < X1.heap.size) := cell_lt hc
  have HM0 : Hid (Md w lo hi s cap hb (.slice none 0 0) X1 newSp []) := ⟨S1, rt_new, hc, VListIs.nil _ _, (fun a ha => by cases ha), o1⟩
  have Hh := hid_mk hh
  clear HN hlo S1 hc o1 hh
  go_wp2_with fail
  go_loopw [7, 8] (fun v x wr => ∃ (k : Nat) (st : Sp) (l : List Nat), k ≤ 12 ∧ x = .int .i64 k ∧ Md w lo hi s cap hb v wr st l ∧ l.length ≤ k ∧ st.last ≤ k ∧ X1.heap.size ≤ wr.heap.size) (fun _ x _ => 12 - (intOf x).toNat)
  case atStart => exact ⟨0, newSp, [], Nat.zero_le _, rfl, HM0.out, Nat.le_refl _, by show (0 : Int) ≤ 0; omega, Nat.le_refl _⟩
  case round =>
    obtain ⟨k, st, l, k1, rfl, hM, hl, hla, hX⟩ := hrel
    have HMd := hid_mk hM
    have HK := hid_mk (And.intro k1 (And.intro hl (And.intro hla hX)))
    clear hM hl hla hX
    have k0 : (0 : Int) ≤ (k : Int) := by omega
    by_cases hgo : k < L.length
    · have g1 : (k : Int) < (L.length : Int) := by omega
      by_cases h12 : k < 12
      · have g2 : (k : Int) < 12 := by omega
        obtain ⟨xk, hxk⟩ : ∃ x, L[k]? = some x := ⟨_, List.getElem?_eq_getElem hgo⟩
        have hxb := HL.out.1 xk (List.mem_of_getElem? hxk)
        rcases HL.out.2 with e | ⟨g, off, rfl, hg, hcell⟩
        · rw [e] at hgo; simp at hgo
        have hcw := ((Out.refl 0 0 wr).alloc (.cells #[.int .i64 1, .int .i64 2, .int .i64 3, .int .i64 8, .int .i64 9, .int .i64 6, .int .i64 7, .int .i64 11] 3)).cell (HMd.out.2.2.2.2.2.cell (hcell k xk hxk) (.inr (Nat.zero_le _))) (.inr (Nat.zero_le _))
        have HW := hid_mk (fun w => within_any xk 8 (by omega) (by omega) hxb.1 hxb.2 w)
        rw [show ((8 : Nat) : Int) = 8 from rfl] at HW
        have Hg := hid_mk (And.intro hgo h12)
        clear hcell hxk hxb hg hgo h12
        go_wp2_with fail
        refine (HW.out _).mono ?_
        rintro e X2 ⟨j, hj, rfl, rfl⟩
        obtain ⟨kd, nn, z, e1, e2, e3, e4, e5, e6, e7, e8⟩ := kd_facts hj
        have hlit := lit_cell (w := wr) e1
        have HKd := hid_mk (And.intro e2 (And.intro e3 (And.intro e4 (And.intro e5 (And.intro e6 e7)))))
        have hj8 : (j : Int) < 8 := by omega
        have hj0 : (0 : Int) ≤ (j : Int) := by omega
        clear hcw HW e1 e2 e3 e4 e5 e6 e7
        have HM1 := hid_mk (HMd.out.quiet ((Out.refl 0 0 wr).alloc (.cells #[.int .i64 1, .int .i64 2, .int .i64 3, .int .i64 8, .int .i64 9, .int .i64 6, .int .i64 7, .int .i64 11] 3)))
        have HS1 : Hid (wr.heap.size ≤ (wr.alloc (.cells #[.int .i64 1, .int .i64 2, .int .i64 3, .int .i64 8, .int .i64 9, .int .i64 6, .int .i64 7, .int .i64 11] 3)).heap.size) := ((Out.refl 0 0 wr).alloc _).size
        rcases e8 with ⟨rfl, rfl⟩ | ⟨rfl, rfl⟩ | ⟨rfl, rfl⟩ | ⟨rfl, b3, b6, b11⟩
        all_goals go_wp2_with fail
        all_goals (obtain ⟨V1, hV1⟩ : ∃ V, wr.alloc (.cells #[.int .i64 1, .int .i64 2, .int .i64 3, .int .i64 8, .int .i64 9, .int .i64 6, .int .i64 7, .int .i64 11] 3) = V := ⟨_, rfl⟩)
        all_goals (rw [hV1] at HM1 HS1; rw [hV1])
        all_goals (clear hV1 hlit)
        all_goals (obtain ⟨k1, k2, k3, k4, k5, k6⟩ := HKd.out)
        all_goals (obtain ⟨m1, m2, m3, m4, m5, m6⟩ := HM1.out)
        all_goals
          have hlast : st.last < 4611686018427387904 := by have := HK.out.2.2.1; omega
          rcases mk_step (n := 4) (t := 1) m1.2 m2 k2 k3 k4 with ⟨q1, q2, q3⟩ | ⟨a, st1, x, q1, q2, q3, q4, q5, q6, q7, q8, q9⟩
          · have HMk := hid_mk (Make_full m1 m3 (.inr Hh.out) _ _ 1 k1 (fa := 0) k2 k3 (by omega) (by omega) hlast rfl q1 q2 (by decide))
            rw [q3] at HMk
            clear q1 q2 q3 k1 k2 k3 k4 k5 k6 m1 m2 m3 m4 m5 m6 hlast HKd
            refine HMk.out.mono ?_
            rintro e X3 ⟨rfl, S3, o3⟩
            have HM3 := hid_mk ((HM1.out.make Hh.out (Nat.le_of_eq HLo.out) S3 HM1.out.2.1 (fun _ _ => rfl) o3).quiet (((Out.refl 0 0 X3).alloc (.cells #[.int .i64 0, .int .i64 0] 31)).alloc (.cells #[.int .i64 20, .int .i64 0] 33)))
            have HS3 := hid_mk (Nat.le_trans HS1.out (Nat.le_trans o3.size (((Out.refl 0 0 X3).alloc (.cells #[.int .i64 0, .int .i64 0] 31)).alloc (.cells #[.int .i64 20, .int .i64 0] 33)).size))
            clear S3 o3 HMk HM1 HS1
            go_wp2
            go_roundw
            case rel => exact ⟨k + 1, st, l, by have := Hg.out.2; omega, by go_num, HM3.out, by have := HK.out.2.1; omega, by have := HK.out.2.2.1; omega, Nat.le_trans HK.out.2.2.2 HS3.out⟩
            case measure => have := Hg.out.2; simp [intOf]; omega
          · have HMk := hid_mk (Make_ok m1 m3 (.inr Hh.out) _ _ 1 k1 (a := (a : Int)) (fa := 0) k2 k3 (by omega) (by omega) hlast q1 q2 q3 (q4.symm ▸ q5))
            rw [q4] at HMk
            have HQ := hid_mk (And.intro q6 (And.intro q7 (And.intro q8 q9)))
            clear q1 q2 q3 q4 q5 q6 q7 q8 q9 k1 k2 k3 k4 k5 k6 m1 m2 m3 m4 m5 m6 hlast HKd
            refine HMk.out.mono ?_
            rintro e X3 ⟨rfl, S3, o3⟩
            have HM3 := hid_mk ((HM1.out.make Hh.out (Nat.le_of_eq HLo.out) S3 HQ.out.1 (fun b hb => HQ.out.2.2.2 b hb) o3).quiet ((((Out.refl 0 0 X3).alloc (.cells #[.int .i64 2, .int .i64 (a : Int)] 31)).alloc (.cells #[.int .i64 0, .int .i64 0] 33)).alloc (.cells #[.int .i64 2, .int .i64 (a : Int)] 31)))
            have HS3 := hid_mk (Nat.le_trans HS1.out (Nat.le_trans o3.size ((((Out.refl 0 0 X3).alloc (.cells #[.int .i64 2, .int .i64 (a : Int)] 31)).alloc (.cells #[.int .i64 0, .int .i64 0] 33)).alloc (.cells #[.int .i64 2, .int .i64 (a : Int)] 31)).size))
            have HN3 := hid_mk (three_third (w := X3) (o := (.cells #[.int .i64 2, .int .i64 (a : Int)] 31)) (o2 := (.cells #[.int .i64 0, .int .i64 0] 33)) (o3 := (.cells #[.int .i64 2, .int .i64 (a : Int)] 31)))
            clear S3 o3 HMk HM1 HS1
            have c1 : l.length ≤ 1000 := by have := HK.out.2.1; have := HK.out.1; omega
            have c2 : Hid (hb + 1 ≤ _) := Nat.le_trans HX.out (Nat.le_trans HK.out.2.2.2 HS3.out)
            go_wp2_with (at_builtin; refine app_val rfl _ _ rfl (hb + 1) _ l rfl HM3.out.2.2.2.1 _ rfl a HN3.out c1 c2.out ?_)
            intro v' X7 hv' o7
            have HM7 : Hid (Md w lo hi s cap hb v' X7 _ (l ++ [a])) := HM3.out.grow Hh.out HLo.out hv' HQ.out.2.1 o7
            have HS7 := hid_mk (Nat.le_trans HS3.out o7.size)
            clear hv' o7 HM3 HS3 HN3 c1 c2
            go_wp2
            go_roundw
            case rel => exact ⟨k + 1, _, l ++ [a], by have := Hg.out.2; omega, by go_num, HM7.out, by have := HK.out.2.1; simp; omega, by have h1 := HK.out.2.2.1; have h2 := HQ.out.2.2.1; unfold lastOf at h2; show st1.last ≤ _; split at h2 <;> omega, Nat.le_trans HK.out.2.2.2 HS7.out⟩
            case measure => have := Hg.out.2; simp [intOf]; omega
      · have g2 : (12 : Int) ≤ (k : Int) := by omega
        go_wp2
        go_ret3
        exact ⟨hi, s, cap, hb, st, l, _, rfl, (by rw [HLo.out]; exact HMd.out), Hh.out, Nat.le_trans HK.out.2.1 HK.out.1⟩
    · have g1 : (L.length : Int) ≤ (k : Int) := by omega
      go_wp2
      go_ret3
      exact ⟨hi, s, cap, hb, st, l, _, rfl, (by rw [HLo.out]; exact HMd.out), Hh.out, Nat.le_trans HK.out.2.1 HK.out.1⟩
end Go.Proofs.YtcpignkjlnjjmaaGreatDoor
