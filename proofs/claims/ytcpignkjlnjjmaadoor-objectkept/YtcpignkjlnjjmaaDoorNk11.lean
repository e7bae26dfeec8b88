import Derived.Test.YtcpignkjlnjjmaaDoorNk03
import Derived.Lib.SmallJoins
import Derived.Deep.AppendLies
import Derived.Deep.Slices
import Derived.OwnWalk
import Derived.ArgAppend
import Derived.Deep.DeepAppendRoom
import Derived.Test.YtcpignkjlnjjmaaDoorNk09
import Derived.Test.YtcpignkjlnjjmaaDoorNk10
namespace Go.Proofs.YtcpignkjlnjjmaaDoor
open Go.RowKit
set_option linter.unusedVariables false
set_option linter.unusedSimpArgs false

theorem visible_any (k : Int) (w : World) : Calls Tryd.prog 51 #[.int .i64 k] w fun e w' => e = .returned (.bool (decide (1 ≤ k) && decide (k ≤ 10))) ∧ w' = w := by
  go_enter Tryd.func51, Tryd.ntmps51
  go_wp2
  all_goals go_ret
  all_goals refine ⟨ret_bool ?_, rfl⟩
  all_goals (rw [Bool.eq_iff_iff]; simp; try omega)
theorem frame_any (i : Int) (w : World) : Calls Tryd.prog 60 #[.int .i64 i] w fun e w' => e = .returned (.int .i64 (frameW i)) ∧ w' = w := by
  go_enter Tryd.func60, Tryd.ntmps60
  go_wp2
  all_goals go_ret
  all_goals refine ⟨ret_int ?_, rfl⟩
  all_goals (unfold frameW; simp [*])
theorem role_any (k i : Int) (w : World) : Calls Tryd.prog 45 #[.int .i64 k, .int .i64 i] w fun e w' => e = .returned (.int .i64 (roleW k i)) ∧ w' = w := by
  have HF := hid_mk (frame_any i)
  go_enter Tryd.func45, Tryd.ntmps45
  go_wp2_with (go_at_call 60; refine calls_same (HF.out _) ?_)
  all_goals go_ret
  all_goals refine ⟨ret_int ?_, rfl⟩
  all_goals (unfold roleW; simp [*]; try (intro hh; omega))

theorem roles_any (k s i : Int) {w : World} (hT : Tab w) (s1 : -9223372036854775808 ≤ s) (s2 : s ≤ 9223372036854775807) :
    Calls Tryd.prog 29 #[.int .i64 k, .int .i64 s, .int .i64 i] w fun e w' => e = .returned (.int .i64 (roleV k s i)) ∧ w' = w := by
  have HF := hid_mk (fits_any k s hT s1 s2)
  have HR := hid_mk (role_any k i)
  clear s1 s2
  by_cases hi : 1 ≤ i
  · by_cases hs : i < s
    · cases hf : fitsB k s
      · have e : roleV k s i = 0 := by unfold roleV; rw [if_neg (by rw [hf]; simp)]
        rw [hf] at HF
        rw [e]
        clear e hf
        go_enter Tryd.func29, Tryd.ntmps29
        go_wp2_with (first | (go_at_call 44; refine calls_same HF.out ?_) | (go_at_call 45; refine calls_same (HR.out _) ?_))
        go_ret
        exact ⟨rfl, rfl⟩
      · have e : roleV k s i = roleW k i := by unfold roleV; rw [if_pos ⟨hf, hi, hs⟩]
        rw [hf] at HF
        rw [e]
        clear e hf
        generalize roleW k i = r at *
        go_enter Tryd.func29, Tryd.ntmps29
        go_wp2_with (first | (go_at_call 44; refine calls_same HF.out ?_) | (go_at_call 45; refine calls_same (HR.out _) ?_))
        go_ret
        exact ⟨rfl, rfl⟩
    · have e : roleV k s i = 0 := by unfold roleV; rw [if_neg (by omega)]
      rw [e]
      clear e
      go_enter Tryd.func29, Tryd.ntmps29
      go_wp2
      go_ret
      exact ⟨rfl, rfl⟩
  · have e : roleV k s i = 0 := by unfold roleV; rw [if_neg (by omega)]
    rw [e]
    clear e
    go_enter Tryd.func29, Tryd.ntmps29
    go_wp2
    go_ret
    exact ⟨rfl, rfl⟩

/-- the words below p whose role is not raw, rising -/
def fl_o (k : Int) (p : Nat) : List Nat := (List.range p).filter fun j => decide (1 ≤ j) && (roleW k j != 1)
theorem fl_one_o (k : Int) : fl_o k 1 = [] := by simp [fl_o, List.range_succ]
theorem fl_in_o {k : Int} {p : Nat} (h : 1 ≤ p) (hr : roleW k p ≠ 1) : fl_o k (p + 1) = fl_o k p ++ [p] := by
  unfold fl_o
  rw [List.range_succ, List.filter_append]
  simp [h, hr]
theorem fl_out_o {k : Int} {p : Nat} (hr : roleW k p = 1) : fl_o k (p + 1) = fl_o k p := by
  unfold fl_o
  rw [List.range_succ, List.filter_append]
  simp [hr]
theorem fl_len_o (k : Int) (p : Nat) : (fl_o k p).length ≤ p := by
  unfold fl_o
  exact Nat.le_trans (List.length_filter_le _ _) (by simp)
def flds_o (k s : Int) : List Nat := if fitsB k s then fl_o k s.toNat else []
def ints_o (l : List Nat) : List Value := l.map (fun (x : Nat) => Value.int .i64 (x : Int))
theorem fits_le_o {k s : Int} (h : fitsB k s = true) : 1 ≤ s ∧ s ≤ 1024 := by
  obtain ⟨hk, a, b, c⟩ := fitsB_iff.1 h
  obtain ⟨j, rfl, j1, j2⟩ := known_nat hk
  obtain ⟨w1, w2, w3, w4, w5, w6, w7⟩ := wd_mo j1 j2
  rcases kinds j1 j2 with rfl | rfl | rfl | rfl | rfl | rfl | rfl | rfl | rfl | rfl | rfl | rfl | rfl <;> (simp [wd, mo, partW] at a b; omega)
theorem info_int_o : (Tryd.prog.info? 3).map (fun i => (i.zero, i.size, i.bytes)) = some (some (.int .i64 0), 1, 8) := by kernel_rfl
theorem own_kept_o {w w' : World} {v : Value} {base k lo hi : Nat} {xs : List Value} {T : TypeId} (h : w.ownsRow base T 1 v k xs) (o : Out lo hi w w') (hd : hi ≤ base) : w'.ownsRow base T 1 v k xs := by
  obtain ⟨hlen, hcase⟩ := h
  refine ⟨hlen, ?_⟩
  rcases hcase with ⟨hv, h0⟩ | ⟨g, cap', cur, rfl, hg1, hg2, hg3⟩
  · exact .inl ⟨hv, h0⟩
  · exact .inr ⟨g, cap', cur, rfl, hg1, o.heap hg2 (.inr (by omega)), hg3⟩
theorem own_out_o {w w' : World} {v : Value} {base k : Nat} {xs : List Value} {T : TypeId} (h : w.ownsRow base T 1 v k xs) (hg : w.grownBy w' v.ownBlock) : Out base w.heap.size w w' :=
  ⟨hg.os, hg.tape, hg.output, hg.size, fun j h1 h2 => hg.block j h1 (fun e => by have := (h.lt j e.symm).1; omega)⟩
theorem info_parts_o {T : TypeId} {z : Value} {a b : Nat} (h : (Tryd.prog.info? T).map (fun i => (i.zero, i.size, i.bytes)) = some (some z, a, b)) : ∃ i, Tryd.prog.info? T = some i ∧ i.zero = some z ∧ i.size = a ∧ i.bytes = b := by
  cases hi : Tryd.prog.info? T with
  | none => rw [hi] at h; cases h
  | some i => rw [hi] at h; simp at h; exact ⟨i, rfl, h.1, h.2.1, h.2.2⟩
/-- the list as an answer -/
def ListIs_o (w : World) (base : Nat) (v : Value) (l : List Nat) : Prop := w.ownsRow base 3 1 v l.length (ints_o l)
theorem ListIs_o.nil (w : World) (base : Nat) : ListIs_o w base (.slice none 0 0) [] := World.ownsRow_nil _ _ _ _
theorem ListIs_o.kept {w w' : World} {base lo hi : Nat} {v : Value} {l : List Nat} (h : ListIs_o w base v l) (o : Out lo hi w w') (hd : hi ≤ base) : ListIs_o w' base v l := own_kept_o h o hd
set_option maxHeartbeats 1000000 in
theorem fields_any_o (k s : Int) {w : World} (hT : Tab w) (s1 : -9223372036854775808 ≤ s) (s2 : s ≤ 9223372036854775807) :
    Calls Tryd.prog 27 #[.int .i64 k, .int .i64 s] w fun e w' => ∃ v, e = .returned v ∧ ListIs_o w' w.heap.size v (flds_o k s) ∧ Out 0 0 w w' := by
  have HF := hid_mk (fits_any k s hT s1 s2)
  clear s1 s2
  cases hf : fitsB k s
  · rw [hf] at HF
    have e : flds_o k s = [] := by unfold flds_o; rw [hf]; rfl
    rw [e]
    clear e hf
    go_enter Tryd.func27, Tryd.ntmps27
    go_wp2_with (go_at_call 44; refine calls_same HF.out ?_)
    go_ret
    exact ⟨_, rfl, ListIs_o.nil _ _, Out.refl _ _ _⟩
  · rw [hf] at HF
    obtain ⟨b1, b2⟩ := fits_le_o hf
    have e : flds_o k s = fl_o k s.toNat := by unfold flds_o; rw [hf]; rfl
    rw [e]
    obtain ⟨q, rfl⟩ : ∃ q : Nat, s = q := ⟨s.toNat, by omega⟩
    rw [show ((q : Nat) : Int).toNat = q from by omega]
    have HR := hid_mk (role_any k)
    obtain ⟨i0, hi0, hz0, hz1, hz2⟩ := info_parts_o info_int_o
    have HQ : Hid (1 ≤ q ∧ q ≤ 1024) := by show _ ∧ _; omega
    clear e hf b1 b2
    go_enter Tryd.func27, Tryd.ntmps27
    go_wp2_with (go_at_call 44; refine calls_same HF.out ?_)
    go_loopw [5, 6] (fun o x wr => ∃ p : Nat, 1 ≤ p ∧ p ≤ q ∧ x = .int .i64 p ∧ ListIs_o wr w.heap.size o (fl_o k p) ∧ Out 0 0 w wr) (fun _ x _ => q - (intOf x).toNat)
    case atStart => exact ⟨1, Nat.le_refl _, HQ.out.1, rfl, by rw [fl_one_o]; exact ListIs_o.nil _ _, Out.refl _ _ _⟩
    case round =>
      obtain ⟨p, p1, p2, rfl, hl, ho⟩ := hrel
      have HL := hid_mk hl
      have HO := hid_mk ho
      have p0 : (0 : Int) ≤ (p : Int) := by omega
      have HP := hid_mk p1
      clear hl ho p1
      by_cases hgo : p < q
      · have g1 : (p : Int) < (q : Int) := by omega
        have g2 : (q : Int) ≤ 1024 := by have := HQ.out; omega
        obtain ⟨r, hr⟩ : ∃ r, roleW k p = r := ⟨_, rfl⟩
        have HRp := hid_mk (fun w => role_any k p w)
        rw [hr] at HRp
        by_cases h1 : r = 1
        · have hn : (r != 1) = false := by simp [h1]
          have HE := hid_mk (fl_out_o (h1 ▸ hr))
          clear hr h1
          go_wp2_with (go_at_call 45; refine calls_same (HRp.out _) ?_)
          go_roundw
          case rel => exact ⟨p + 1, by omega, by omega, by go_num, by rw [HE.out]; exact HL.out, HO.out⟩
          case measure => simp [intOf]; omega
        · have hn : (r != 1) = true := by simp [h1]
          have HE := hid_mk (fl_in_o HP.out (by rw [hr]; exact h1))
          clear hr h1
          have HW : Hid (w.heap.size ≤ wr.heap.size) := HO.out.size
          go_wp2_with (first | (go_at_call 45; refine calls_same (HRp.out _) ?_) | (at_builtin; refine wpList_append_lies _ rfl _ _ 22 rfl w.heap.size 3 i0 (.int .i64 0) 1 8 Tryd.underlying22 hi0 hz0 hz1 hz2 rfl (by decide) _ _ _ rfl (HL.out.kept ((Out.refl 0 0 _).alloc _) (Nat.zero_le _)) ⟨wr.heap.size, 0, none⟩ 1 1 [.int .i64 p] rfl rfl (cell_one_new _ _ _) ?c2 (by decide) ?c3 ?c4 ?c5 _ rfl ?_))
          case c2 => intro u hu; simp at hu; subst hu; rfl
          case c3 => unfold maxLen; have := fl_len_o k p; omega
          case c4 => have := fl_len_o k p; omega
          case c5 => have := HW.out; simp; omega
          intro g cap w1 hown hgrow hat hlt
          have hO1 := own_out_o (HL.out.kept ((Out.refl 0 0 _).alloc _) (Nat.zero_le _)) hgrow
          have HO1 : Hid (Out 0 0 w w1) := (HO.out.trans ((Out.refl 0 0 _).alloc _)).past hO1 (Nat.le_refl _)
          have HL1 : Hid (ListIs_o w1 w.heap.size (.slice (some ⟨g, 0, none⟩) ((fl_o k p).length + 1) cap) (fl_o k (p + 1))) := by
            show World.ownsRow _ _ _ _ _ _ _
            rw [HE.out, List.length_append]
            have : ints_o (fl_o k p ++ [p]) = ints_o (fl_o k p) ++ [.int .i64 p] := by simp [ints_o]
            rw [this]
            exact hown
          generalize (fl_o k p).length + 1 = ln at *
          clear hown hgrow hat hlt hO1
          go_wp2
          go_roundw
          case rel => exact ⟨p + 1, by omega, by omega, by go_num, HL1.out, HO1.out⟩
          case measure => simp [intOf]; omega
      · have g1 : (q : Int) ≤ (p : Int) := by omega
        have : p = q := by omega
        subst this
        clear hgo
        go_wp2
        go_ret
        exact ⟨_, rfl, HL.out, HO.out⟩

end Go.Proofs.YtcpignkjlnjjmaaDoor
namespace Go.Proofs.YtcpignkjlnjjmaaDoor
open Go.RowKit
set_option linter.unusedVariables false
set_option linter.unusedSimpArgs false

theorem out_two {w w1 w2 : World} (h : Out 0 0 w w1) (g : Below w1.heap.size w1 w2) : Out 0 0 w w2 := h.trans (Out.of_below g _ _)
theorem calls_out {f : FuncId} {args : Array Value} {v : Value} {w : World} {w0 : World} (h : Calls Tryd.prog f args w (fun e w' => e = .returned v ∧ Below w.heap.size w w')) (h0 : Out 0 0 w0 w) : Calls Tryd.prog f args w (fun e w' => e = .returned v ∧ Out 0 0 w0 w') :=
  h.mono fun _ _ ⟨he, hb⟩ => ⟨he, out_two h0 hb⟩
theorem roomN_big {s : Int} (h : 32 < s) (h2 : s ≤ 1024) : ((roomN s : Nat) : Int) = pagesV s * 64 ∧ 0 < pagesV s ∧ pagesV s ≤ 16 := by
  unfold roomN pagesV
  rw [if_pos h, if_pos ⟨h, h2⟩]
  omega
theorem roomN_small {s : Int} (h1 : 1 ≤ s) (h : s ≤ 32) : ((roomN s : Nat) : Int) = wordsV (ofV s) ∧ pagesV s = 0 := by
  have := of_small h1 h
  unfold roomN wN pagesV
  rw [if_neg (by omega), if_neg (by omega)]
  omega
theorem room_any (s : Int) (h1 : 1 ≤ s) (h2 : s ≤ 1024) (w : World) : Calls Tryd.prog 68 #[.int .i64 s] w fun e w' => e = .returned (.int .i64 (roomN s : Nat)) ∧ Out 0 0 w w' := by
  have HP := hid_mk (calls_out (pages_any s w) (Out.refl 0 0 w))
  by_cases h : 32 < s
  · obtain ⟨e1, e2, e3⟩ := roomN_big h h2
    rw [e1]
    generalize pagesV s = k at *
    clear h h1 h2 e1
    go_enter Tryd.func68, Tryd.ntmps68
    go_wp2_with (go_at_call 63; refine HP.out.mono ?_; rintro e w1 ⟨rfl, ho⟩)
    go_ret
    exact ⟨rfl, ho⟩
  · obtain ⟨e1, e2⟩ := roomN_small h1 (by omega)
    rw [e1]
    rw [e2] at HP
    have HO := hid_mk (fun w' (h : Out 0 0 w w') => calls_out (of_any s w') h)
    have HW := hid_mk (fun w' (h : Out 0 0 w w') => calls_out (cwords_any (ofV s) w') h)
    generalize ofV s = c at *
    generalize wordsV c = k at *
    clear h h1 h2 e1 e2
    go_enter Tryd.func68, Tryd.ntmps68
    go_wp2_with (first
      | (go_at_call 63; refine HP.out.mono ?_; rintro e w1 ⟨rfl, ho⟩)
      | (go_at_call 66; refine (HO.out _ ho).mono ?_; rintro e w2 ⟨rfl, ho2⟩)
      | (go_at_call 80; refine (HW.out _ ho2).mono ?_; rintro e w3 ⟨rfl, ho3⟩))
    go_ret
    exact ⟨rfl, ho3⟩
section
variable {w : World} {lo hi n cap : Nat} {s : Nat → Nat} {r : Raw}
/-- what Check tells: the error, its place -/
def chkE (r : Raw) (a : Int) : Int := match r.M a with | none => 22 | some b => if r.W a.toNat = makeV a b.1 b.2.1 then 0 else 21
def chkA (r : Raw) (a : Int) : Int := match r.M a with | none => 0 | some b => if r.W a.toNat = makeV a b.1 b.2.1 then 0 else a
/-- objects stand in the arena -/
def InArena (n : Nat) (r : Raw) : Prop := ∀ a b, r.M a = some b → 0 ≤ a ∧ a + b.2.1 ≤ 64 * n ∧ 1 ≤ b.2.1 ∧ b.2.1 ≤ 1024
theorem flt_facts {w : World} {g : Nat} {x y : Int} {T : TypeId} (h : w.heap[g]? = some (.cells #[.int .i64 x, .int .i64 y] T (0, 0))) :
    w.cell? ⟨g, 0, none⟩ = some (.int .i64 x) ∧ w.cell? ⟨g, 1, none⟩ = some (.int .i64 y) ∧ w.frozen? ⟨g, 0, none⟩ = false ∧ w.frozen? ⟨g, 1, none⟩ = false := by
  refine ⟨?_, ?_, ?_, ?_⟩ <;> simp [World.cell?, World.frozen?, h]
theorem flt_set {w : World} {g : Nat} {x y x' y' : Int} {T : TypeId} (h : w.heap[g]? = some (.cells #[.int .i64 x, .int .i64 y] T (0, 0))) :
    ((w.setCell ⟨g, 0, none⟩ (.int .i64 x')).setCell ⟨g, 1, none⟩ (.int .i64 y')).heap[g]? = some (.cells #[.int .i64 x', .int .i64 y'] T (0, 0)) := by
  simp [World.setCell, Array.getElem?_modify, h]
theorem Out.set2 {lo hi : Nat} {a w : World} (h : Out lo hi a w) {b o o' : Nat} (hp : (lo ≤ b ∧ b < hi) ∨ a.heap.size ≤ b) (x y : Value) : Out lo hi a ((w.setCell ⟨b, o, none⟩ x).setCell ⟨b, o', none⟩ y) :=
  (h.setCell (p := ⟨b, o, none⟩) hp x).setCell (p := ⟨b, o', none⟩) hp y
def bz : Obj := .cells #[.int .i64 0, .int .i64 0, .int .i64 0, .int .i64 0, .int .i64 0] 49
def bo (a k z x t : Int) : Obj := .cells #[.int .i64 a, .int .i64 k, .int .i64 z, .int .i64 x, .int .i64 t] 49
def fz : Obj := .cells #[.int .i64 0, .int .i64 0] 34
theorem bo_facts {w : World} {g : Nat} {a k z x t : Int} (h : w.heap[g]? = some (bo a k z x t)) :
    w.cell? ⟨g, 0, none⟩ = some (.int .i64 a) ∧ w.cell? ⟨g, 1, none⟩ = some (.int .i64 k) ∧ w.cell? ⟨g, 2, none⟩ = some (.int .i64 z) ∧ w.cell? ⟨g, 3, none⟩ = some (.int .i64 x) ∧ w.cell? ⟨g, 4, none⟩ = some (.int .i64 t) := by
  unfold bo at h
  refine ⟨?_, ?_, ?_, ?_, ?_⟩ <;> simp [World.cell?, h]
set_option maxHeartbeats 1000000 in
theorem check_any (h : RawAt w lo hi s n cap r) (hM : InArena n r) (a : Int) : Calls Tryd.prog 32 #[.pointer (some ⟨s 14, 0, none⟩), .int .i64 a] w fun e w' => e = .returned (fltV (chkE r a) (chkA r a)) ∧ Out 0 0 w w' := by
  have h0 : Out 0 0 w (w.alloc (.cells #[.int .i64 0, .int .i64 0] 34)) := (Out.refl 0 0 w).alloc _
  have hz : (w.alloc (.cells #[.int .i64 0, .int .i64 0] 34)).heap[w.heap.size]? = some (.cells #[.int .i64 0, .int .i64 0] 34 (0, 0)) := heap_alloc_new _ _
  have HZ := hid_mk hz
  have H0 := hid_mk h0
  cases hm : r.M a with
  | none =>
    have HB := hid_mk (block_none (h.quiet h0) hm)
    have e1 : chkE r a = 22 := by unfold chkE; rw [hm]
    have e2 : chkA r a = 0 := by unfold chkA; rw [hm]
    rw [e1, e2]
    clear h hM hm e1 e2 h0 hz
    go_enter Tryd.func32, Tryd.ntmps32
    go_wp2_with (go_at_call 31; refine HB.out.mono ?_; rintro e w1 ⟨rfl, ho⟩; obtain ⟨q0, q1, q2, q3⟩ := flt_facts ((ho.alloc (.cells #[.int .i64 0, .int .i64 0, .int .i64 0, .int .i64 0, .int .i64 0] 49)).heap HZ.out (.inr (Nat.zero_le _))); have HO := hid_mk ho; clear ho)
    refine retFlt Tryd.results32 rfl rfl (flt_set ((HO.out.alloc _).heap HZ.out (.inr (Nat.zero_le _)))) ⟨rfl, ((H0.out.trans HO.out).alloc _).set2 (.inr (Nat.le_refl _)) _ _⟩
  | some b =>
    obtain ⟨k, z, x, t⟩ := b
    obtain ⟨a0, a1', a2', a3'⟩ := hM a _ hm
    have a1 : a < 64 * n := by simp only at a1' a2'; omega
    clear a1' a2' a3'
    obtain ⟨c, rfl⟩ : ∃ c : Nat, a = c := ⟨a.toNat, by omega⟩
    have HB := hid_mk (block_some (h.quiet h0) hm)
    have HH := hid_mk (fun w' (o : Out 0 0 w w') => headed_any (h.quiet o) (a := c) (by omega) k z x t)
    have e1 : chkE r (c : Int) = if r.W c = makeV c k z then 0 else 21 := by unfold chkE; rw [hm]; rfl
    have e2 : chkA r (c : Int) = if r.W c = makeV c k z then 0 else (c : Int) := by unfold chkA; rw [hm]; rfl
    rw [e1, e2]
    have b0 : (0 : Int) ≤ (c : Int) := by omega
    generalize hcc : (c : Int) = a at *
    by_cases hv : r.W c = makeV a k z
    · rw [if_pos hv, if_pos hv]
      have hb : (r.W c == makeV a k z) = true := by simp [hv]
      rw [hb] at HH
      clear h hM hm e1 e2 h0 hz hv hb a1
      go_enter Tryd.func32, Tryd.ntmps32
      go_wp2_with (first
        | (go_at_call 31; refine HB.out.mono ?_; rintro e w1 ⟨rfl, ho⟩; obtain ⟨q0, q1, q2, q3⟩ := flt_facts ((ho.alloc (.cells #[.int .i64 a, .int .i64 k, .int .i64 z, .int .i64 x, .int .i64 t] 49)).heap HZ.out (.inr (Nat.zero_le _))); have HO := hid_mk (ho.alloc (.cells #[.int .i64 a, .int .i64 k, .int .i64 z, .int .i64 x, .int .i64 t] 49)); clear ho)
        | (go_at_call 48; refine (HH.out _ (H0.out.trans HO.out)).mono ?_; rintro e w2 ⟨rfl, ho⟩; obtain ⟨q4, q5, q6, q7⟩ := flt_facts ((HO.out.trans ho).heap HZ.out (.inr (Nat.zero_le _))); have HO2 := hid_mk (HO.out.trans ho); clear ho q0 q1 q2 q3))
      refine retFlt Tryd.results32 rfl rfl (flt_set (HO2.out.heap HZ.out (.inr (Nat.zero_le _)))) ⟨rfl, (H0.out.trans HO2.out).set2 (.inr (Nat.le_refl _)) _ _⟩
    · rw [if_neg hv, if_neg hv]
      have hb : (r.W c == makeV a k z) = false := by simp [hv]
      rw [hb] at HH
      clear h hM hm e1 e2 h0 hz hv hb a1
      go_enter Tryd.func32, Tryd.ntmps32
      go_wp2_with (first
        | (go_at_call 31; refine HB.out.mono ?_; rintro e w1 ⟨rfl, ho⟩; obtain ⟨q0, q1, q2, q3⟩ := flt_facts ((ho.alloc (.cells #[.int .i64 a, .int .i64 k, .int .i64 z, .int .i64 x, .int .i64 t] 49)).heap HZ.out (.inr (Nat.zero_le _))); have HO := hid_mk (ho.alloc (.cells #[.int .i64 a, .int .i64 k, .int .i64 z, .int .i64 x, .int .i64 t] 49)); clear ho)
        | (go_at_call 48; refine (HH.out _ (H0.out.trans HO.out)).mono ?_; rintro e w2 ⟨rfl, ho⟩; obtain ⟨q4, q5, q6, q7⟩ := flt_facts ((HO.out.trans ho).heap HZ.out (.inr (Nat.zero_le _))); have HO2 := hid_mk (HO.out.trans ho); clear ho q0 q1 q2 q3))
      refine retFlt Tryd.results32 rfl rfl (flt_set (HO2.out.heap HZ.out (.inr (Nat.zero_le _)))) ⟨rfl, (H0.out.trans HO2.out).set2 (.inr (Nat.le_refl _)) _ _⟩
def wrdE (r : Raw) (a i : Int) : Int := match r.M a with | none => 22 | some b => if r.W a.toNat = makeV a b.1 b.2.1 then (if i < 1 ∨ b.2.1 ≤ i then 23 else 0) else 21
end
end Go.Proofs.YtcpignkjlnjjmaaDoor
namespace Go.Proofs.YtcpignkjlnjjmaaDoor
open Go.RowKit
set_option linter.unusedVariables false
set_option linter.unusedSimpArgs false

theorem out_below {w w' : World} (h : Below w.heap.size w w') : Out 0 0 w w' := ⟨h.os, h.tape, h.output, h.size, fun k hk _ => h.block k hk⟩
theorem out_flt (w : World) (g : Nat) (y0 y1 : Value) : Out g (g + 1) w ((w.setCell ⟨g, 0, none⟩ y0).setCell ⟨g, 1, none⟩ y1) :=
  ((Out.refl _ _ _).setCell (p := ⟨g, 0, none⟩) (.inl ⟨Nat.le_refl _, Nat.lt_succ_self _⟩) _).setCell (p := ⟨g, 1, none⟩) (.inl ⟨Nat.le_refl _, Nat.lt_succ_self _⟩) _
theorem catchMake_idle {g : Nat} {x y : Int} {w : World} (hg : w.heap[g]? = some (.cells #[.int .i64 x, .int .i64 y] 34 (0, 0))) :
    CallsD Tryd.prog 25 #[.pointer (some ⟨g, 0, none⟩)] .returning w fun e u' w' => e = .returned (.tuple #[]) ∧ u' = .returning ∧ w'.heap[g]? = some (.cells #[.int .i64 0, .int .i64 0] 34 (0, 0)) ∧ Out g (g + 1) w w' := by
  refine callsD_of_wpS Tryd.func25 rfl fun c₀ cs hu => ?_
  apply wpS_region
  simp [wpOpsS, go_sem, recoverD, hu, Tryd.ntmps25, Exit.thenS]
  refine (caught_nil w).mono ?_
  rintro e w1 ⟨rfl, o1⟩
  have h1 := o1.heap hg (.inr (Nat.zero_le _))
  obtain ⟨a1, a2, a3, a4⟩ := flt_facts h1
  have h2 := flt_set (x' := 0) (y' := 0) h1
  have h3 := (o1.any g (g + 1)).trans (out_flt w1 g (.int .i64 0) (.int .i64 0))
  have c2 : (w1.setCell ⟨g, 0, none⟩ (.int .i64 0)).cell? ⟨g, 1, none⟩ = some (.int .i64 y) := by simp [World.cell?, World.setCell, Array.getElem?_modify, h1]
  have c3 : (w1.setCell ⟨g, 0, none⟩ (.int .i64 0)).frozen? ⟨g, 1, none⟩ = false := by simp [World.frozen?, World.setCell, Array.getElem?_modify, h1]
  simp [go_sem, storeCells, a1, a2, a3, a4, c2, c3, bodyPostS, results, Tryd.results25]
  cases c₀
  simp_all
theorem catchMake_stop {g : Nat} {x y e a : Int} {older : List PanicEntry} {w : World} (hg : w.heap[g]? = some (.cells #[.int .i64 x, .int .i64 y] 34 (0, 0))) :
    CallsD Tryd.prog 25 #[.pointer (some ⟨g, 0, none⟩)] (.panicking (stopP e a :: older)) w fun e' u' w' => e' = .returned (.tuple #[]) ∧ u' = .panicking ({ v := .iface 72 (.agg #[.int .i64 e, .int .i64 a]), recovered := true } :: older) ∧ w'.heap[g]? = some (.cells #[.int .i64 e, .int .i64 a] 34 (0, 0)) ∧ Out g (g + 1) w w' := by
  refine callsD_of_wpS Tryd.func25 rfl fun c₀ cs hu => ?_
  apply wpS_region
  unfold stopP at hu
  simp [wpOpsS, go_sem, recoverD, hu, Tryd.ntmps25, Exit.thenS]
  refine (caught_stop e a w).mono ?_
  rintro e' w1 ⟨rfl, o1⟩
  have h1 := o1.heap hg (.inr (Nat.zero_le _))
  obtain ⟨a1, a2, a3, a4⟩ := flt_facts h1
  have h2 := flt_set (x' := e) (y' := a) h1
  have h3 := (o1.any g (g + 1)).trans (out_flt w1 g (.int .i64 e) (.int .i64 a))
  have c2 : (w1.setCell ⟨g, 0, none⟩ (.int .i64 e)).cell? ⟨g, 1, none⟩ = some (.int .i64 y) := by simp [World.cell?, World.setCell, Array.getElem?_modify, h1]
  have c3 : (w1.setCell ⟨g, 0, none⟩ (.int .i64 e)).frozen? ⟨g, 1, none⟩ = false := by simp [World.frozen?, World.setCell, Array.getElem?_modify, h1]
  simp [go_sem, storeCells, a1, a2, a3, a4, c2, c3, bodyPostS, results, Tryd.results25]
  exact ⟨h2, h3⟩
theorem catchGet_idle {g : Nat} {x y : Int} {w : World} (hg : w.heap[g]? = some (.cells #[.int .i64 x, .int .i64 y] 34 (0, 0))) :
    CallsD Tryd.prog 11 #[.pointer (some ⟨g, 0, none⟩)] .returning w fun e u' w' => e = .returned (.tuple #[]) ∧ u' = .returning ∧ w'.heap[g]? = some (.cells #[.int .i64 0, .int .i64 0] 34 (0, 0)) ∧ Out g (g + 1) w w' := by
  refine callsD_of_wpS Tryd.func11 rfl fun c₀ cs hu => ?_
  apply wpS_region
  simp [wpOpsS, go_sem, recoverD, hu, Tryd.ntmps11, Exit.thenS]
  refine (caught_nil w).mono ?_
  rintro e w1 ⟨rfl, o1⟩
  have h1 := o1.heap hg (.inr (Nat.zero_le _))
  obtain ⟨a1, a2, a3, a4⟩ := flt_facts h1
  have h2 := flt_set (x' := 0) (y' := 0) h1
  have h3 := (o1.any g (g + 1)).trans (out_flt w1 g (.int .i64 0) (.int .i64 0))
  have c2 : (w1.setCell ⟨g, 0, none⟩ (.int .i64 0)).cell? ⟨g, 1, none⟩ = some (.int .i64 y) := by simp [World.cell?, World.setCell, Array.getElem?_modify, h1]
  have c3 : (w1.setCell ⟨g, 0, none⟩ (.int .i64 0)).frozen? ⟨g, 1, none⟩ = false := by simp [World.frozen?, World.setCell, Array.getElem?_modify, h1]
  simp [go_sem, storeCells, a1, a2, a3, a4, c2, c3, bodyPostS, results, Tryd.results11]
  cases c₀
  simp_all
theorem catchGet_stop {g : Nat} {x y e a : Int} {older : List PanicEntry} {w : World} (hg : w.heap[g]? = some (.cells #[.int .i64 x, .int .i64 y] 34 (0, 0))) :
    CallsD Tryd.prog 11 #[.pointer (some ⟨g, 0, none⟩)] (.panicking (stopP e a :: older)) w fun e' u' w' => e' = .returned (.tuple #[]) ∧ u' = .panicking ({ v := .iface 72 (.agg #[.int .i64 e, .int .i64 a]), recovered := true } :: older) ∧ w'.heap[g]? = some (.cells #[.int .i64 e, .int .i64 a] 34 (0, 0)) ∧ Out g (g + 1) w w' := by
  refine callsD_of_wpS Tryd.func11 rfl fun c₀ cs hu => ?_
  apply wpS_region
  unfold stopP at hu
  simp [wpOpsS, go_sem, recoverD, hu, Tryd.ntmps11, Exit.thenS]
  refine (caught_stop e a w).mono ?_
  rintro e' w1 ⟨rfl, o1⟩
  have h1 := o1.heap hg (.inr (Nat.zero_le _))
  obtain ⟨a1, a2, a3, a4⟩ := flt_facts h1
  have h2 := flt_set (x' := e) (y' := a) h1
  have h3 := (o1.any g (g + 1)).trans (out_flt w1 g (.int .i64 e) (.int .i64 a))
  have c2 : (w1.setCell ⟨g, 0, none⟩ (.int .i64 e)).cell? ⟨g, 1, none⟩ = some (.int .i64 y) := by simp [World.cell?, World.setCell, Array.getElem?_modify, h1]
  have c3 : (w1.setCell ⟨g, 0, none⟩ (.int .i64 e)).frozen? ⟨g, 1, none⟩ = false := by simp [World.frozen?, World.setCell, Array.getElem?_modify, h1]
  simp [go_sem, storeCells, a1, a2, a3, a4, c2, c3, bodyPostS, results, Tryd.results11]
  exact ⟨h2, h3⟩
theorem catchSet_idle {g : Nat} {x y : Int} {w : World} (hg : w.heap[g]? = some (.cells #[.int .i64 x, .int .i64 y] 34 (0, 0))) :
    CallsD Tryd.prog 20 #[.pointer (some ⟨g, 0, none⟩)] .returning w fun e u' w' => e = .returned (.tuple #[]) ∧ u' = .returning ∧ w'.heap[g]? = some (.cells #[.int .i64 0, .int .i64 0] 34 (0, 0)) ∧ Out g (g + 1) w w' := by
  refine callsD_of_wpS Tryd.func20 rfl fun c₀ cs hu => ?_
  apply wpS_region
  simp [wpOpsS, go_sem, recoverD, hu, Tryd.ntmps20, Exit.thenS]
  refine (caught_nil w).mono ?_
  rintro e w1 ⟨rfl, o1⟩
  have h1 := o1.heap hg (.inr (Nat.zero_le _))
  obtain ⟨a1, a2, a3, a4⟩ := flt_facts h1
  have h2 := flt_set (x' := 0) (y' := 0) h1
  have h3 := (o1.any g (g + 1)).trans (out_flt w1 g (.int .i64 0) (.int .i64 0))
  have c2 : (w1.setCell ⟨g, 0, none⟩ (.int .i64 0)).cell? ⟨g, 1, none⟩ = some (.int .i64 y) := by simp [World.cell?, World.setCell, Array.getElem?_modify, h1]
  have c3 : (w1.setCell ⟨g, 0, none⟩ (.int .i64 0)).frozen? ⟨g, 1, none⟩ = false := by simp [World.frozen?, World.setCell, Array.getElem?_modify, h1]
  simp [go_sem, storeCells, a1, a2, a3, a4, c2, c3, bodyPostS, results, Tryd.results20]
  cases c₀
  simp_all
theorem catchSet_stop {g : Nat} {x y e a : Int} {older : List PanicEntry} {w : World} (hg : w.heap[g]? = some (.cells #[.int .i64 x, .int .i64 y] 34 (0, 0))) :
    CallsD Tryd.prog 20 #[.pointer (some ⟨g, 0, none⟩)] (.panicking (stopP e a :: older)) w fun e' u' w' => e' = .returned (.tuple #[]) ∧ u' = .panicking ({ v := .iface 72 (.agg #[.int .i64 e, .int .i64 a]), recovered := true } :: older) ∧ w'.heap[g]? = some (.cells #[.int .i64 e, .int .i64 a] 34 (0, 0)) ∧ Out g (g + 1) w w' := by
  refine callsD_of_wpS Tryd.func20 rfl fun c₀ cs hu => ?_
  apply wpS_region
  unfold stopP at hu
  simp [wpOpsS, go_sem, recoverD, hu, Tryd.ntmps20, Exit.thenS]
  refine (caught_stop e a w).mono ?_
  rintro e' w1 ⟨rfl, o1⟩
  have h1 := o1.heap hg (.inr (Nat.zero_le _))
  obtain ⟨a1, a2, a3, a4⟩ := flt_facts h1
  have h2 := flt_set (x' := e) (y' := a) h1
  have h3 := (o1.any g (g + 1)).trans (out_flt w1 g (.int .i64 e) (.int .i64 a))
  have c2 : (w1.setCell ⟨g, 0, none⟩ (.int .i64 e)).cell? ⟨g, 1, none⟩ = some (.int .i64 y) := by simp [World.cell?, World.setCell, Array.getElem?_modify, h1]
  have c3 : (w1.setCell ⟨g, 0, none⟩ (.int .i64 e)).frozen? ⟨g, 1, none⟩ = false := by simp [World.frozen?, World.setCell, Array.getElem?_modify, h1]
  simp [go_sem, storeCells, a1, a2, a3, a4, c2, c3, bodyPostS, results, Tryd.results20]
  exact ⟨h2, h3⟩
end Go.Proofs.YtcpignkjlnjjmaaDoor
