/- layout.Fields -/
import Derived.Test.YtoajgbgmiionpaaDoorYd
import Derived.Deep.AppendLies
namespace Go.Proofs.YtoajgbgmiionpaaDoor
open Go.RowKit
set_option linter.unusedVariables false
set_option linter.unusedSimpArgs false

/-- the words below p whose role is not raw, rising -/
def fl (k : Int) (p : Nat) : List Nat := (List.range p).filter fun j => decide (1 ≤ j) && (roleW k j != 1)
theorem fl_one (k : Int) : fl k 1 = [] := by simp [fl, List.range_succ]
theorem fl_in {k : Int} {p : Nat} (h : 1 ≤ p) (hr : roleW k p ≠ 1) : fl k (p + 1) = fl k p ++ [p] := by
  unfold fl
  rw [List.range_succ, List.filter_append]
  simp [h, hr]
theorem fl_out {k : Int} {p : Nat} (hr : roleW k p = 1) : fl k (p + 1) = fl k p := by
  unfold fl
  rw [List.range_succ, List.filter_append]
  simp [hr]
theorem fl_len (k : Int) (p : Nat) : (fl k p).length ≤ p := by
  unfold fl
  exact Nat.le_trans (List.length_filter_le _ _) (by simp)
def flds (k s : Int) : List Nat := if fitsB k s then fl k s.toNat else []
def ints (l : List Nat) : List Value := l.map (fun (x : Nat) => Value.int .i64 (x : Int))
theorem fits_le {k s : Int} (h : fitsB k s = true) : 1 ≤ s ∧ s ≤ 1024 := by
  obtain ⟨hk, a, b, c⟩ := fitsB_iff.1 h
  obtain ⟨j, rfl, j1, j2⟩ := known_nat hk
  obtain ⟨w1, w2, w3, w4, w5, w6, w7⟩ := wd_mo j1 j2
  rcases kinds j1 j2 with rfl | rfl | rfl | rfl | rfl | rfl | rfl | rfl | rfl | rfl | rfl | rfl | rfl <;> (simp [wd, mo, partW] at a b; omega)
theorem info_int : (Tryd.prog.info? 3).map (fun i => (i.zero, i.size, i.bytes)) = some (some (.int .i64 0), 1, 8) := by kernel_rfl
theorem own_kept {w w' : World} {v : Value} {base k lo hi : Nat} {xs : List Value} {T : TypeId} (h : w.ownsRow base T 1 v k xs) (o : Out lo hi w w') (hd : hi ≤ base) : w'.ownsRow base T 1 v k xs := by
  obtain ⟨hlen, hcase⟩ := h
  refine ⟨hlen, ?_⟩
  rcases hcase with ⟨hv, h0⟩ | ⟨g, cap', cur, rfl, hg1, hg2, hg3⟩
  · exact .inl ⟨hv, h0⟩
  · exact .inr ⟨g, cap', cur, rfl, hg1, o.heap hg2 (.inr (by omega)), hg3⟩
theorem own_out {w w' : World} {v : Value} {base k : Nat} {xs : List Value} {T : TypeId} (h : w.ownsRow base T 1 v k xs) (hg : w.grownBy w' v.ownBlock) : Out base w.heap.size w w' :=
  ⟨hg.os, hg.tape, hg.output, hg.size, fun j h1 h2 => hg.block j h1 (fun e => by have := (h.lt j e.symm).1; omega)⟩
theorem info_parts {T : TypeId} {z : Value} {a b : Nat} (h : (Tryd.prog.info? T).map (fun i => (i.zero, i.size, i.bytes)) = some (some z, a, b)) : ∃ i, Tryd.prog.info? T = some i ∧ i.zero = some z ∧ i.size = a ∧ i.bytes = b := by
  cases hi : Tryd.prog.info? T with
  | none => rw [hi] at h; cases h
  | some i => rw [hi] at h; simp at h; exact ⟨i, rfl, h.1, h.2.1, h.2.2⟩
/-- the list as an answer -/
def ListIs (w : World) (base : Nat) (v : Value) (l : List Nat) : Prop := w.ownsRow base 3 1 v l.length (ints l)
theorem ListIs.nil (w : World) (base : Nat) : ListIs w base (.slice none 0 0) [] := World.ownsRow_nil _ _ _ _
theorem ListIs.kept {w w' : World} {base lo hi : Nat} {v : Value} {l : List Nat} (h : ListIs w base v l) (o : Out lo hi w w') (hd : hi ≤ base) : ListIs w' base v l := own_kept h o hd
set_option maxHeartbeats 1000000 in
theorem fields_any (k s : Int) {w : World} (hT : Tab w) (s1 : -9223372036854775808 ≤ s) (s2 : s ≤ 9223372036854775807) :
    Calls Tryd.prog 13 #[.int .i64 k, .int .i64 s] w fun e w' => ∃ v, e = .returned v ∧ ListIs w' w.heap.size v (flds k s) ∧ Out 0 0 w w' := by
  have HF := hid_mk (fits_any k s hT s1 s2)
  clear s1 s2
  cases hf : fitsB k s
  · rw [hf] at HF
    have e : flds k s = [] := by unfold flds; rw [hf]; rfl
    rw [e]
    clear e hf
    go_enter Tryd.func13, Tryd.ntmps13
    go_wp2_with (go_at_call 19; refine calls_same HF.out ?_)
    go_ret
    exact ⟨_, rfl, ListIs.nil _ _, Out.refl _ _ _⟩
  · rw [hf] at HF
    obtain ⟨b1, b2⟩ := fits_le hf
    have e : flds k s = fl k s.toNat := by unfold flds; rw [hf]; rfl
    rw [e]
    obtain ⟨q, rfl⟩ : ∃ q : Nat, s = q := ⟨s.toNat, by omega⟩
    rw [show ((q : Nat) : Int).toNat = q from by omega]
    have HR := hid_mk (role_any k)
    obtain ⟨i0, hi0, hz0, hz1, hz2⟩ := info_parts info_int
    have HQ : Hid (1 ≤ q ∧ q ≤ 1024) := by show _ ∧ _; omega
    clear e hf b1 b2
    go_enter Tryd.func13, Tryd.ntmps13
    go_wp2_with (go_at_call 19; refine calls_same HF.out ?_)
    go_loopw [5, 6] (fun o x wr => ∃ p : Nat, 1 ≤ p ∧ p ≤ q ∧ x = .int .i64 p ∧ ListIs wr w.heap.size o (fl k p) ∧ Out 0 0 w wr) (fun _ x _ => q - (intOf x).toNat)
    case atStart => exact ⟨1, Nat.le_refl _, HQ.out.1, rfl, by rw [fl_one]; exact ListIs.nil _ _, Out.refl _ _ _⟩
    case round =>
      obtain ⟨p, p1, p2, rfl, hl, ho⟩ := hrel
      have HL := hid_mk hl
      have HO := hid_mk ho
      have p0 : (0 : Int) ≤ (p : Int) := by omega
      have HP := hid_mk p1
      clear hl ho p1
      by_cases hgo : p < q
      · have g1 : (p : Int) < (q : Int) := by omega
        have g2 : (q : Int) ≤ 1024 := by have := HQ.out; omega
        obtain ⟨r, hr⟩ : ∃ r, roleW k p = r := ⟨_, rfl⟩
        have HRp := hid_mk (fun w => role_any k p w)
        rw [hr] at HRp
        by_cases h1 : r = 1
        · have hn : (r != 1) = false := by simp [h1]
          have HE := hid_mk (fl_out (h1 ▸ hr))
          clear hr h1
          go_wp2_with (go_at_call 28; refine calls_same (HRp.out _) ?_)
          go_roundw
          case rel => exact ⟨p + 1, by omega, by omega, by go_num, by rw [HE.out]; exact HL.out, HO.out⟩
          case measure => simp [intOf]; omega
        · have hn : (r != 1) = true := by simp [h1]
          have HE := hid_mk (fl_in HP.out (by rw [hr]; exact h1))
          clear hr h1
          have HW : Hid (w.heap.size ≤ wr.heap.size) := HO.out.size
          go_wp2_with (first | (go_at_call 28; refine calls_same (HRp.out _) ?_) | (at_builtin; refine wpList_append_lies _ rfl _ _ 26 rfl w.heap.size 3 i0 (.int .i64 0) 1 8 Tryd.underlying26 hi0 hz0 hz1 hz2 rfl (by decide) _ _ _ rfl (HL.out.kept ((Out.refl 0 0 _).alloc _) (Nat.zero_le _)) ⟨wr.heap.size, 0, none⟩ 1 1 [.int .i64 p] rfl rfl (cell_one_new _ _ _) ?c2 (by decide) ?c3 ?c4 ?c5 _ rfl ?_))
          case c2 => intro u hu; simp at hu; subst hu; rfl
          case c3 => unfold maxLen; have := fl_len k p; omega
          case c4 => have := fl_len k p; omega
          case c5 => have := HW.out; simp; omega
          intro g cap w1 hown hgrow hat hlt
          have hO1 := own_out (HL.out.kept ((Out.refl 0 0 _).alloc _) (Nat.zero_le _)) hgrow
          have HO1 : Hid (Out 0 0 w w1) := (HO.out.trans ((Out.refl 0 0 _).alloc _)).past hO1 (Nat.le_refl _)
          have HL1 : Hid (ListIs w1 w.heap.size (.slice (some ⟨g, 0, none⟩) ((fl k p).length + 1) cap) (fl k (p + 1))) := by
            show World.ownsRow _ _ _ _ _ _ _
            rw [HE.out, List.length_append]
            have : ints (fl k p ++ [p]) = ints (fl k p) ++ [.int .i64 p] := by simp [ints]
            rw [this]
            exact hown
          generalize (fl k p).length + 1 = ln at *
          clear hown hgrow hat hlt hO1
          go_wp2
          go_roundw
          case rel => exact ⟨p + 1, by omega, by omega, by go_num, HL1.out, HO1.out⟩
          case measure => simp [intOf]; omega
      · have g1 : (q : Int) ≤ (p : Int) := by omega
        have : p = q := by omega
        subst this
        clear hgo
        go_wp2
        go_ret
        exact ⟨_, rfl, HL.out, HO.out⟩
end Go.Proofs.YtoajgbgmiionpaaDoor
