import Derived.Shelf.Bits.Mul64
import Derived.Test.YtkghabmgofgclaaDoorProg
import Derived.Test.YtkghabmgofgclaaDoorQal
import Derived.Laws.MakeOwn
import Derived.Deep.OwnRows
namespace Go.Proofs
open Go.Shelf
def Tryd.lays212_ren : Go.Shelf.Ren := ⟨fun | 212 => 100 | 263 => 108 | 264 => 109 | n => n, fun | 46 => 176 | 51 => 180 | 146 => 181 | 53 => 122 | 148 => 183 | n => n, fun | n => n⟩
theorem Tryd.lays212 : Go.Proofs.Lays.n212 Tryd.prog Tryd.lays212_ren := {
  mixed := by kernel_rfl
  f212 := Tryd.func100.trans (congrArg some (by kernel_rfl))
  f263 := Tryd.func108.trans (congrArg some (by kernel_rfl))
  f264 := Tryd.func109.trans (congrArg some (by kernel_rfl))
  t46 := Tryd.underlying176
  a46 := Tryd.isAgg176
  z46 := Tryd.sizeOf176
  v46 := Tryd.zeroValue176
  t51 := Tryd.underlying180
  a51 := Tryd.isAgg180
  z51 := Tryd.sizeOf180
  v51 := Tryd.zeroValue180
  t53 := Tryd.underlying122
  a53 := Tryd.isAgg122
  z53 := Tryd.sizeOf122
  v53 := Tryd.zeroValue122
  t146 := Tryd.underlying181
  a146 := Tryd.isAgg181
  z146 := Tryd.sizeOf181
  v146 := Tryd.zeroValue181
  t148 := Tryd.underlying183
  a148 := Tryd.isAgg183
  z148 := Tryd.sizeOf183
  v148 := Tryd.zeroValue183 }
open Go.RowKit Go.Lib in
theorem Tryd.bits_Mul (x y : Nat) (hx : x < 18446744073709551616) (hy : y < 18446744073709551616) (w : World) :
    Calls Tryd.prog 100 #[.int .u64 x, .int .u64 y] w fun e w' => e = .returned (.tuple #[.int .u64 ((x * y / 18446744073709551616 : Nat) : Int), .int .u64 ((x * y % 18446744073709551616 : Nat) : Int)]) ∧ w' = w := Any.bits_Mul Tryd.lays212 x y hx hy w
end Go.Proofs
namespace Go.Proofs.YtkghabmgofgclaaDoor
open Go.RowKit
set_option linter.unusedVariables false
set_option linter.unusedSimpArgs false

theorem mul_one {n : Nat} (hn : n ≤ 4096) (w : World) : Calls Tryd.prog 100 #[.int .u64 1, .int .u64 n] w fun e w' => e = .returned (.tuple #[.int .u64 0, .int .u64 n]) ∧ w' = w := by
  refine (Tryd.bits_Mul 1 n (by omega) (by omega) w).mono fun e w' ⟨h1, h2⟩ => ⟨?_, h2⟩
  rw [h1, Nat.one_mul, Nat.div_eq_of_lt (by omega), Nat.mod_eq_of_lt (by omega)]
  rfl
/-- a row whose first m numbers are v -/
def RepAt (w : World) (g n m : Nat) (v : Int) : Prop := ∃ cur, Bl w g cur 3 ∧ cur.size = n ∧ ∀ j, j < m → cur[j]? = some (.int .i64 v)
theorem copy_first {w : World} {g n ub : Nat} {v : Int} {cur : Array Value} (hg : Bl w g cur 3) (hs : cur.size = n) (h0 : 0 < n) (hx : Bl w ub #[.int .i64 v] 3) : ∃ w', (Builtin.copy_ #[68, 68] 3 #[.slice (some ⟨g, 0, none⟩) n n, .slice (some ⟨ub, 0, none⟩) 1 1]).run Tryd.prog w = .ok (.int .i64 1) w' ∧ RepAt w' g n 1 v ∧ Fx (fun k => k = g) w w' := by
  have hr := run_copy_cells (P := Tryd.prog) w 68 68 3 3 g 0 n n ⟨ub, 0, none⟩ 1 1 [.int .i64 v] Tryd.underlying68 (by kernel_rfl) (by simp [Nat.min_def]; omega) (fun j u hj => by
    cases j with
    | zero => simp at hj; subst hj; exact hx.cell rfl
    | succ j => simp at hj) (fun j hj => by
    simp at hj
    subst hj
    rw [hg.cell (i := 0 + 0) (Array.getElem?_eq_getElem (by omega))]; rfl) (fun j _ => hg.frozen _) (by intro u hu; simp at hu; subst hu; rfl)
  refine ⟨_, hr, ?_, Fx.sets (S := fun k => k = g) (.inl rfl) _ _ _ (Fx.refl _ w)⟩
  obtain ⟨c1, b1, e1⟩ := Bl.sets [.int .i64 v] 0 w cur hg (by simp; omega)
  refine ⟨c1, b1, ?_, fun j hj => ?_⟩
  · have := congrArg List.length e1
    simp at this
    omega
  · obtain rfl : j = 0 := by omega
    have : c1.toList[0]? = some (.int .i64 v) := by rw [e1]; simp
    simpa using this
theorem copy_more {w : World} {g n m : Nat} {v : Int} (h : RepAt w g n m v) (hm : 0 < m) (hmn : m < n) : ∃ (c : Nat) (w' : World), (Builtin.copy_ #[68, 68] 3 #[.slice (some ⟨g, m, none⟩) (n - m) (n - m), .slice (some ⟨g, 0, none⟩) m n]).run Tryd.prog w = .ok (.int .i64 c) w' ∧ 0 < c ∧ m + c ≤ n ∧ RepAt w' g n (m + c) v ∧ Fx (fun k => k = g) w w' := by
  obtain ⟨cur, hg, hs, hv⟩ := h
  obtain ⟨c, hc⟩ : ∃ c, Nat.min m (n - m) = c := ⟨_, rfl⟩
  have hc1 : 0 < c ∧ c ≤ m ∧ m + c ≤ n := by
    rw [← hc]
    have h1 := Nat.min_le_left m (n - m)
    have h2 := Nat.min_le_right m (n - m)
    have h3 : 0 < Nat.min m (n - m) := Nat.lt_min.2 ⟨hm, by omega⟩
    exact ⟨h3, h1, by have : Nat.min m (n - m) ≤ n - m := h2; omega⟩
  have hr := run_copy_cells (P := Tryd.prog) w 68 68 3 3 g m (n - m) (n - m) ⟨g, 0, none⟩ m n (List.replicate c (.int .i64 v)) Tryd.underlying68 (by kernel_rfl) (by rw [List.length_replicate]; exact hc.symm) (fun j u hj => by
    rw [List.getElem?_replicate] at hj
    split at hj
    · rename_i hjc
      cases hj
      rw [Addr.add_lit]
      exact hg.cell (hv _ (by omega))
    · cases hj) (fun j hj => by
    rw [List.length_replicate] at hj
    rw [hg.cell (i := m + j) (Array.getElem?_eq_getElem (by omega))]; rfl) (fun j _ => hg.frozen _) (by intro u hu; rw [List.eq_of_mem_replicate hu]; rfl)
  rw [List.length_replicate] at hr
  refine ⟨c, _, hr, hc1.1, hc1.2.2, ?_, Fx.sets (S := fun k => k = g) (.inl rfl) _ _ _ (Fx.refl _ w)⟩
  obtain ⟨c1, b1, e1⟩ := Bl.sets (List.replicate c (.int .i64 v)) m w cur hg (by rw [List.length_replicate]; omega)
  refine ⟨c1, b1, ?_, fun j hj => ?_⟩
  · have := congrArg List.length e1
    simp at this
    omega
  · have : c1.toList[j]? = some (.int .i64 v) := by
      rw [e1, List.append_assoc]
      have hl : (cur.toList.take m).length = m := by rw [List.length_take, Array.length_toList]; omega
      by_cases hjm : j < m
      · rw [List.getElem?_append_left (by omega), List.getElem?_take_of_lt hjm]
        simpa using hv j hjm
      · rw [List.getElem?_append_right (by omega), hl, List.getElem?_append_left (by rw [List.length_replicate]; omega), List.getElem?_replicate, if_pos (by omega)]
    simpa using this
theorem rep_end {w : World} {g n : Nat} {v : Int} (h : RepAt w g n n v) : Bl w g (ivs (List.replicate n v)).toArray 3 := by
  obtain ⟨cur, hg, hs, hv⟩ := h
  have : cur = (ivs (List.replicate n v)).toArray := by
    apply Array.ext_getElem?
    intro j
    by_cases hj : j < n
    · rw [hv j hj, List.getElem?_toArray]
      exact (ivs_is (by rw [List.getElem?_replicate, if_pos hj])).symm
    · rw [Array.getElem?_eq_none (by omega), List.getElem?_toArray, List.getElem?_eq_none (by rw [ivs_len, List.length_replicate]; omega)]
  rw [← this]
  exact hg
theorem RepAt.drew {w : World} {g n m : Nat} {v : Int} (h : RepAt w g n m v) : RepAt w.drew g n m v := h
theorem add_w {m c n : Nat} (h : m + c ≤ n) (hn : n ≤ 4096) : IntKind.i64.wrap ((m : Int) + (c : Int)) = ((m + c : Nat) : Int) := by
  simp [IntKind.wrap, IntKind.signed, IntKind.bits]; omega
theorem ms_r {m c n : Nat} (hc : 0 < c) (h : m + c ≤ n) : n - (intOf (.int .i64 ((m + c : Nat) : Int))).toNat < n - (intOf (.int .i64 (m : Int))).toNat := by simp [intOf]; omega
set_option maxRecDepth 100000 in
set_option maxHeartbeats 1000000 in
theorem repeat_any {w : World} {n ub : Nat} {v : Int} (hn0 : 0 < n) (hn : n ≤ 4096) (hx : Bl w ub #[.int .i64 v] 3) :
    Calls Tryd.prog 88 #[.slice (some ⟨ub, 0, none⟩) 1 1, .int .i64 n] w fun e w' => ∃ dg, e = .returned (.slice (some ⟨dg, 0, none⟩) n n) ∧ Bl w' dg (ivs (List.replicate n v)).toArray 3 ∧ Out 0 0 w w' ∧ w.heap.size ≤ dg := by
  have hd : decide ((n : Int) < 0) = false := by simp
  have hcv : IntKind.u64.wrap (n : Int) = (n : Int) := by simp [IntKind.wrap, IntKind.signed, IntKind.bits]; omega
  have hc1 : IntKind.u64.wrap 1 = 1 := by decide
  have hw0 : wrap64 (n : Int) = (n : Int) := by unfold wrap64; omega
  have hbg : decide (9223372036854775807 < (n : Int)) = false := by simp; omega
  have hmk := run_make_row' (P := Tryd.prog) 68 3 (.int .i64 0) 8 Tryd.underlying68 (by kernel_rfl) rfl .i64 .i64 n (by omega) (by omega)
  obtain ⟨cur, hcur⟩ : ∃ cur, madeCells #[Value.int .i64 0] n = cur := ⟨_, rfl⟩
  have hcs : Hid (cur.size = n) := hid_mk (by rw [← hcur]; exact size_madeCells _ _)
  rw [hcur] at hmk
  have HM := hid_mk (mul_one hn)
  have HX := hid_mk hx
  have HN := hid_mk (And.intro hn0 hn)
  obtain ⟨g, hg⟩ : ∃ g, w.heap.size = g := ⟨_, rfl⟩
  obtain ⟨V, hcp, hrep, hfx⟩ := copy_first (Bl.new w cur 3) hcs.out hn0 (hx.alloc _)
  have HR : Hid (RepAt V g n 1 v) := hid_mk (by rw [← hg]; exact hrep)
  have HO : Hid (Out 0 0 w V) := hid_mk ⟨hfx.1, hfx.2.1, hfx.2.2.1, Nat.le_trans (by rw [size_alloc]; omega) hfx.size, fun z h1 _ => by
    rw [hfx.2.2.2.2 z (by rw [size_alloc]; omega) (by omega)]
    exact ((Out.refl 0 0 w).alloc (.cells cur 3)).block h1 (.inr (Nat.zero_le _))⟩
  have HG := hid_mk hg
  rw [hg] at hcp
  clear hx hn0 hn hrep hfx hcs hcur
  go_enter Tryd.func88, Tryd.ntmps88
  go_wp2_with (go_at_call 100; refine calls_same (HM.out _) ?_)
  (try rw [hg])
  clear hmk hcp hg hd hbg hcv hc1 hw0
  go_loopw [8] (fun x wr => ∃ m : Nat, x = .int .i64 m ∧ 0 < m ∧ m ≤ n ∧ RepAt wr g n m v ∧ Out 0 0 w wr) (fun x _ => n - (intOf x).toNat)
  case atStart => exact ⟨1, rfl, by decide, HN.out.1, HR.out, HO.out⟩
  case round =>
    obtain ⟨m, rfl, hm0, hmn, hrep, ho⟩ := hrel
    have HO1 := hid_mk ho
    have HR1 := hid_mk hrep
    by_cases hgo : m < n
    · have l1 := lt_dec hgo
      obtain ⟨l1, l2⟩ := l1
      obtain ⟨c, V2, hcp, hc0, hcn, hr2, hf2⟩ := copy_more hrep.drew hm0 hgo
      have hwz := add_w hcn HN.out.2
      have HC := hid_mk (And.intro hc0 hcn)
      have HR2 := hid_mk hr2
      have HF2 := hid_mk hf2
      have hmn2 : m ≤ n := hmn
      have hmn3 : (m : Int) ≤ (n : Int) := by omega
      have hne : ¬ n = m := by omega
      clear hrep ho hr2 hf2 hc0 hcn hgo hmn
      go_wp2
      refine wp_region_held_drew (S := fun _ => True) (by kernel_rfl) ?hS1 (fun hHeld => ?rest1)
      case hS1 => trivial
      refine tk 0 ?_
      refine tk 1 ?_
      refine tk 2 ?_
      refine tk 3 ?_
      refine tk 4 ?_
      refine tk 5 ?_
      refine tk 6 ?_
      refine wpAnyH_ready (rs := [7]) (by kernel_rfl) (by simp) ?_
      refine AllReadyH.cons rfl (fun KK hK => ?_) AllReadyH.nil
      simp only [xa, xb, xc]
      go_simp
      refine hK.out _ _ ?hS9 (fun hHeld2 => ?rest9)
      case hS9 => trivial
      clear hK KK
      (try clear hHeld)
      have hHeld := hHeld2
      clear hHeld2
      (try simp only [Act.put, xa, xb, xc, xd, xe, xf])
      refine tk 8 ?_
      refine tk 9 ?_
      refine wpAnyH_done (by kernel_rfl) ?_ _
      go_wp2
      go_roundw
      case rel => exact ⟨m + c, by rw [Int.natCast_add], Nat.add_pos_left (by assumption) _, HC.out.2, HR2.out, HO1.out.past (lo := g) (hi := g + 1) ⟨HF2.out.1, HF2.out.2.1, HF2.out.2.2.1, HF2.out.size, fun z h1 h2 => HF2.out.2.2.2.2 z h1 (by omega)⟩ (by have := HG.out; omega)⟩
      case measure =>
        have := ms_r HC.out.1 HC.out.2
        rw [Int.natCast_add] at this
        exact this
    · obtain rfl : m = n := by omega
      have l1 : decide ((m : Int) < (m : Int)) = false := by simp
      clear hgo hmn hrep ho
      go_wp2
      go_ret
      exact ⟨g, rfl, rep_end HR1.out, HO1.out, by have := HG.out; omega⟩
theorem ms_n {k n : Nat} (h : k < n) : n - (intOf (.int .i64 ((k + 1 : Nat) : Int))).toNat < n - (intOf (.int .i64 (k : Int))).toNat := by simp [intOf]; omega
set_option maxRecDepth 100000 in
theorem max_any {w : World} {g n c : Nat} {D : List Int} (hD : Bl w g (ivs D).toArray 3) (hl : D.length = n) (h0 : D[0]? = some 0) (hn : n ≤ 4096) :
    Calls Tryd.prog 72 #[.slice (some ⟨g, 0, none⟩) n c] w fun e w' => e = .returned (.int .i64 (mxL D)) ∧ w' = w := by
  have hn0 : 0 < n := by have := (List.getElem?_eq_some_iff.1 h0).1; omega
  have c0 := iv_cell hD h0
  have hd : decide ((n : Int) < 1) = false := by simp; omega
  have hd2 : decide (n < 1) = false := by simp; omega
  have hin : (0 : Int) < (n : Int) := by omega
  have HD := hid_mk hD
  have HL := hid_mk hl
  have HN := hid_mk hn
  have HM : Hid (mxL (D.take 1) = 0) := hid_mk (by
    rw [mx_take (k := 0) h0]
    simp [mxL])
  clear hD hl hn h0
  go_enter Tryd.func72, Tryd.ntmps72
  go_wp2
  go_loopw [3, 4] (fun a b wr => ∃ k : Nat, b = .int .i64 k ∧ 1 ≤ k ∧ k ≤ n ∧ a = .int .i64 (mxL (D.take k)) ∧ wr = w) (fun _ b _ => n - (intOf b).toNat)
  case atStart => exact ⟨1, rfl, Nat.le_refl _, hn0, by rw [HM.out], rfl⟩
  case round =>
    obtain ⟨k, rfl, hk1, hkn, rfl, rfl⟩ := hrel
    by_cases hgo : k < n
    · obtain ⟨l1, l2⟩ := lt_dec hgo
      obtain ⟨x, hx⟩ : ∃ x, D[k]? = some x := ⟨_, List.getElem?_eq_getElem (by have := HL.out; omega)⟩
      have ck := iv_cell HD.out hx
      have hmx := mx_take hx
      have hi2 : (k : Int) < (n : Int) := by omega
      have HX := hid_mk hmx
      have HK := hid_mk (And.intro hk1 hgo)
      generalize mxL (D.take k) = M at *
      clear hmx hx hgo hkn hk1
      go_wp2
      refine ⟨⟨k + 1, up_v HK.out.2 (by have := HN.out; omega), by omega, HK.out.2, by rw [HX.out], trivial⟩, ?_⟩
      rw [up_w HK.out.2 (by have := HN.out; omega)]
      exact ms_n HK.out.2
    · obtain rfl : k = n := by omega
      have l1 : decide ((k : Int) < (k : Int)) = false := by simp
      have HE : Hid (mxL (D.take k) = mxL D) := hid_mk (by rw [List.take_of_length_le (by have := HL.out; omega)])
      clear hgo hkn hk1
      go_wp2
      go_ret
      exact ⟨by rw [HE.out]; rfl, rfl⟩
end Go.Proofs.YtkghabmgofgclaaDoor
namespace Go.Proofs.YtkghabmgofgclaaDoor
open Go.RowKit
set_option linter.unusedVariables false
set_option linter.unusedSimpArgs false

/-- what is asked of an instruction ahead of the ways -/
def OkX (nf n : Nat) (fs : List (Int × Int × Int × List (Int × Int))) (x : Int × Int) : Prop := opS x.1 ≠ 0 ∧ (x.1 = 16 → 0 ≤ x.2 ∧ x.2 < (nf : Int)) ∧ (x.1 = 17 ∨ x.1 = 18 → 0 ≤ x.2 ∧ x.2 ≤ 8) ∧ (juB x.1 = true → 0 ≤ x.2 ∧ x.2 < (n : Int)) ∧ 0 ≤ tkV fs x ∧ tkV fs x ≤ 64
/-- how much is still to be done -/
def mW (w : World) (p dg : Nat) (ok : Value) : Nat :=
  (match w.heap[dg]? with
    | some (.cells cs _ _) => (cs.toList.filter fun v => match v with
      | .int _ x => x == -1
      | _ => false).length
    | _ => 0) + (match w.cell? ⟨p, 9, none⟩ with
    | some (.slice _ l _) => l
    | _ => 0) + (match ok with
    | .bool true => 1
    | _ => 0)
theorem unk_cells (D : List Int) : ((ivs D).filter fun v => match v with
      | .int _ x => x == -1
      | _ => false).length = unk D := by
  unfold unk ivs
  rw [List.filter_map, List.length_map]
  rfl
theorem mW_is {w : World} (P L C : Int) (ca : Option Addr) (n cc : Nat) (k g : Int) (ta : Option Addr) (nt tc : Nat) (fa : Option Addr) (nf fc : Nat) {p dg : Nat} {D : List Int} {R : List Nat} {ro : Option Nat} (h : WK w P L C ca n cc k g ta nt tc fa nf fc p dg D R ro) (b : Bool) : mW w p dg (.bool b) = unk D + R.length + (if b then 1 else 0) := by
  obtain ⟨ra, rc, b1, b2, b3, b4, b5, b6⟩ := h
  have c9 := b1.cell (i := 9) rfl
  unfold Bl at b2
  unfold mW
  rw [b2, c9]
  simp only []
  have := unk_cells D
  cases b <;> simp_all
theorem wy_nil {tk : Int × Int → Int} {C : List (Int × Int)} {k : Nat} {D : List Int} : wyF tk C k (D, []) = .inr D := by cases k <;> rfl
theorem out_lo {w w1 w2 : World} {dg : Nat} (h : Out 0 0 w w1) (g : Lo dg w1 w2) (hd : w.heap.size ≤ dg) : Out 0 0 w w2 :=
  ⟨g.1.trans h.1, g.2.1.trans h.2.1, g.2.2.1.trans h.2.2.1, Nat.le_trans h.size g.size, fun k h1 h2 => (g.2.2.2.2 k (Nat.lt_of_lt_of_le h1 h.size) (by omega)).trans (h.block h1 h2)⟩
theorem len_below : ∀ {n : Nat} {R : List Nat}, R.Pairwise (· < ·) → (∀ j ∈ R, j < n) → R.length ≤ n
  | n, [], _, _ => Nat.zero_le _
  | n, a :: R, h, hn => by
    rw [List.pairwise_cons] at h
    have h1 := hn a (List.mem_cons.2 (.inl rfl))
    have key : ∀ {R : List Nat} {a n : Nat}, R.Pairwise (· < ·) → (∀ j ∈ R, a < j) → (∀ j ∈ R, j < n) → a < n → R.length + a + 1 ≤ n := by
      intro R
      induction R with
      | nil => intro a n _ _ _ h; simp only [List.length_nil]; omega
      | cons b R ih =>
        intro a n hs h2 h3 h4
        rw [List.pairwise_cons] at hs
        have hb := h2 b (List.mem_cons.2 (.inl rfl))
        have := ih (a := b) (n := n) hs.2 hs.1 (fun j hj => h3 j (List.mem_cons.2 (.inr hj))) (h3 b (List.mem_cons.2 (.inl rfl)))
        simp only [List.length_cons]
        omega
    have := key h.2 h.1 (fun j hj => hn j (List.mem_cons.2 (.inr hj))) h1
    simp only [List.length_cons]
    omega
theorem wo_len {n : Nat} {s : List Int × List Nat} (h : WO n s) (hn : n ≤ 4096) : s.2.length ≤ 4500 := by
  have : s.2.length ≤ n := len_below h.2.2.1 (fun j hj => h.in hj)
  omega
/-- what 'ways' tells -/
def WyQ (w : World) (k : Int) (n : Nat) (o : Sum (Int × Nat) (List Int)) (e : Ending) (w' : World) : Prop := Out 0 0 w w' ∧ ((∃ D dg, o = .inr D ∧ e = .returned (.slice (some ⟨dg, 0, none⟩) n n) ∧ Bl w' dg (ivs D).toArray 3 ∧ w.heap.size ≤ dg) ∨ (∃ er i, o = .inl (er, i) ∧ e = .panicked [badP er k i]))
set_option maxRecDepth 100000 in
set_option maxHeartbeats 2000000 in
theorem ways_any {w : World} (P L C : Int) (ca : Option Addr) (n cc : Nat) (k g : Int) (ta : Option Addr) (nt tc : Nat) (fa : Option Addr) (nf fc : Nat) {B : Nat} {fs : List (Int × Int × Int × List (Int × Int))} {cd : List (Int × Int)} (hcode : InIn w B ca cd) (hcl : cd.length = n) (hn0 : 0 < n) (hn : n ≤ 4096) (hfs : FnIn w B fa fs) (hnf : fs.length = nf) (hB : B ≤ w.heap.size) (hok : ∀ x ∈ cd, OkX nf n fs x) :
    Calls Tryd.prog 71 #[.agg #[.int .i64 P, .int .i64 L, .int .i64 C, .slice ca n cc, .int .i64 k, .int .i64 g, .slice ta nt tc, .slice fa nf fc]] w (WyQ w k n (wyA fs cd)) := by
  obtain ⟨b, hb⟩ : ∃ b, w.heap.size = b := ⟨_, rfl⟩
  obtain ⟨V, hV⟩ : ∃ V, w.alloc (.cells #[.int .i64 P, .int .i64 L, .int .i64 C, .slice ca n cc, .int .i64 k, .int .i64 g, .slice ta nt tc, .slice fa nf fc] 104) = V := ⟨_, rfl⟩
  have oV : Out 0 0 w V := by rw [← hV]; exact (Out.refl 0 0 w).alloc _
  have B0 : Bl V b #[.int .i64 P, .int .i64 L, .int .i64 C, .slice ca n cc, .int .i64 k, .int .i64 g, .slice ta nt tc, .slice fa nf fc] 104 := by rw [← hV, ← hb]; exact Bl.new _ _ _
  have HB0 := hid_mk B0
  have k0 := B0.cell (i := 0) rfl; have k1 := B0.cell (i := 1) rfl; have k2 := B0.cell (i := 2) rfl; have k3 := B0.cell (i := 3) rfl; have k4 := B0.cell (i := 4) rfl; have k5 := B0.cell (i := 5) rfl; have k6 := B0.cell (i := 6) rfl; have k7 := B0.cell (i := 7) rfl
  have HO := hid_mk oV
  have HN := hid_mk (And.intro hn0 hn)
  have HH := hid_mk (And.intro hcode (And.intro hcl (And.intro hfs (And.intro hnf (And.intro hB hok)))))
  have HBZ : Hid (w.heap.size = b) := hid_mk hb
  clear hn0 hn hcode hcl hfs hnf hok hB oV B0
  go_enter Tryd.func71, Tryd.ntmps71
  go_wp2_with fail
  (try rw [hV])
  (try rw [hb])
  clear hV hb
  obtain ⟨V1, hV1⟩ : ∃ V1, V.drew = V1 := ⟨_, rfl⟩
  refine wp_region_held_drew (S := fun w' => w'.cell? ⟨b, 0, none⟩ = some (.int .i64 P) ∧ w'.cell? ⟨b, 1, none⟩ = some (.int .i64 L) ∧ w'.cell? ⟨b, 2, none⟩ = some (.int .i64 C) ∧ w'.cell? ⟨b, 3, none⟩ = some (.slice ca n cc) ∧ w'.cell? ⟨b, 4, none⟩ = some (.int .i64 k) ∧ w'.cell? ⟨b, 5, none⟩ = some (.int .i64 g) ∧ w'.cell? ⟨b, 6, none⟩ = some (.slice ta nt tc) ∧ w'.cell? ⟨b, 7, none⟩ = some (.slice fa nf fc)) (by kernel_rfl) ?hS1 (fun hHeld => ?rest1)
  case hS1 => exact ⟨k0, k1, k2, k3, k4, k5, k6, k7⟩
  refine tk 0 ?_
  refine tk 2 ?_
  refine tk 3 ?_
  refine tk 4 ?_
  refine tk 5 ?_
  refine wpAnyH_ready (rs := [1]) (by kernel_rfl) (by simp) ?_
  refine AllReadyH.cons rfl (fun KK hK => ?_) AllReadyH.nil
  simp only [xa, xb, xc]
  go_simp
  obtain ⟨X1, hX1⟩ : ∃ X1, V1.alloc (.cells #[.int .i64 (-1)] 3) = X1 := ⟨_, rfl⟩
  obtain ⟨y1, hy1⟩ : ∃ y1, V1.heap.size = y1 := ⟨_, rfl⟩
  rw [hX1, hy1]
  have o9 : Out 0 0 V X1 := by rw [← hX1, ← hV1]; exact ((Out.refl 0 0 V).drew).alloc _
  have HX1 : Hid (Bl X1 y1 #[.int .i64 (-1)] 3) := hid_mk (by rw [← hX1, ← hy1]; exact Bl.new _ _ _)
  clear hX1 hy1
  refine hK.out _ _ ?hS7 (fun hHeld2 => ?rest7)
  case hS7 => exact ⟨o9.cell k0 (.inr (Nat.zero_le _)), o9.cell k1 (.inr (Nat.zero_le _)), o9.cell k2 (.inr (Nat.zero_le _)), o9.cell k3 (.inr (Nat.zero_le _)), o9.cell k4 (.inr (Nat.zero_le _)), o9.cell k5 (.inr (Nat.zero_le _)), o9.cell k6 (.inr (Nat.zero_le _)), o9.cell k7 (.inr (Nat.zero_le _))⟩
  clear hK KK
  (try clear hHeld)
  have hHeld := hHeld2
  clear hHeld2
  (try simp only [Act.put, xa, xb, xc, xd, xe, xf])
  refine wpAnyH_ready (rs := [6]) (by kernel_rfl) (by simp) ?_
  refine AllReadyH.cons rfl (fun KK hK => ?_) AllReadyH.nil
  simp only [xa, xb, xc]
  go_simp
  refine (repeat_any HN.out.1 HN.out.2 HX1.out).mono ?_
  rintro e X2 ⟨dg, rfl, hd, o8, hdg⟩
  have HD := hid_mk hd
  have HDG : Hid (b ≤ dg) := hid_mk (by have := HBZ.out; have := HO.out.size; have := o9.size; omega)
  replace o9 : Out 0 0 V X2 := o9.trans o8
  clear o8 hd hdg HX1
  refine hK.out _ _ ?hS8 (fun hHeld2 => ?rest8)
  case hS8 => exact ⟨o9.cell k0 (.inr (Nat.zero_le _)), o9.cell k1 (.inr (Nat.zero_le _)), o9.cell k2 (.inr (Nat.zero_le _)), o9.cell k3 (.inr (Nat.zero_le _)), o9.cell k4 (.inr (Nat.zero_le _)), o9.cell k5 (.inr (Nat.zero_le _)), o9.cell k6 (.inr (Nat.zero_le _)), o9.cell k7 (.inr (Nat.zero_le _))⟩
  clear hK KK
  (try clear hHeld)
  have hHeld := hHeld2
  clear hHeld2
  (try simp only [Act.put, xa, xb, xc, xd, xe, xf])
  refine tk 7 ?_
  refine wpAnyH_ready (rs := [8]) (by kernel_rfl) (by simp) ?_
  refine AllReadyH.cons rfl (fun KK hK => ?_) AllReadyH.nil
  simp only [xa, xb, xc]
  go_simp
  obtain ⟨X3, hX3⟩ : ∃ X3, X2.alloc (.cells #[.int .i64 P, .int .i64 L, .int .i64 C, .slice ca n cc, .int .i64 k, .int .i64 g, .slice ta nt tc, .slice fa nf fc, .slice (some ⟨dg, 0, none⟩) n n, .slice none 0 0] 155) = X3 := ⟨_, rfl⟩
  obtain ⟨p, hp⟩ : ∃ p, X2.heap.size = p := ⟨_, rfl⟩
  rw [hX3, hp]
  have o8 : Out 0 0 X2 X3 := by rw [← hX3]; exact (Out.refl 0 0 X2).alloc _
  have HX3 : Hid (Bl X3 p #[.int .i64 P, .int .i64 L, .int .i64 C, .slice ca n cc, .int .i64 k, .int .i64 g, .slice ta nt tc, .slice fa nf fc, .slice (some ⟨dg, 0, none⟩) n n, .slice none 0 0] 155) := hid_mk (by rw [← hX3, ← hp]; exact Bl.new _ _ _)
  replace o9 : Out 0 0 V X3 := o9.trans o8
  have HP : Hid (dg < p) := hid_mk (hp ▸ HD.out.lt)
  replace HD := hid_mk (HD.out.kept o8 (.inr (Nat.zero_le _)))
  clear o8 hX3 hp
  refine hK.out _ _ ?hS10 (fun hHeld2 => ?rest10)
  case hS10 => exact ⟨o9.cell k0 (.inr (Nat.zero_le _)), o9.cell k1 (.inr (Nat.zero_le _)), o9.cell k2 (.inr (Nat.zero_le _)), o9.cell k3 (.inr (Nat.zero_le _)), o9.cell k4 (.inr (Nat.zero_le _)), o9.cell k5 (.inr (Nat.zero_le _)), o9.cell k6 (.inr (Nat.zero_le _)), o9.cell k7 (.inr (Nat.zero_le _))⟩
  clear hK KK
  (try clear hHeld)
  have hHeld := hHeld2
  clear hHeld2
  (try simp only [Act.put, xa, xb, xc, xd, xe, xf])
  refine tk 9 ?_
  refine wpAnyH_done (by kernel_rfl) ?_ _
  clear hHeld k0 k1 k2 k3 k4 k5 k6 k7
  have HW : Hid (WK X3 P L C ca n cc k g ta nt tc fa nf fc p dg (List.replicate n (-1)) [] none) := hid_mk ⟨none, 0, HX3.out, HD.out, List.length_replicate, World.ownsRow_nil _ _ _ 1, HP.out, rfl⟩
  replace HO := hid_mk (HO.out.trans o9)
  clear o9 HX3 HD HB0 hV1 V1
  have HB : Hid (B ≤ dg) := hid_mk (by have := HDG.out; have := HBZ.out; have := HH.out.2.2.2.2.1; omega)
  go_wp2_with (first
    | (go_at_call 89; refine (meet_any P L C ca n cc k g ta nt tc fa nf fc HW.out 0 0 HN.out.1 (by simp) (by simp) (by simp)).mono ?_; rintro e w2 ⟨rfl, ro2, h2, h3⟩; have H2 := hid_mk h2; replace HO := hid_mk (out_lo HO.out (HW.out.lo h3) (by have := HDG.out; have := HBZ.out; omega)); clear h2 h3 HW)
    | (go_at_call 90; refine (wtake_some P L C ca n cc k g ta nt tc fa nf fc (i := 0) (R := []) H2.out (by simp)).mono ?_; rintro e w3 ⟨rfl, h2, h3⟩; have HW := hid_mk h2; replace HO := hid_mk (out_lo HO.out (H2.out.lo h3) (by have := HDG.out; have := HBZ.out; omega)); clear h2 h3))
  go_loopw [4, 5] (fun x ok wr => ∃ D R ro, WK wr P L C ca n cc k g ta nt tc fa nf fc p dg D R ro ∧ Out 0 0 w wr ∧ ((ok = .bool true ∧ ∃ i0 : Nat, x = .int .i64 i0 ∧ WO n (D, i0 :: R) ∧ wyF (tkV fs) cd (unk D + (R.length + 1)) (D, i0 :: R) = wyA fs cd) ∨ (ok = .bool false ∧ R = [] ∧ wyA fs cd = .inr D))) (fun _ ok wr => mW wr p dg ok)
  case atStart =>
    refine ⟨_, _, _, HW.out, HO.out, .inl ⟨rfl, 0, rfl, ?_, ?_⟩⟩
    · exact (wo_start HN.out.1).1
    · have := (wo_start HN.out.1).2
      unfold wyA
      rw [HH.out.2.1]
      show wyF (tkV fs) cd (unk (wy0 n).1 + (wy0 n).2.length) (wy0 n) = _
      rw [this]
  case round =>
    obtain ⟨D, R, ro, h1, h2, ⟨rfl, i0, rfl, h3, h4⟩ | ⟨rfl, rfl, h4⟩⟩ := hrel
    · have H1 := hid_mk h1
      have H2 := hid_mk h2
      have H3 := hid_mk h3
      have H4 := hid_mk h4
      have hi0 := h3.in (List.mem_cons.2 (.inl rfl))
      obtain ⟨hcode, hcl, hfs, hnf, hB, hok⟩ := HH.out
      have hlen : R.length ≤ 4500 := wo_len h3.tail HN.out.2
      obtain ⟨⟨op, a⟩, hx⟩ : ∃ x, cd[i0]? = some x := ⟨_, List.getElem?_eq_getElem (by omega)⟩
      obtain ⟨q1, q2, q3, q4, q5⟩ := hok (op, a) (List.mem_of_getElem? hx)
      obtain ⟨di, hdi, -⟩ := h3.2.2.2 i0 (List.mem_cons.2 (.inl rfl))
      have HT := hid_mk (thr_any P L C ca n cc k g ta nt tc fa nf fc h1 h3.tail (hcode.kept (Lo.of_out h2) (Nat.le_refl _)) hcl HN.out.2 (hfs.kept (Lo.of_out h2) (Nat.le_refl _)) hnf HB.out hx q1 q2 q3 q4 q5 hdi hlen)
      have HSt : Hid (∀ o, stF (tkV fs (op, a)) n i0 (op, a) (D, R) = o → (match o with
        | .inl e => Sum.inl (e, i0)
        | .inr s => wyF (tkV fs) cd (unk D + R.length) s) = wyA fs cd) := hid_mk (by
        intro o ho
        rw [← h4, show unk D + (R.length + 1) = unk D + R.length + 1 by omega]
        have hgx : cd.getD i0 (0, 0) = (op, a) := by rw [List.getD_eq_getElem?_getD, hx]; rfl
        simp only [wyF, hgx, hcl, ho]
        rcases o with e | s <;> rfl)
      clear h1 h2 h3 h4 hi0 hcode hcl hfs hnf hB hok hlen hx q1 q2 q3 q4 q5 hdi
      go_wp2_with fail
      refine HT.out.mono ?_
      rintro e w4 (⟨⟨D4, R4⟩, ro4, z1, rfl, z2, z3⟩ | ⟨er, z1, rfl, z2⟩)
      · have hS := HSt.out _ z1
        simp only [] at hS
        obtain ⟨t1, t2⟩ := st_wo H3.out.tail z1
        simp only [] at t2 z2
        have HS := hid_mk hS
        have HW4 := hid_mk t1
        have HM4 := hid_mk t2
        have HK4 := hid_mk z2
        have HO4 := hid_mk (out_lo H2.out (H1.out.lo z3) (by have := HDG.out; have := HBZ.out; omega))
        clear hS t1 t2 z1 z2 z3 HT HSt
        cases R4 with
        | nil =>
          go_wp2_with (go_at_call 90; refine calls_same (wtake_none P L C ca n cc k g ta nt tc fa nf fc HK4.out) ?_)
          go_roundw
          case rel => exact ⟨D4, [], ro4, HK4.out, HO4.out, .inr ⟨rfl, rfl, by rw [← HS.out]; exact wy_nil⟩⟩
          case measure =>
            rw [mW_is P L C ca n cc k g ta nt tc fa nf fc HK4.out false, mW_is P L C ca n cc k g ta nt tc fa nf fc H1.out true]
            have := HM4.out
            simp at this ⊢
            omega
        | cons j R5 =>
          go_wp2_with (go_at_call 90; refine (wtake_some P L C ca n cc k g ta nt tc fa nf fc HK4.out (by have := wo_len HW4.out HN.out.2; simp at this; omega)).mono ?_; rintro e w5 ⟨rfl, y2, y3⟩; have HK5 := hid_mk y2; have HO5 := hid_mk (out_lo HO4.out (HK4.out.lo y3) (by have := HDG.out; have := HBZ.out; omega)); clear y2 y3)
          go_roundw
          case rel =>
            refine ⟨D4, R5, ro4, HK5.out, HO5.out, .inl ⟨rfl, j, rfl, HW4.out, ?_⟩⟩
            have := HM4.out
            simp only [List.length_cons] at this
            rw [this]
            exact HS.out
          case measure =>
            rw [mW_is P L C ca n cc k g ta nt tc fa nf fc HK5.out true, mW_is P L C ca n cc k g ta nt tc fa nf fc H1.out true]
            have := HM4.out
            simp at this ⊢
            omega
      · have hS := HSt.out _ z1
        simp only [] at hS
        refine ⟨rfl, out_lo H2.out z2 (by have := HDG.out; have := HBZ.out; omega), .inr ⟨er, i0, hS.symm, rfl⟩⟩
    · have H1 := hid_mk h1
      have H2 := hid_mk h2
      have H4 := hid_mk h4
      obtain ⟨ra, rc, BK, b2, b3, b4, b5, b6⟩ := h1
      have k8 := BK.cell (i := 8) rfl
      have HB2 := hid_mk b2
      clear h2 h4 BK b2 b3 b4 b5 b6
      go_wp2
      go_ret
      exact ⟨H2.out, .inl ⟨D, dg, H4.out, rfl, HB2.out, by have := HDG.out; have := HBZ.out; omega⟩⟩
end Go.Proofs.YtkghabmgofgclaaDoor
namespace Go.Proofs.YtkghabmgofgclaaDoor
open Go.RowKit
set_option linter.unusedVariables false
set_option linter.unusedSimpArgs false

/-- one thing more in a row of one's own -/
theorem app_one {T E : TypeId} {z : Value} {sz by_ : Nat} (hT : Tryd.prog.underlying T = some (.slice E)) (hinf : (Tryd.prog.info? E).map (fun i => (i.zero, i.size, i.bytes)) = some (some z, sz, by_)) (hz : z.cells.size = sz) (hsz : 0 < sz) (hby : by_ ≤ 1000) {w : World} {base K cap vb : Nat} {ta : Option Addr} {xs ys : List Value} (hown : w.ownsRow base E sz (.slice ta K cap) K xs) (hbase : base ≤ w.heap.size) (hv : Bl w vb ys.toArray E) (hl : ys.length = sz) (h1 : ∀ u ∈ ys, u.oneCell' = true) (hK : K ≤ 100000) (ty : TypeId) :
    ∃ a' cap' w', (Builtin.append_ #[T, T] ty #[.slice ta K cap, .slice (some ⟨vb, 0, none⟩) 1 1]).run Tryd.prog w = .ok (.slice a' (K + 1) cap') w' ∧ w'.ownsRow base E sz (.slice a' (K + 1) cap') (K + 1) (xs ++ ys) ∧ Fx (fun k => (Value.slice ta K cap).ownBlock = some k) w w' ∧
      ((Value.slice a' (K + 1) cap').ownBlock = (Value.slice ta K cap).ownBlock ∨ (Value.slice a' (K + 1) cap').ownBlock = some w.heap.size) := by
  obtain ⟨i0, hi0, hz0, hz1, hz2⟩ := info_p hinf
  obtain ⟨g4, cap', w', hrun, hown', hgrow, hat, _⟩ := run_append_lies (P := Tryd.prog) w T ty base E i0 z sz by_ hT hi0 hz0 hz1 hz2 hz hsz (.slice ta K cap) K xs hown ⟨vb, 0, none⟩ 1 1 ys (by rw [hl, Nat.one_mul]) (by
      intro j u hj
      rw [Addr.add_lit, Nat.zero_add]
      exact hv.cell (by rw [List.getElem?_toArray]; exact hj)) h1 (by omega) (by unfold maxLen; omega) (by
      have : (K + 1) * by_ ≤ 100001 * 1000 := Nat.mul_le_mul (by omega) hby
      omega) hbase w.heap.size rfl
  refine ⟨some ⟨g4, 0, none⟩, cap', w', hrun, hown', ⟨hgrow.os, hgrow.tape, hgrow.output, hgrow.size, fun k h1 h2 => hgrow.block k h1 (fun e => h2 e.symm)⟩, ?_⟩
  rcases hat with h | h
  · exact .inl h.symm
  · exact .inr (by rw [h]; rfl)
/-- .. as a step of a plain region -/
theorem app_put {T E : TypeId} {z : Value} {sz by_ : Nat} (hT : Tryd.prog.underlying T = some (.slice E)) (hinf : (Tryd.prog.info? E).map (fun i => (i.zero, i.size, i.bytes)) = some (some z, sz, by_)) (hz : z.cells.size = sz) (hsz : 0 < sz) (hby : by_ ≤ 1000) {ops : Array Oper} {rest : List Oper} {o : Oper} {ac : Go.Act} {w : World} {Q : Exit → Go.Act → World → Prop} (hgd : o.guard = none) (sx yy : Operand)
    (ho : o.op = .call { callee := .builtin .append, args := #[sx, yy], argTypes := #[T, T] }) {base K cap vb : Nat} {ta : Option Addr} {xs ys : List Value} (hs : ac.eval sx = .slice ta K cap) (hyy : ac.eval yy = .slice (some ⟨vb, 0, none⟩) 1 1)
    (hown : w.ownsRow base E sz (.slice ta K cap) K xs) (hbase : base ≤ w.heap.size) (hv : Bl w vb ys.toArray E) (hl : ys.length = sz) (h1 : ∀ u ∈ ys, u.oneCell' = true) (hK : K ≤ 100000)
    (h : ∀ a' cap' w', w'.ownsRow base E sz (.slice a' (K + 1) cap') (K + 1) (xs ++ ys) → Fx (fun k => (Value.slice ta K cap).ownBlock = some k) w w' →
      ((Value.slice a' (K + 1) cap').ownBlock = (Value.slice ta K cap).ownBlock ∨ (Value.slice a' (K + 1) cap').ownBlock = some w.heap.size) → wpList Tryd.prog ops Q rest (ac.put o.dst (.slice a' (K + 1) cap')) w') : wpList Tryd.prog ops Q (o :: rest) ac w :=
  wpList_plain hgd fun _ hK' => by
    obtain ⟨a', cap', w', hr, h2, h3, h4⟩ := app_one hT hinf hz hsz hby hown hbase hv hl h1 hK o.type
    unfold Oper.wp execOp
    simp only [ho, resolve, invoke, builtin, Sem.run_bind, Sem.run_pure, Result.andThen_ok, List.map_toArray, List.map_cons, List.map_nil, hs, hyy, hr]
    exact hK' _ _ (h a' cap' w' h2 h3 h4)
/-- the cells of a function by its number -/
def fnC (x : Int) (ta : Option Addr) (nt tc : Nat) (fa : Option Addr) (nf fc : Nat) (f : Int × Int × Int × List (Int × Int)) (pj : Option Addr) (cj : Nat) (j : Nat) : List Value := [.int .i64 f.1, .int .i64 f.2.1, .int .i64 f.2.2.1, .slice pj f.2.2.2.length cj, .int .i64 j, .int .i64 x, .slice ta nt tc, .slice fa nf fc]
/-- the row of the first m functions -/
def FnL (w : World) (B : Nat) (fs : List (Int × Int × Int × List (Int × Int))) (x : Int) (ta : Option Addr) (nt tc : Nat) (fa : Option Addr) (nf fc : Nat) (m : Nat) (xs : List Value) : Prop := xs.length = m * 8 ∧ ∀ (j : Nat) f, j < m → fs[j]? = some f → ∃ pj cj, (xs.drop (j * 8)).take 8 = fnC x ta nt tc fa nf fc f pj cj j ∧ InIn w B pj f.2.2.2
theorem FnL.kept {w w' : World} {B : Nat} {fs : List (Int × Int × Int × List (Int × Int))} {x : Int} {ta : Option Addr} {nt tc : Nat} {fa : Option Addr} {nf fc m : Nat} {xs : List Value} (h : FnL w B fs x ta nt tc fa nf fc m xs) (o : Lo B w w') : FnL w' B fs x ta nt tc fa nf fc m xs :=
  ⟨h.1, fun j f h1 h2 => by obtain ⟨pj, cj, h3, h4⟩ := h.2 j f h1 h2; exact ⟨pj, cj, h3, h4.kept o (Nat.le_refl _)⟩⟩
theorem FnL.up {w : World} {B : Nat} {fs : List (Int × Int × Int × List (Int × Int))} {x : Int} {ta : Option Addr} {nt tc : Nat} {fa : Option Addr} {nf fc m : Nat} {xs : List Value} (h : FnL w B fs x ta nt tc fa nf fc m xs) {f : Int × Int × Int × List (Int × Int)} (hf : fs[m]? = some f) {pj : Option Addr} {cj : Nat} (hp : InIn w B pj f.2.2.2) : FnL w B fs x ta nt tc fa nf fc (m + 1) (xs ++ fnC x ta nt tc fa nf fc f pj cj m) := by
  have hl : (fnC x ta nt tc fa nf fc f pj cj m).length = 8 := rfl
  refine ⟨by rw [List.length_append, hl, h.1]; omega, fun j f' h1 h2 => ?_⟩
  by_cases hj : j < m
  · obtain ⟨pj', cj', h3, h4⟩ := h.2 j f' hj h2
    refine ⟨pj', cj', ?_, h4⟩
    rw [List.drop_append_of_le_length (by rw [h.1]; omega), List.take_append_of_le_length (by rw [List.length_drop, h.1]; omega)]
    exact h3
  · obtain rfl : j = m := by omega
    rw [hf] at h2
    cases h2
    refine ⟨pj, cj, ?_, hp⟩
    rw [List.drop_append_of_le_length (by rw [h.1]; omega), List.drop_of_length_le (by rw [h.1]; omega), List.nil_append]
    rfl
theorem info_fn : (Tryd.prog.info? 104).map (fun i => (i.zero, i.size, i.bytes)) = some (some (.agg #[.int .i64 0, .int .i64 0, .int .i64 0, .slice none 0 0, .int .i64 0, .int .i64 0, .slice none 0 0, .slice none 0 0]), 8, 112) := by kernel_rfl
theorem fnC_one {x : Int} {ta : Option Addr} {nt tc : Nat} {fa : Option Addr} {nf fc : Nat} {f : Int × Int × Int × List (Int × Int)} {pj : Option Addr} {cj j : Nat} : ∀ u ∈ fnC x ta nt tc fa nf fc f pj cj j, u.oneCell' = true := by
  intro u hu
  unfold fnC at hu
  simp only [List.mem_cons, List.not_mem_nil, or_false] at hu
  rcases hu with rfl | rfl | rfl | rfl | rfl | rfl | rfl | rfl <;> rfl
theorem fn_cells {w : World} {B j : Nat} {fa : Option Addr} {fs : List (Int × Int × Int × List (Int × Int))} {f : Int × Int × Int × List (Int × Int)} (h : FnIn w B fa fs) (hx : fs[j]? = some f) : ∃ q off pj cj, fa = some ⟨q, off, none⟩ ∧ q < B ∧ w.cell? ⟨q, off + j * 4, none⟩ = some (.int .i64 f.1) ∧ w.cell? ⟨q, off + j * 4 + 1, none⟩ = some (.int .i64 f.2.1) ∧ w.cell? ⟨q, off + j * 4 + 2, none⟩ = some (.int .i64 f.2.2.1) ∧ w.cell? ⟨q, off + j * 4 + 3, none⟩ = some (.slice pj f.2.2.2.length cj) ∧ InIn w B pj f.2.2.2 := by
  rcases h with h | ⟨q, off, h1, h2, h3⟩
  · rw [h] at hx; simp at hx
  · obtain ⟨pj, cj, c1, c2, c3, c4, c5⟩ := h3 j _ hx
    exact ⟨q, off, pj, cj, h1, h2, c1, c2, c3, c4, c5⟩
set_option maxRecDepth 100000 in
set_option maxHeartbeats 2000000 in
theorem functions_any {w : World} {B : Nat} (x : Int) (ta : Option Addr) (nt tc : Nat) (fa : Option Addr) (nf fc : Nat) {fs : List (Int × Int × Int × List (Int × Int))} (hfs : FnIn w B fa fs) (hnf : fs.length = nf) (hB : B ≤ w.heap.size) (hn : nf ≤ 64) :
    Calls Tryd.prog 55 #[.agg #[.int .i64 x, .slice ta nt tc, .slice fa nf fc]] w fun e w' => ∃ ra rc xs, e = .returned (.slice ra nf rc) ∧ w'.ownsRow w.heap.size 104 8 (.slice ra nf rc) nf xs ∧ FnL w' B fs x ta nt tc fa nf fc nf xs ∧ Out 0 0 w w' := by
  obtain ⟨b, hb⟩ : ∃ b, w.heap.size = b := ⟨_, rfl⟩
  obtain ⟨V, hV⟩ : ∃ V, w.alloc (.cells #[.int .i64 x, .slice ta nt tc, .slice fa nf fc] 25) = V := ⟨_, rfl⟩
  have oV : Out 0 0 w V := by rw [← hV]; exact (Out.refl 0 0 w).alloc _
  have B0 : Bl V b #[.int .i64 x, .slice ta nt tc, .slice fa nf fc] 25 := by rw [← hV, ← hb]; exact Bl.new _ _ _
  have HB0 := hid_mk B0
  have HO := hid_mk oV
  have HH := hid_mk (And.intro hfs (And.intro hnf (And.intro hB hn)))
  have HBZ : Hid (w.heap.size = b) := hid_mk hb
  have k2 := B0.cell (i := 2) rfl
  clear hn hfs hnf hB oV B0
  go_enter Tryd.func55, Tryd.ntmps55
  go_wp2_with fail
  (try rw [hV])
  (try rw [hb])
  clear hV hb
  go_wp2
  clear k2
  go_loopw [3, 9] (fun a c wr => ∃ (m : Nat) (ra : Option Addr) (rc : Nat) (xs : List Value), c = .int .i64 m ∧ m ≤ nf ∧ a = .slice ra m rc ∧ wr.ownsRow (b + 1) 104 8 (.slice ra m rc) m xs ∧ FnL wr B fs x ta nt tc fa nf fc m xs ∧ Bl wr b #[.int .i64 x, .slice ta nt tc, .slice fa nf fc] 25 ∧ Out 0 0 w wr) (fun _ c _ => nf - (intOf c).toNat)
  case atStart => exact ⟨0, none, 0, [], rfl, Nat.zero_le _, rfl, World.ownsRow_nil _ _ _ 8, ⟨rfl, fun j f h => absurd h (Nat.not_lt_zero _)⟩, HB0.out, HO.out⟩
  case round =>
    obtain ⟨m, ra, rc, xs, rfl, hm, rfl, hown, hL, hB, ho⟩ := hrel
    have HOw := hid_mk hown
    have HL := hid_mk hL
    have HBB := hid_mk hB
    have HO1 := hid_mk ho
    by_cases hgo : m < nf
    · obtain ⟨l1, l2⟩ := lt_dec hgo
      obtain ⟨hfs, hnf, hBs, hn64⟩ := HH.out
      obtain ⟨f, hf⟩ : ∃ f, fs[m]? = some f := ⟨_, List.getElem?_eq_getElem (by omega)⟩
      obtain ⟨q, off, pj, cj, rfl, hq, c0, c1, c2, c3, c4⟩ := fn_cells (hfs.kept (Lo.of_out ho) (Nat.le_refl _)) hf
      have hbl := hB.lt
      have hwz := up_w hgo (by omega)
      have hin : (m : Int) < (nf : Int) := by omega
      have k0 := hB.cell (i := 0) rfl
      have k1 := hB.cell (i := 1) rfl
      have k2 := hB.cell (i := 2) rfl
      have HF := hid_mk (And.intro hf (And.intro c4 (And.intro hgo hbl)))
      have HV8 : Hid (Bl ((wr.alloc (.cells #[.int .i64 f.1, .int .i64 f.2.1, .int .i64 f.2.2.1, .slice pj f.2.2.2.length cj] 41)).alloc (.cells (fnC x ta nt tc (some ⟨q, off, none⟩) nf fc f pj cj m).toArray 104)) (wr.heap.size + 1) (fnC x ta nt tc (some ⟨q, off, none⟩) nf fc f pj cj m).toArray 104) := hid_mk (by
        have := Bl.new (wr.alloc (.cells #[.int .i64 f.1, .int .i64 f.2.1, .int .i64 f.2.2.1, .slice pj f.2.2.2.length cj] 41)) (fnC x ta nt tc (some ⟨q, off, none⟩) nf fc f pj cj m).toArray 104
        rwa [size_alloc] at this)
      clear hown hL hB ho hgo hfs hnf hBs hn64 hf hq c4
      go_wp2_with (at_builtin; refine app_put Tryd.underlying101 info_fn rfl (by decide) (by decide) rfl _ _ rfl rfl rfl (own_fx (S := fun _ => False) HOw.out (Fx.of_out (((Out.refl 0 0 wr).alloc _).alloc _)) (fun _ _ z => z)) (by rw [size_alloc, size_alloc]; have := HF.out.2.2.2; omega) HV8.out rfl fnC_one (by have := HH.out.2.2.2; have := HF.out.2.2.1; omega) ?_; intro a' cap' w2 q1 q2 q3; have H1 := hid_mk q1; have H2 := hid_mk q2; clear q1 q2 q3)
      have hfx : Fx (fun z => (Value.slice ra m rc).ownBlock = some z) wr w2 := (Fx.of_out (((Out.refl 0 0 wr).alloc _).alloc _)).trans H2.out
      have hge : ∀ z, (Value.slice ra m rc).ownBlock = some z → b + 1 ≤ z := fun z hz => (own_ge HOw.out hz).1
      refine ⟨⟨m + 1, a', cap', _, up_v HF.out.2.2.1 (by have := HH.out.2.2.2; omega), HF.out.2.2.1, rfl, H1.out, ?_, HBB.out.fx hfx (fun z => by have := hge b z; omega), ?_⟩, ?_⟩
      · refine (HL.out.kept (hfx.wide fun z _ hz => ?_)).up HF.out.1 (HF.out.2.1.kept (C := B) (hfx.wide fun z _ hz => ?_) (Nat.le_refl _))
        · have := hge z hz; have := HH.out.2.2.1; have := HBZ.out; omega
        · have := hge z hz; have := HH.out.2.2.1; have := HBZ.out; omega
      · exact out_lo HO1.out (dg := b + 1) (hfx.wide fun z _ hz => hge z hz) (by have := HBZ.out; omega)
      · rw [up_w HF.out.2.2.1 (by have := HH.out.2.2.2; omega)]
        exact ms_n HF.out.2.2.1
    · obtain rfl : m = nf := by omega
      have l1 : decide ((m : Int) < (m : Int)) = false := by simp
      clear hgo hown hL hB ho
      go_wp2
      go_ret
      exact ⟨ra, rc, xs, rfl, Go.Joins.ownsRow_le HOw.out (by have := HBZ.out; omega), HL.out, HO1.out⟩
end Go.Proofs.YtkghabmgofgclaaDoor
