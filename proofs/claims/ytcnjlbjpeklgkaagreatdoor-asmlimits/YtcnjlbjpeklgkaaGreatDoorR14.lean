import Derived.Test.YtcnjlbjpeklgkaaGreatDoorR13
import Derived.Deep.MidRow
import Derived.Laws.MakeOwn
namespace Go.Proofs.YtcnjlbjpeklgkaaGreatDoor
open Go.RowKit
set_option linter.unusedVariables false
set_option linter.unusedSimpArgs false

/-- a name, an immediate's word, as strings -/
def nmS (j : Nat) : ByteArray := ⟨((nameF (j : Int)).map (fun c => UInt8.ofNat c.toNat)).toArray⟩
def imS (j : Nat) : ByteArray := ⟨((imW.getD j []).map (fun c => UInt8.ofNat c.toNat)).toArray⟩
theorem bt_nm : ∀ j : Fin 76, bt (nmS j.val) = nameF (j.val : Int) := by decide +kernel
theorem bt_im : ∀ j : Fin 6, bt (imS j.val) = imW.getD j.val [] := by decide +kernel
def nmL : List Value := (List.range 76).map fun j => .string (nmS j)
def imL : List Value := (List.range 6).map fun j => .string (imS j)
theorem nmL_at {j : Nat} (h : j < 76) : nmL[j]? = some (.string (nmS j)) := by unfold nmL; rw [List.getElem?_map, List.getElem?_range h]; rfl
theorem imL_at {j : Nat} (h : j < 6) : imL[j]? = some (.string (imS j)) := by unfold imL; rw [List.getElem?_map, List.getElem?_range h]; rfl
/-- the two tables are laid -/
def Nt (w : World) : Prop := w.rangeAt 0 0 nmL ∧ w.rangeAt 2 0 imL
theorem Nt.out {w w' : World} (h : Nt w) (o : Out 0 0 w w') : Nt w' := ⟨fun j v hj => o.cell (h.1 j v hj) (.inr (Nat.zero_le _)), fun j v hj => o.cell (h.2 j v hj) (.inr (Nat.zero_le _))⟩
theorem ld_nm {w : World} (h : Nt w) : (Instr.loadAt 150 (.pointer (some ⟨0, 0, none⟩))).run Tryz.prog w = .ok (.agg nmL.toArray) w :=
  run_loadAt_mid w _ 0 _ nmL _ h.1 Tryz.underlying150 rfl (by kernel_rfl)
theorem ld_im {w : World} (h : Nt w) : (Instr.loadAt 179 (.pointer (some ⟨2, 0, none⟩))).run Tryz.prog w = .ok (.agg imL.toArray) w :=
  run_loadAt_mid w _ 0 _ imL _ h.2 Tryz.underlying179 rfl (by kernel_rfl)
theorem bt_eqb (a b : ByteArray) : (a.toList == b.toList) = decide (bt a = bt b) := by
  rw [Bool.eq_iff_iff]
  simp only [beq_iff_eq, decide_eq_true_eq]
  rw [bt_tl, bt_tl]
  constructor
  · intro h; rw [h]
  · intro h; exact bl_inj h
theorem index76 (cs : Array Value) (k : Nat) (v : Value) (h : k < 76) (hv : cs[k]? = some v) (w : World) : (Instr.index 150 (.agg cs) (.int .i64 (k : Int))).run Tryz.prog w = .ok v w := by
  simp [Instr.index, run_underlying Tryz.underlying150, asIntOf, h, hv, go_sem]
theorem index6 (cs : Array Value) (k : Nat) (v : Value) (h : k < 6) (hv : cs[k]? = some v) (w : World) : (Instr.index 179 (.agg cs) (.int .i64 (k : Int))).run Tryz.prog w = .ok v w := by
  simp [Instr.index, run_underlying Tryz.underlying179, asIntOf, h, hv, go_sem]
theorem op_hit {s : List Int} {k : Nat} (hk : k < 76) (hs : s ≠ []) (h : nameF (k : Int) = s) : opF s = (k : Int) ∧ (k : Int) ≠ 0 := by
  have h1 := op_name ⟨k, hk⟩
  simp only at h1
  rw [h] at h1
  refine ⟨h1 hs, fun e => ?_⟩
  have : k = 0 := by omega
  subst this
  exact hs h.symm
theorem op_miss {s : List Int} (hs : s ≠ []) (h : ∀ j : Nat, j < 76 → nameF (j : Int) ≠ s) : opF s = 0 := by
  rcases Classical.em (opF s = 0) with e | e
  · exact e
  · exfalso
    obtain ⟨h1, h2⟩ := op_back e
    refine h (opF s).toNat (by omega) ?_
    rw [show (((opF s).toNat : Nat) : Int) = opF s from by omega]
    exact h1.symm
theorem nat_inc {k m : Nat} (h : k < m) (hm : m ≤ 100) : wrap64 ((k : Int) + 1) = ((k + 1 : Nat) : Int) := by unfold wrap64; omega
set_option maxRecDepth 100000 in
set_option maxHeartbeats 1000000 in
/-- the instruction of a name -/
theorem op_any (s : ByteArray) (hs : bt s ≠ []) (w : World) (hT : Nt w) : Calls Tryz.prog 127 #[.string s] w fun x w' => w' = w ∧ ((opF (bt s) ≠ 0 ∧ x = .returned (.int .i64 (opF (bt s)))) ∨ (opF (bt s) = 0 ∧ x = .panicked [giveUp])) := by
  obtain ⟨A, hA⟩ : ∃ A, nmL.toArray = A := ⟨_, rfl⟩
  have HA : Hid (∀ j, j < 76 → A[j]? = some (.string (nmS j))) := hid_mk fun j hj => by rw [← hA]; simpa using nmL_at hj
  have HT := hid_mk hT
  have HS := hid_mk hs
  clear hs hT
  go_enter Tryz.func127, Tryz.ntmps127
  go_wp2
  refine wp_load_mid 150 _ rfl 0 0 rfl nmL _ HT.out.1 Tryz.underlying150 rfl (by kernel_rfl) ?_
  rw [hA]
  clear hA
  go_wp2
  go_loopw [6] (fun v wr => ∃ k : Nat, v = .int .i64 k ∧ k ≤ 76 ∧ wr = w ∧ ∀ j, j < k → bt (nmS j) ≠ bt s) (fun v _ => 76 - (intOf v).toNat)
  case atStart => exact ⟨0, rfl, by decide, rfl, fun j h => absurd h (Nat.not_lt_zero _)⟩
  case round =>
    obtain ⟨k, rfl, hk, rfl, hno⟩ := hrel
    have HN := hid_mk hno
    by_cases hlt : k < 76
    · have hd : decide ((k : Int) < 76) = true := decide_eq_true (by omega)
      have hat := HA.out k hlt
      obtain ⟨t, ht⟩ : ∃ t, nmS k = t := ⟨_, rfl⟩
      rw [ht] at hat
      have HTt := hid_mk ht
      have HL := hid_mk hlt
      clear ht hno hlt hk
      by_cases he : bt t = bt s
      · have hb : (t.toList == s.toList) = true := by rw [bt_eqb]; exact decide_eq_true he
        have HE := hid_mk (op_hit HL.out HS.out (by rw [← bt_nm ⟨k, HL.out⟩, HTt.out]; exact he))
        clear he
        have hix := fun W => index76 A k _ HL.out hat W
        go_wp2
        go_ret
        obtain ⟨e1, e2⟩ := HE.out
        exact ⟨rfl, .inl ⟨by rw [e1]; exact e2, by rw [e1]; rfl⟩⟩
      · have hb : (t.toList == s.toList) = false := by rw [bt_eqb]; exact decide_eq_false he
        have HE := hid_mk he
        clear he
        have hix := fun W => index76 A k _ HL.out hat W
        go_wp2
        go_roundw
        case rel =>
          refine ⟨k + 1, congrArg (Value.int .i64) (nat_inc HL.out (by decide)), HL.out, (by first | rfl | trivial), fun j hj => ?_⟩
          by_cases e : j = k
          · subst e; rw [HTt.out]; exact HE.out
          · exact HN.out j (by omega)
        case measure => rw [nat_inc HL.out (by decide)]; have := HL.out; simp [intOf]; omega
    · have hd : decide ((k : Int) < 76) = false := decide_eq_false (by omega)
      have HE := hid_mk (op_miss HS.out fun j hj e => hno j (by omega) (by rw [bt_nm ⟨j, hj⟩]; exact e))
      clear hno hlt hk
      go_wp2
      exact ⟨rfl, rfl, .inr ⟨HE.out, rfl⟩⟩
theorem im_hit {s : List Int} {k : Nat} (hk : k < 6) (h : imW.getD k [] = s) : imW.findIdx? (· == s) = some k := by
  subst h
  have : ∀ j : Fin 6, imW.findIdx? (· == imW.getD j.val []) = some j.val := by decide +kernel
  exact this ⟨k, hk⟩
theorem im_miss {s : List Int} (h : ∀ j, j < 6 → imW.getD j [] ≠ s) : imW.findIdx? (· == s) = none := by
  rw [List.findIdx?_eq_none_iff]
  intro x hx
  obtain ⟨j, hj, rfl⟩ := List.getElem_of_mem hx
  have hl : imW.length = 6 := rfl
  have := h j (by omega)
  rw [List.getD_eq_getElem?_getD, List.getElem?_eq_getElem hj] at this
  simpa using this
set_option maxRecDepth 100000 in
set_option maxHeartbeats 1000000 in
/-- an immediate -/
theorem imm_any (s : ByteArray) (w : World) (hT : Nt w) : Calls Tryz.prog 153 #[.string s] w fun x w' => Out 0 0 w w' ∧ ((∃ n, opnF 3 (bt s) = some (.inl n) ∧ x = .returned (.int .i64 n)) ∨ (opnF 3 (bt s) = none ∧ x = .panicked [giveUp])) := by
  have hop : opnF 3 (bt s) = match imW.findIdx? (· == bt s) with
    | some i => some (.inl i)
    | none => (decF (bt s)).map .inl := rfl
  have HOP := hid_mk hop
  obtain ⟨A, hA⟩ : ∃ A, imL.toArray = A := ⟨_, rfl⟩
  have HA : Hid (∀ j, j < 6 → A[j]? = some (.string (imS j))) := hid_mk fun j hj => by rw [← hA]; simpa using imL_at hj
  have HT := hid_mk hT
  have hA2 : #[Value.string (imS 0), .string (imS 1), .string (imS 2), .string (imS 3), .string (imS 4), .string (imS 5)] = A := hA
  have c0 := hT.2 0 _ (imL_at (by decide))
  have c1 := hT.2 1 _ (imL_at (by decide))
  have c2 := hT.2 2 _ (imL_at (by decide))
  have c3 := hT.2 3 _ (imL_at (by decide))
  have c4 := hT.2 4 _ (imL_at (by decide))
  have c5 := hT.2 5 _ (imL_at (by decide))
  simp only [Nat.zero_add] at c0 c1 c2 c3 c4 c5
  clear hT hop hA
  go_enter Tryz.func153, Tryz.ntmps153
  go_wp2
  (try rw [hA2])
  clear hA2 c0 c1 c2 c3 c4 c5
  go_loopw [6] (fun v wr => ∃ k : Nat, v = .int .i64 k ∧ k ≤ 6 ∧ wr = w ∧ ∀ j, j < k → bt (imS j) ≠ bt s) (fun v _ => 6 - (intOf v).toNat)
  case atStart => exact ⟨0, rfl, by decide, rfl, fun j h => absurd h (Nat.not_lt_zero _)⟩
  case round =>
    obtain ⟨k, rfl, hk, rfl, hno⟩ := hrel
    have HN := hid_mk hno
    by_cases hlt : k < 6
    · have hd : decide ((k : Int) < 6) = true := decide_eq_true (by omega)
      have hat := HA.out k hlt
      obtain ⟨t, ht⟩ : ∃ t, imS k = t := ⟨_, rfl⟩
      rw [ht] at hat
      have HTt := hid_mk ht
      have HL := hid_mk hlt
      clear ht hno hlt hk
      by_cases he : bt t = bt s
      · have hb : (t.toList == s.toList) = true := by rw [bt_eqb]; exact decide_eq_true he
        have HE := hid_mk (im_hit (s := bt s) HL.out (by rw [← bt_im ⟨k, HL.out⟩, HTt.out]; exact he))
        clear he
        have hix := fun W => index6 A k _ HL.out hat W
        go_wp2
        go_ret
        exact ⟨Out.refl _ _ _, .inl ⟨k, by rw [HOP.out, HE.out], rfl⟩⟩
      · have hb : (t.toList == s.toList) = false := by rw [bt_eqb]; exact decide_eq_false he
        have HE := hid_mk he
        clear he
        have hix := fun W => index6 A k _ HL.out hat W
        go_wp2
        go_roundw
        case rel =>
          refine ⟨k + 1, congrArg (Value.int .i64) (nat_inc HL.out (by decide)), HL.out, (by first | rfl | trivial), fun j hj => ?_⟩
          by_cases e : j = k
          · subst e; rw [HTt.out]; exact HE.out
          · exact HN.out j (by omega)
        case measure => rw [nat_inc HL.out (by decide)]; have := HL.out; simp [intOf]; omega
    · have hd : decide ((k : Int) < 6) = false := decide_eq_false (by omega)
      have HE := hid_mk (im_miss (s := bt s) fun j hj e => hno j (by omega) (by rw [bt_im ⟨j, hj⟩]; exact e))
      clear hno hlt hk
      cases hdc : decF (bt s) with
      | none =>
        have HD := hid_mk (fun w => decimal_no hdc w)
        have HDc := hid_mk hdc
        clear hdc
        go_wp2_with (go_at_call 146; refine (HD.out _).mono ?_; rintro e w2 ⟨rfl, o2⟩)
        exact ⟨rfl, o2, .inr ⟨by rw [HOP.out, HE.out, HDc.out]; rfl, rfl⟩⟩
      | some n =>
        have HD := hid_mk (fun w => decimal_yes hdc w)
        have HDc := hid_mk hdc
        clear hdc
        go_wp2_with (go_at_call 146; refine (HD.out _).mono ?_; rintro e w2 ⟨rfl, o2⟩)
        go_ret
        exact ⟨o2, .inl ⟨n, by rw [HOP.out, HE.out, HDc.out]; rfl, rfl⟩⟩
/-- how the operand of an instruction is told -/
def howF (op : Int) : Int := if op = 1 then 2 else if op = 5 then 3 else if op = 2 then 4 else if op = 3 then 5 else if op = 14 ∨ op = 15 then 6 else if op = 4 ∨ op = 6 ∨ op = 7 ∨ op = 8 ∨ op = 9 ∨ op = 10 ∨ op = 16 ∨ op = 17 ∨ op = 18 then 1 else 0
set_option maxRecDepth 100000 in
set_option maxHeartbeats 2000000 in
theorem how_any (op : Int) (w : World) : Calls Tryz.prog 89 #[.int .i64 op] w fun x w' => x = .returned (.int .i64 (howF op)) ∧ w' = w := by
  go_enter Tryz.func89, Tryz.ntmps89
  go_wp2
  all_goals go_ret
  all_goals refine ⟨ret_int ?_, rfl⟩
  all_goals (unfold howF; simp_all)
end Go.Proofs.YtcnjlbjpeklgkaaGreatDoor
namespace Go.Proofs.YtcnjlbjpeklgkaaGreatDoor
open Go.RowKit
set_option linter.unusedVariables false
set_option linter.unusedSimpArgs false

/-- strings that lie somewhere -/
def StAt (w : World) (a : Option Addr) (xs : List ByteArray) : Prop := xs = [] ∨ ∃ g off, a = some ⟨g, off, none⟩ ∧ (∀ (j : Nat) x, xs[j]? = some x → w.cell? ⟨g, off + j, none⟩ = some (.string x)) ∧ ∃ cur, Bl w g cur 9
theorem StAt.out {w w' : World} {a : Option Addr} {xs : List ByteArray} (h : StAt w a xs) (o : Out 0 0 w w') : StAt w' a xs := by
  rcases h with h | ⟨g, off, h1, h2, cur, h3⟩
  · exact .inl h
  · exact .inr ⟨g, off, h1, (fun j x hj => o.cell (h2 j x hj) (.inr (Nat.zero_le _))), cur, h3.kept o (.inr (Nat.zero_le _))⟩
theorem mm_app (a b : List (List Int)) : (a ++ b).mapM decF = (a.mapM decF).bind (fun x => (b.mapM decF).map (fun y => x ++ y)) := by
  rw [List.mapM_append]
  cases a.mapM decF with
  | none => rfl
  | some x => cases b.mapM decF <;> rfl
theorem mm_one (x : List Int) : [x].mapM decF = (decF x).map (fun y => [y]) := by
  simp only [List.mapM_cons, List.mapM_nil]
  cases decF x <;> rfl
theorem mm_rng : ∀ (l : List (List Int)) {r : List Int}, l.mapM decF = some r → r.length = l.length ∧ ∀ n ∈ r, 0 ≤ n ∧ n ≤ 9223372036854775807
  | [], r, h => by simp at h; subst h; simp
  | x :: l, r, h => by
    have h' : ([x] ++ l).mapM decF = some r := h
    rw [mm_app, mm_one] at h'
    cases hx : decF x with
    | none => rw [hx] at h'; cases h'
    | some y =>
      rw [hx] at h'
      cases hl : l.mapM decF with
      | none => rw [hl] at h'; cases h'
      | some z =>
        rw [hl] at h'
        cases h'
        obtain ⟨h1, h2⟩ := mm_rng l hl
        refine ⟨by simp [h1], fun n hn => ?_⟩
        rcases List.mem_cons.1 hn with rfl | hn
        · exact decF_rng hx
        · exact h2 n hn
/-- numbers read so far, zeros behind them -/
def nzV (ns : List Int) (n : Nat) : Array Value := (ns.map (fun x => Value.int .i64 x) ++ List.replicate (n - ns.length) (Value.int .i64 0)).toArray
theorem nz_set {ns : List Int} {n : Nat} (h : ns.length < n) (x : Int) : (nzV ns n).setIfInBounds ns.length (.int .i64 x) = nzV (ns ++ [x]) n := by
  unfold nzV
  obtain ⟨m, hm⟩ : ∃ m, n - ns.length = m + 1 := ⟨n - ns.length - 1, by omega⟩
  rw [hm, List.replicate_succ, List.length_append, List.length_cons, List.length_nil, show n - (ns.length + (0 + 1)) = m from by omega]
  apply Array.ext'
  simp only [List.setIfInBounds_toArray, List.map_append, List.map_cons, List.map_nil]
  rw [List.set_append_right _ _ (by simp)]
  simp
theorem nz_made {n : Nat} (h : 0 < n ∧ n ≤ 3) : madeCells (Value.int .i64 0).cells (n * 1) = nzV [] n := by
  unfold nzV
  apply Array.ext'
  have : (Value.int .i64 0).cells = #[.int .i64 0] := rfl
  rw [this, toList_madeCells_one]
  simp
theorem info_int : (Tryz.prog.info? 3).map (fun i => (i.zero, i.size, i.bytes)) = some (some (.int .i64 0), 1, 8) := by kernel_rfl
theorem mk_ints {n : Nat} (h : 0 < n ∧ n ≤ 3) (w : World) : (Instr.makeSlice 47 (.int .i64 (n : Int)) (.int .i64 (n : Int))).run Tryz.prog w = .ok (.slice (some ⟨w.heap.size, 0, none⟩) n n) (w.alloc (.cells (nzV [] n) 3)) := by
  obtain ⟨i0, hi, hz0, hz1, hz2⟩ := info_p info_int
  have := run_make (P := Tryz.prog) w 47 3 i0 _ Tryz.underlying47 hi hz0 .i64 .i64 (n : Int) (n : Int) (by omega) (Int.le_refl _) (by rw [hz2]; omega) (by omega)
  rw [this, hz1, ← nz_made h]
  simp
theorem nz_zero (n : Nat) : nzV [] n = Array.replicate n (.int .i64 0) := by
  unfold nzV
  apply Array.ext'
  simp
theorem nz_full {ns : List Int} {n : Nat} (h : ns.length = n) : nzV ns n = (ns.map (fun x => Value.int .i64 x)).toArray := by
  unfold nzV
  rw [h, Nat.sub_self, List.replicate_zero, List.append_nil]
theorem nz_at {ns : List Int} {n : Nat} (h : ns.length < n) : (nzV ns n)[ns.length]? = some (.int .i64 0) := by
  unfold nzV
  simp only [List.getElem?_toArray]
  rw [List.getElem?_append_right (by simp), List.length_map, Nat.sub_self, List.getElem?_replicate, if_pos (by omega)]
set_option maxRecDepth 100000 in
set_option maxHeartbeats 2000000 in
/-- so many decimal numbers -/
theorem nums_any (xs : List ByteArray) (a : Option Addr) (m c n : Nat) (hm : xs.length = m) (hm2 : m ≤ 1900000) (hn : 0 < n ∧ n ≤ 3) (w : World) (hx : StAt w a xs) :
    Calls Tryz.prog 125 #[.slice a m c, .int .i64 (n : Int)] w fun x w' => Out 0 0 w w' ∧ ((∃ ns g, numsF (xs.map bt) n = some ns ∧ ns.length = n ∧ x = .returned (.slice (some ⟨g, 0, none⟩) n n) ∧ Bl w' g (ns.map (fun x => Value.int .i64 x)).toArray 3) ∨ (numsF (xs.map bt) n = none ∧ x = .panicked [giveUp])) := by
  have HX := hid_mk hx
  have HM := hid_mk hm
  by_cases he : m = n
  · have h1 : ((m : Int) == (n : Int)) = true := by rw [he]; simp
    have hnf : Hid (numsF (xs.map bt) n = (xs.map bt).mapM decF) := hid_mk (by unfold numsF; rw [if_pos (by simp [hm, he])])
    have HN := hid_mk hn
    obtain ⟨hn0, hn3⟩ := hn
    have hmk := fun W => mk_ints HN.out W
    obtain ⟨g, hg⟩ : ∃ g, w.heap.size = g := ⟨_, rfl⟩
    have HG := hid_mk hg
    have hk0 := (Bl.new w (nzV [] n) 3)
    rw [hg] at hk0
    have HK0 := hid_mk hk0
    subst he
    clear hx hm2 hk0
    go_enter Tryz.func125, Tryz.ntmps125
    go_wp2_with (first | (go_at_call 104; refine calls_same (awant_yes _) ?_) | fail)
    (try rw [hg])
    clear hg hmk
    go_loopw [17] (fun v wr => ∃ ns : List Int, v = .int .i64 (ns.length : Int) ∧ ns.length ≤ m ∧ ((xs.map bt).take ns.length).mapM decF = some ns ∧ Bl wr g (nzV ns m) 3 ∧ Out 0 0 w wr) (fun v _ => m - (intOf v).toNat)
    case atStart => exact ⟨[], rfl, Nat.zero_le _, rfl, HK0.out, (Out.refl 0 0 w).alloc _⟩
    case round =>
      obtain ⟨ns, rfl, hl, hmm, hB, hO⟩ := hrel
      have HMM := hid_mk hmm
      have HB := hid_mk hB
      have HO := hid_mk hO
      obtain ⟨k, hk⟩ : ∃ k, ns.length = k := ⟨_, rfl⟩
      have HK := hid_mk hk
      rw [hk] at hl ⊢
      by_cases hlt : k < m
      · have hd : decide ((k : Int) < (m : Int)) = true := decide_eq_true (by omega)
        have hkm : (k : Int) < (m : Int) := by omega
        have hk0 : (0 : Int) ≤ (k : Int) := by omega
        obtain ⟨x, hxk⟩ : ∃ x, xs[k]? = some x := ⟨_, List.getElem?_eq_getElem (by have := HM.out; omega)⟩
        obtain ⟨q, off, rfl, hcs⟩ : ∃ g off, a = some ⟨g, off, none⟩ ∧ ∀ (j : Nat) x, xs[j]? = some x → wr.cell? ⟨g, off + j, none⟩ = some (.string x) := by
          rcases HX.out.out HO.out with h | ⟨g, off, h1, h2, _⟩
          · rw [h] at hxk; simp at hxk
          · exact ⟨g, off, h1, h2⟩
        have c0 := hcs k x hxk
        have b0 := HB.out.cell (i := k) (by rw [← HK.out]; exact nz_at (by have := HK.out; omega))
        have f0 := HB.out.frozen k
        have HXk := hid_mk hxk
        have HL := hid_mk hlt
        have hup : Hid (((xs.map bt).take (k + 1)).mapM decF = (decF (bt x)).map (fun y => ns ++ [y])) := hid_mk (by
          rw [List.take_add_one, List.getElem?_map, hxk, mm_app]
          have e := HMM.out
          rw [HK.out] at e
          rw [e]
          simp only [Option.map_some, Option.toList_some, Option.bind_some, mm_one]
          cases decF (bt x) <;> rfl)
        clear hk hlt hmm hB hO hcs hxk hl
        cases hdc : decF (bt x) with
        | none =>
          have HD := hid_mk (fun w => decimal_no hdc w)
          have HDc := hid_mk hdc
          clear hdc
          go_wp2_with (go_at_call 146; refine (HD.out _).mono ?_; rintro e w2 ⟨rfl, o2⟩)
          refine ⟨rfl, HO.out.trans o2, .inr ⟨?_, rfl⟩⟩
          have e := hup.out
          rw [HDc.out] at e
          rw [hnf.out, ← List.take_append_drop (k + 1) (xs.map bt), mm_app, e]
          rfl
        | some y =>
          have HD := hid_mk (fun w => decimal_yes hdc w)
          have HDc := hid_mk hdc
          clear hdc
          go_wp2_with (go_at_call 146; refine (HD.out _).mono ?_; rintro e w2 ⟨rfl, o2⟩; replace b0 := o2.cell b0 (.inr (Nat.zero_le _)); replace f0 := (HB.out.kept o2 (.inr (Nat.zero_le _))).frozen k)
          have hns : (ns ++ [y]).length = k + 1 := by rw [List.length_append, HK.out]; rfl
          go_roundw
          case rel =>
            refine ⟨ns ++ [y], ?_, by rw [hns]; exact HL.out, ?_, ?_, ?_⟩
            · rw [hns]; exact congrArg (Value.int .i64) (by omega)
            · rw [hns, hup.out, HDc.out]; rfl
            · have := (HB.out.kept o2 (.inr (Nat.zero_le _))).set k (.int .i64 y)
              rw [← HK.out, nz_set (by rw [HK.out]; exact HL.out)] at this
              rw [HK.out] at this
              exact this
            · exact (HO.out.trans o2).past (lo := g) (hi := g + 1) ((Out.refl _ _ _).setCell (p := ⟨g, k, none⟩) (.inl ⟨Nat.le_refl _, Nat.lt_succ_self _⟩) _) (by rw [HG.out]; exact Nat.le_refl _)
          case measure => have := HL.out; simp [intOf]; omega
      · have hd : decide (k < m) = false := decide_eq_false hlt
        have hkm : k = m := by omega
        have HE := hid_mk hkm
        clear hk hlt hmm hB hO hkm hl
        go_wp2
        go_ret
        have hlen : ns.length = m := by rw [HK.out]; exact HE.out
        refine ⟨HO.out, .inl ⟨ns, g, ?_, hlen, rfl, nz_full hlen ▸ HB.out⟩⟩
        rw [hnf.out, ← HMM.out, hlen, List.take_of_length_le (by rw [List.length_map, HM.out]; exact Nat.le_refl _)]
  · have h1 : ((m : Int) == (n : Int)) = false := by simp only [beq_eq_false_iff_ne, ne_eq]; omega
    have hnf : Hid (numsF (xs.map bt) n = none) := hid_mk (by unfold numsF; rw [if_neg (by simp [hm, he])])
    clear hx hm hm2 he
    go_enter Tryz.func125, Tryz.ntmps125
    go_wp2_with (go_at_call 104; refine calls_stop (awant_no _) ?_)
    exact ⟨rfl, Out.refl _ _ _, .inr ⟨hnf.out, rfl⟩⟩
end Go.Proofs.YtcnjlbjpeklgkaaGreatDoor
