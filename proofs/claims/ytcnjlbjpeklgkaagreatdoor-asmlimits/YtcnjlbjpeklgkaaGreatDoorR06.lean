import Derived.Test.YtcnjlbjpeklgkaaGreatDoorR04
import Derived.Test.YtcnjlbjpeklgkaaGreatDoorR05
import Derived.Test.YtcnjlbjpeklgkaaGreatDoorR03
import Derived.Lib.OthersKept
namespace Go.Proofs.YtcnjlbjpeklgkaaGreatDoor
set_option linter.unusedVariables false
set_option linter.unusedSimpArgs false

/-- a word is not empty; one that a sign begins is a quote with its signs -/
def WdOk (w : List Int) : Prop := w ≠ [] ∧ ∀ q, (q = 34 ∨ q = 39) → w.head? = some q → 2 ≤ w.length ∧ w.getLast? = some q
theorem wok_plain {w : List Int} {c : Int} (h : w.head? = some c) (h1 : c ≠ 34) (h2 : c ≠ 39) : WdOk w := by
  constructor
  · intro e
    rw [e] at h
    cases h
  · intro q hq hh
    rw [h] at hh
    cases hh
    rcases hq with hq | hq
    · exact absurd hq h1
    · exact absurd hq h2
/-- where a reader stands, all is well so far -/
def ScOk : Sc → Prop
  | .gap => True
  | .word w => ∃ c, w.head? = some c ∧ c ≠ 34 ∧ c ≠ 39
  | .quo q w => w.head? = some q
  | .esc q w => w.head? = some q
  | .shut w => WdOk w
theorem head_app {w : List Int} {c : Int} (h : w.head? = some c) (d : Int) : (w ++ [d]).head? = some c := by
  cases w with
  | nil => cases h
  | cons x w => simpa using h
theorem ws_ok (l : List Int) : ∀ (s : Sc) (r : List (List Int)), ScOk s → wsA s l = some r → ∀ w ∈ r, WdOk w := by
  induction l with
  | nil =>
    intro s r hs h
    cases s with
    | gap => simp only [wsA] at h; cases h; intro w hw; simp at hw
    | word w =>
      simp only [wsA] at h
      cases h
      intro v hv
      obtain rfl : v = w := by simpa using hv
      obtain ⟨c, h1, h2, h3⟩ := hs
      exact wok_plain h1 h2 h3
    | quo q w => simp only [wsA] at h; cases h
    | esc q w => simp only [wsA] at h; cases h
    | shut w =>
      simp only [wsA] at h
      cases h
      intro v hv
      obtain rfl : v = w := by simpa using hv
      exact hs
  | cons c l ih =>
    intro s r hs h
    cases s with
    | gap =>
      rw [wsA] at h
      split at h
      · exact ih .gap r trivial h
      · split at h
        · cases h; intro w hw; simp at hw
        · split at h
          · rename_i hq
            exact ih (.quo c [c]) r rfl h
          · rename_i hq
            exact ih (.word [c]) r ⟨c, rfl, fun e => hq (.inl e), fun e => hq (.inr e)⟩ h
    | word w =>
      obtain ⟨d, h1, h2, h3⟩ := hs
      rw [wsA] at h
      split at h
      · cases hg : wsA .gap l with
        | none => rw [hg] at h; cases h
        | some r' =>
          rw [hg] at h
          cases h
          intro v hv
          rcases List.mem_cons.1 hv with rfl | hv
          · exact wok_plain h1 h2 h3
          · exact ih .gap r' trivial hg v hv
      · split at h
        · cases h
          intro v hv
          obtain rfl : v = w := by simpa using hv
          exact wok_plain h1 h2 h3
        · exact ih (.word (w ++ [c])) r ⟨d, head_app h1 c, h2, h3⟩ h
    | quo q w =>
      rw [wsA] at h
      split at h
      · rename_i e
        subst e
        refine ih (.shut (w ++ [c])) r ⟨by simp, fun p hp hh => ?_⟩ h
        rw [head_app hs c] at hh
        cases hh
        refine ⟨?_, by simp⟩
        cases w with
        | nil => cases hs
        | cons x w => simp
      · split at h
        · exact ih (.esc q (w ++ [c])) r (head_app hs c) h
        · exact ih (.quo q (w ++ [c])) r (head_app hs c) h
    | esc q w =>
      rw [wsA] at h
      exact ih (.quo q (w ++ [c])) r (head_app hs c) h
    | shut w =>
      rw [wsA] at h
      split at h
      · cases hg : wsA .gap l with
        | none => rw [hg] at h; cases h
        | some r' =>
          rw [hg] at h
          cases h
          intro v hv
          rcases List.mem_cons.1 hv with rfl | hv
          · exact hs
          · exact ih .gap r' trivial hg v hv
      · split at h
        · cases h
          intro v hv
          obtain rfl : v = w := by simpa using hv
          exact hs
        · cases h
theorem wsF_ok {l : List Int} {r : List (List Int)} (h : wsF l = some r) : ∀ w ∈ r, WdOk w := ws_ok l .gap r trivial h

/-- an operation's name ends with no colon -/
theorem op_back {w : List Int} (h : opF w ≠ 0) : w = nameF (opF w) ∧ ((1 ≤ opF w ∧ opF w ≤ 22) ∨ (30 ≤ opF w ∧ opF w ≤ 75)) := by
  unfold opF at h ⊢
  cases h1 : nm1.findIdx? (· == w) with
  | some i =>
    obtain ⟨hi, hw, _⟩ := List.findIdx?_eq_some_iff_getElem.1 h1
    have hl : nm1.length = 22 := rfl
    refine ⟨?_, by simp only; omega⟩
    simp only
    unfold nameF
    rw [if_pos (by omega), show ((1 : Int) + (i : Int) - 1).toNat = i from by omega, List.getD_eq_getElem?_getD, List.getElem?_eq_getElem hi]
    exact (eq_of_beq hw).symm
  | none =>
    cases h2 : nm2.findIdx? (· == w) with
    | some i =>
      obtain ⟨hi, hw, _⟩ := List.findIdx?_eq_some_iff_getElem.1 h2
      have hl : nm2.length = 46 := rfl
      refine ⟨?_, by simp only; omega⟩
      simp only
      unfold nameF
      rw [if_neg (by omega), if_pos (by omega), show ((30 : Int) + (i : Int) - 30).toNat = i from by omega, List.getD_eq_getElem?_getD, List.getElem?_eq_getElem hi]
      exact (eq_of_beq hw).symm
    | none =>
      rw [h1, h2] at h
      exact absurd rfl h
theorem nm_last : ∀ i : Fin 76, nameF (i.val : Int) ≠ [] → (nameF (i.val : Int)).getLast? ≠ some 58 := by decide +kernel
theorem op_colon {w : List Int} (h : w.getLast? = some 58) : opF w = 0 := by
  rcases Classical.em (opF w = 0) with e | e
  · exact e
  · exfalso
    obtain ⟨h1, h2⟩ := op_back e
    have := nm_last ⟨(opF w).toNat, by omega⟩
    have e2 : (((opF w).toNat : Nat) : Int) = opF w := by omega
    simp only [e2] at this
    rw [← h1] at this
    exact this (fun q => by rw [q] at h; cases h) h
/-- a label's line with more behind it is none -/
theorem words_lab (m : MkF) (line : Nat) {w : List Int} (l : List (List Int)) (h : w.getLast? = some 58) : m.words plO line (w :: l) = if l = [] then m.mark w.dropLast else none := by
  simp only [MkF.words]
  by_cases hl : l = []
  · rw [if_pos ⟨hl, h⟩, if_pos hl]
  · rw [if_neg (fun q => hl q.1), if_neg hl]
    have n1 : w ≠ byS "globals" := fun e => by rw [e] at h; exact absurd h (by decide +kernel)
    have n2 : w ≠ byS "text" := fun e => by rw [e] at h; exact absurd h (by decide +kernel)
    have n3 : w ≠ byS "func" := fun e => by rw [e] at h; exact absurd h (by decide +kernel)
    rw [if_neg n1, if_neg (fun q => n2 q.1), if_neg n3]
    unfold MkF.ins
    rw [if_pos (.inl (op_colon h))]
theorem words_not (m : MkF) (line : Nat) {w : List Int} (l : List (List Int)) (h : w.getLast? ≠ some 58) : m.words plO line (w :: l) =
    if w = byS "globals" then m.globals l else if w = byS "func" then m.func l else if w = byS "text" ∧ m.inside = false then m.text l else m.ins plO line w l := by
  simp only [MkF.words]
  rw [if_neg (fun q => h q.2)]
  by_cases h1 : w = byS "globals"
  · rw [if_pos h1, if_pos h1]
  · rw [if_neg h1, if_neg h1]
    by_cases h2 : w = byS "func"
    · rw [if_pos h2, if_pos h2, if_neg]
      rintro ⟨q, _⟩
      rw [h2] at q
      exact absurd q (by decide +kernel)
    · rw [if_neg h2, if_neg h2]
end Go.Proofs.YtcnjlbjpeklgkaaGreatDoor
namespace Go.Proofs.YtcnjlbjpeklgkaaGreatDoor
open Go.RowKit
set_option linter.unusedVariables false
set_option linter.unusedSimpArgs false

def bt (s : ByteArray) : List Int := s.data.toList.map (fun c => (c.toNat : Int))
theorem bt_len (s : ByteArray) : (bt s).length = s.size := by unfold bt; simp
theorem bt_get {s : ByteArray} {i : Nat} (h : i < s.size) : (bt s)[i]? = some ((s[i]'h).toNat : Int) := by
  unfold bt
  rw [List.getElem?_map]
  have : s.data.toList[i]? = some (s[i]'h) := by
    rw [List.getElem?_eq_some_iff]
    exact ⟨by simpa using h, rfl⟩
  rw [this]; rfl
theorem bt_inj {s t : ByteArray} (h : bt s = bt t) : s = t := by
  unfold bt at h
  have : s.data.toList = t.data.toList := by
    have hf : Function.Injective (fun c : UInt8 => (c.toNat : Int)) := fun a b e => by
      have : a.toNat = b.toNat := Int.ofNat.inj e
      exact UInt8.toNat.inj this
    exact (List.map_inj_right (fun a b e => hf e)).1 h
  apply ByteArray.ext
  exact Array.ext' this
theorem bt_app (s t : ByteArray) : bt (s ++ t) = bt s ++ bt t := by unfold bt; simp
theorem bt_ext (s : ByteArray) (i j : Nat) : bt (s.extract i j) = ((bt s).drop i).take (j - i) := by
  unfold bt
  rw [ByteArray.data_extract, Array.toList_extract]
  simp [List.extract_eq_take_drop, List.map_take, List.map_drop]
theorem bt_from (s : ByteArray) (i : Nat) : bt (s.extract i s.size) = (bt s).drop i := by
  rw [bt_ext]
  apply List.take_of_length_le
  rw [List.length_drop, bt_len]
  omega
theorem bt_to (s : ByteArray) (j : Nat) : bt (s.extract 0 j) = (bt s).take j := by
  rw [bt_ext]; simp
theorem bt_rng (s : ByteArray) : ∀ c ∈ bt s, 0 ≤ c ∧ c ≤ 255 := by
  intro c hc
  unfold bt at hc
  obtain ⟨x, _, rfl⟩ := List.mem_map.1 hc
  have := x.toNat_lt
  omega
theorem bt_get! {s : ByteArray} {i : Nat} (h : i < s.size) : (bt s)[i]? = some ((s.get! i).toNat : Int) := by
  rw [bt_get h]
  simp [ByteArray.get!, getElem!_pos, h]
  rfl
theorem bt_nil {s : ByteArray} : bt s = [] ↔ s = ⟨#[]⟩ := by
  constructor
  · intro h; exact bt_inj h
  · rintro rfl; rfl
/-- a rune of a string, as the model reads it -/
theorem dec_at (s : ByteArray) (i : Nat) (h : i < s.size) : RuneAt (bt s) i (Utf8.decode s i).1 (Utf8.decode s i).2 := by
  have b0 := bt_get! h
  unfold RuneAt
  rw [bt_len]
  have hc : ∀ k, (decide (i + k < s.size) = true ∧ ((s.get! (i + k)).toNat / 64 == 2) = true) → i + k < s.size ∧ ∃ c, (bt s)[i + k]? = some c ∧ 128 ≤ c := by
    intro k hk
    simp only [decide_eq_true_eq, beq_iff_eq] at hk
    exact ⟨hk.1, _, bt_get! hk.1, by omega⟩
  have one : 128 ≤ (s.get! i).toNat → ∀ k, k < 1 → ∃ c, (bt s)[i + k]? = some c ∧ 128 ≤ c := by
    intro h0 k hk
    obtain rfl : k = 0 := by omega
    exact ⟨_, b0, by omega⟩
  unfold Utf8.decode
  simp only [Nat.add_zero]
  by_cases h0 : (s.get! i).toNat < 128
  · rw [if_pos h0]
    exact .inl ⟨h0, rfl, b0⟩
  · rw [if_neg h0]
    have h0' : 128 ≤ (s.get! i).toNat := by omega
    have e : 128 ≤ Utf8.runeError ∧ 1 ≤ 1 ∧ i + 1 ≤ s.size ∧ ∀ k, k < 1 → ∃ c, (bt s)[i + k]? = some c ∧ 128 ≤ c := ⟨by decide, by decide, by omega, one h0'⟩
    right
    split
    · rename_i h1
      simp only [Bool.and_eq_true] at h1
      obtain ⟨_, h1⟩ := h1
      split
      · rename_i h2
        refine ⟨by omega, by omega, by have := (hc 1 h1).1; omega, fun k hk => ?_⟩
        match k, hk with
        | 0, _ => exact one h0' 0 (by omega)
        | 1, _ => exact (hc 1 h1).2
      · exact e
    · split
      · rename_i h1
        simp only [Bool.and_eq_true] at h1
        obtain ⟨⟨_, h1⟩, h1'⟩ := h1
        split
        · rename_i h2
          simp only [Bool.and_eq_true, decide_eq_true_eq] at h2
          refine ⟨by omega, by omega, by have := (hc 2 h1').1; omega, fun k hk => ?_⟩
          match k, hk with
          | 0, _ => exact one h0' 0 (by omega)
          | 1, _ => exact (hc 1 h1).2
          | 2, _ => exact (hc 2 h1').2
        · exact e
      · split
        · rename_i h1
          simp only [Bool.and_eq_true] at h1
          obtain ⟨⟨⟨_, h1⟩, h1'⟩, h1''⟩ := h1
          split
          · rename_i h2
            simp only [Bool.and_eq_true, decide_eq_true_eq] at h2
            refine ⟨by omega, by omega, by have := (hc 3 h1'').1; omega, fun k hk => ?_⟩
            match k, hk with
            | 0, _ => exact one h0' 0 (by omega)
            | 1, _ => exact (hc 1 h1).2
            | 2, _ => exact (hc 2 h1').2
            | 3, _ => exact (hc 3 h1'').2
          · exact e
        · exact e
theorem out_iter {w : World} {k : Nat} (s : ByteArray) (pos : Nat) : Out k (k + 1) w (w.iterAt k s pos) :=
  ⟨rfl, rfl, rfl, by rw [Lib.iterAt_size]; exact Nat.le_refl _, fun j _ h2 => Lib.iterAt_other w k j s pos (by omega)⟩

/-- what a wrong part of a line carries -/
def giveUp : PanicEntry := { v := .iface 153 (.agg #[]), recovered := false }
theorem awant_yes (w : World) : Calls Tryz.prog 104 #[.bool true] w fun x w' => x = .returned (.tuple #[]) ∧ w' = w := by
  go_enter Tryz.func104, Tryz.ntmps104
  go_wp2
  exact bodyPost_end (results_none Tryz.results104 _ _ _) rfl ⟨rfl, rfl⟩
theorem awant_no (w : World) : Calls Tryz.prog 104 #[.bool false] w fun x w' => x = .panicked [giveUp] ∧ w' = w := by
  go_enter Tryz.func104, Tryz.ntmps104
  go_wp2
  exact ⟨rfl, rfl, rfl⟩
set_option maxRecDepth 100000 in
theorem acaught_nil (w : World) : Calls Tryz.prog 62 #[.nilIface] w fun x w' => x = .returned (.bool false) ∧ w' = w := by
  go_enter Tryz.func62, Tryz.ntmps62
  go_wp2
  go_ret
  exact ⟨rfl, rfl⟩
set_option maxRecDepth 100000 in
theorem acaught_wrong (w : World) : Calls Tryz.prog 62 #[.iface 153 (.agg #[])] w fun x w' => x = .returned (.bool true) ∧ Out 0 0 w w' := by
  have hta : ∀ w, (Instr.typeAssert (.iface 153 (.agg #[])) 20 153 true).run Tryz.prog w = .ok (.tuple #[.agg #[], .bool true]) w := fun w => by kernel_rfl
  go_enter Tryz.func62, Tryz.ntmps62
  go_wp2
  go_ret
  exact ⟨rfl, (Out.refl 0 0 w).alloc _⟩
def endR (r : Int) : Bool := decide (r = 32 ∨ r = 9 ∨ r = 59)
theorem ends_any (r : Int) (w : World) : Calls Tryz.prog 103 #[.int .i32 r] w fun x w' => x = .returned (.bool (endR r)) ∧ w' = w := by
  go_enter Tryz.func103, Tryz.ntmps103
  go_wp2
  all_goals go_ret
  all_goals refine ⟨ret_bool ?_, rfl⟩
  all_goals (rw [Bool.eq_iff_iff]; unfold endR; simp; try omega)
theorem letter_any (r : Nat) (w : World) : Calls Tryz.prog 144 #[.int .i32 (r : Int)] w fun x w' => x = .returned (.bool (ltR r)) ∧ w' = w := by
  go_enter Tryz.func144, Tryz.ntmps144
  go_wp2
  all_goals go_ret
  all_goals refine ⟨ret_bool ?_, rfl⟩
  all_goals (rw [Bool.eq_iff_iff]; unfold ltR; simp; try omega)
theorem digit_any (r : Nat) (w : World) : Calls Tryz.prog 145 #[.int .i32 (r : Int)] w fun x w' => x = .returned (.bool (dgR r)) ∧ w' = w := by
  go_enter Tryz.func145, Tryz.ntmps145
  go_wp2
  all_goals go_ret
  all_goals refine ⟨ret_bool ?_, rfl⟩
  all_goals (rw [Bool.eq_iff_iff]; unfold dgR; simp; try omega)
end Go.Proofs.YtcnjlbjpeklgkaaGreatDoor
namespace Go.Proofs.YtcnjlbjpeklgkaaGreatDoor
open Go.RowKit
set_option linter.unusedVariables false
set_option linter.unusedSimpArgs false

theorem bt_tl (s : ByteArray) : bt s = s.toList.map (fun c => (c.toNat : Int)) := by unfold bt; rw [ByteArray.toList_eq]
theorem bt_some (s : ByteArray) : (!s.toList.isEmpty) = decide (bt s ≠ []) := by
  rw [bt_tl, Bool.eq_iff_iff]
  simp
theorem iter_pos {wr : World} {k : Nat} {s : ByteArray} {pos : Nat} (h : wr.heap[k]? = some (.stringIter s pos)) : wr.iterPos k = pos := by
  unfold World.iterPos; rw [h]
theorem out_step {w wr : World} (h : Out 0 0 w wr) (s : ByteArray) (pos : Nat) : Out 0 0 w (wr.iterAt w.heap.size s pos) := h.past (out_iter s pos) (Nat.le_refl _)
set_option maxRecDepth 100000 in
set_option maxHeartbeats 1000000 in
theorem name_any (s : ByteArray) (w : World) : Calls Tryz.prog 124 #[.string s] w fun x w' => x = .returned (.bool (nmB (bt s))) ∧ Out 0 0 w w' := by
  go_enter Tryz.func124, Tryz.ntmps124
  go_wp2
  go_loopw [3] (fun _ wr => ∃ pos, wr.heap[w.heap.size]? = some (.stringIter s pos) ∧ Out 0 0 w wr ∧ NmAt (bt s) pos ∧ pos ≤ s.size) (fun _ wr => s.size - wr.iterPos w.heap.size)
  case atStart => exact ⟨0, World.iter_heap w s 0, (Out.refl 0 0 w).alloc _, NmAt.zero _, Nat.zero_le _⟩
  case round =>
    obtain ⟨pos, hit, hO, hN, hp⟩ := hrel
    have HI := hid_mk hit
    have HO := hid_mk hO
    have HN := hid_mk hN
    by_cases hlt : pos < s.size
    · have hnx := fun ty => Lib.run_next_any_at (P := Tryz.prog) wr w.heap.size s pos ty hit hlt
      have hr := dec_at s pos hlt
      obtain ⟨⟨c, wd⟩, hcw⟩ : ∃ q, Utf8.decode s pos = q := ⟨_, rfl⟩
      rw [hcw] at hr hnx
      simp only at hr hnx
      have HR := hid_mk hr
      have HH := hid_mk (Lib.iterAt_heap wr w.heap.size s pos (pos + wd) hit)
      have HL := hid_mk hlt
      clear hit hO hN hp hr hcw hlt
      rcases hl : ltR c with _ | _
      · have L : Hid (∀ W, Calls Tryz.prog 144 #[.int .i32 (c : Int)] W fun x w' => x = .returned (.bool false) ∧ w' = W) := hid_mk fun W => by have := letter_any c W; rwa [hl] at this
        have Hl := hid_mk hl
        clear hl
        by_cases hz : pos = 0
        · subst hz
          go_wp2_with (go_at_call 144; refine calls_same (L.out _) ?_)
          go_ret
          exact ⟨ret_bool (HR.out.nm_no HN.out Hl.out (.inl rfl)).symm, out_step HO.out _ _⟩
        · have hz1 : ((pos : Int) == 0) = false := by simpa using hz
          have Hz := hid_mk hz
          clear hz
          rcases hd : dgR c with _ | _
          · have D : Hid (∀ W, Calls Tryz.prog 145 #[.int .i32 (c : Int)] W fun x w' => x = .returned (.bool false) ∧ w' = W) := hid_mk fun W => by have := digit_any c W; rwa [hd] at this
            have Hd := hid_mk hd
            clear hd
            go_wp2_with (first | (go_at_call 144; refine calls_same (L.out _) ?_) | (go_at_call 145; refine calls_same (D.out _) ?_))
            go_ret
            exact ⟨ret_bool (HR.out.nm_no HN.out Hl.out (.inr Hd.out)).symm, out_step HO.out _ _⟩
          · have D : Hid (∀ W, Calls Tryz.prog 145 #[.int .i32 (c : Int)] W fun x w' => x = .returned (.bool true) ∧ w' = W) := hid_mk fun W => by have := digit_any c W; rwa [hd] at this
            have Hd := hid_mk hd
            clear hd
            go_wp2_with (first | (go_at_call 144; refine calls_same (L.out _) ?_) | (go_at_call 145; refine calls_same (D.out _) ?_))
            go_roundw
            case rel => exact ⟨pos + wd, HH.out, out_step HO.out _ _, HR.out.nm_on HN.out (.inr ⟨Hz.out, Hd.out⟩), by have := HR.out.pos; rw [bt_len] at this; omega⟩
            case measure =>
              rw [iter_pos HH.out, iter_pos HI.out]
              have := HR.out.pos; have := HL.out; omega
      · have L : Hid (∀ W, Calls Tryz.prog 144 #[.int .i32 (c : Int)] W fun x w' => x = .returned (.bool true) ∧ w' = W) := hid_mk fun W => by have := letter_any c W; rwa [hl] at this
        have Hl := hid_mk hl
        clear hl
        go_wp2_with (go_at_call 144; refine calls_same (L.out _) ?_)
        go_roundw
        case rel => exact ⟨pos + wd, HH.out, out_step HO.out _ _, HR.out.nm_on HN.out (.inl Hl.out), by have := HR.out.pos; rw [bt_len] at this; omega⟩
        case measure =>
          rw [iter_pos HH.out, iter_pos HI.out]
          have := HR.out.pos; have := HL.out; omega
    · have hnx := fun ty => Lib.run_next_end_at (P := Tryz.prog) wr w.heap.size s pos ty hit hlt
      have he := hN.end_ (by rw [bt_len]; omega)
      have HE := hid_mk he
      clear hit hO hN hp he hlt
      go_wp2
      all_goals go_ret
      all_goals refine ⟨ret_bool ?_, HO.out⟩
      all_goals rw [HE.out]
      all_goals exact bt_some s
theorem bt_one (s : ByteArray) (b : UInt8) : (s.toList == [b]) = decide (bt s = [(b.toNat : Int)]) := by
  rw [bt_tl, Bool.eq_iff_iff]
  simp only [beq_iff_eq, decide_eq_true_eq]
  constructor
  · intro h; rw [h]; rfl
  · intro h
    match hs : s.toList, h with
    | [c], h =>
      simp only [List.map_cons, List.map_nil, List.cons.injEq, and_true] at h
      rw [UInt8.toNat.inj (Int.ofNat.inj h)]
    | [], h => simp at h
    | a :: b :: l, h => simp at h
theorem bt_empty (s : ByteArray) : s.toList.isEmpty = decide (bt s = []) := by
  rw [bt_tl, Bool.eq_iff_iff]
  simp
theorem bt_head {s : ByteArray} (h : 0 < s.size) : (bt s).head? = some ((s[0]'h).toNat : Int) := by
  rw [List.head?_eq_getElem?, bt_get h]
theorem dec_d {c : Nat} (h : 48 ≤ c ∧ c ≤ 57) : wrap64 (wrap32 ((c : Int) - 48)) = (c : Int) - 48 := by unfold wrap64 wrap32; omega
theorem dec_guard {n : Int} {c : Nat} (h0 : 0 ≤ n) (h1 : n ≤ 9223372036854775807) (h : 48 ≤ c ∧ c ≤ 57) : decide (n ≤ wrap64 ((wrap64 (9223372036854775807 - wrap64 (wrap32 ((c : Int) - 48)))).tdiv 10)) = decide (n * 10 + ((c : Int) - 48) ≤ 9223372036854775807) := by
  rw [dec_d h]
  have e1 : wrap64 (9223372036854775807 - ((c : Int) - 48)) = 9223372036854775807 - ((c : Int) - 48) := by unfold wrap64; omega
  rw [e1, Int.tdiv_eq_ediv_of_nonneg (by omega)]
  have e2 : wrap64 ((9223372036854775807 - ((c : Int) - 48)) / 10) = (9223372036854775807 - ((c : Int) - 48)) / 10 := by unfold wrap64; omega
  rw [e2, Bool.eq_iff_iff]
  simp only [decide_eq_true_eq]
  omega
theorem dec_val {n : Int} {c : Nat} (h0 : 0 ≤ n) (h1 : n ≤ 9223372036854775807) (h : 48 ≤ c ∧ c ≤ 57) (h2 : n * 10 + ((c : Int) - 48) ≤ 9223372036854775807) : wrap64 (wrap64 (10 * n) + wrap64 (wrap32 ((c : Int) - 48))) = n * 10 + ((c : Int) - 48) := by
  rw [dec_d h]
  have e1 : wrap64 (10 * n) = 10 * n := by unfold wrap64; omega
  rw [e1]
  unfold wrap64
  omega
set_option maxRecDepth 100000 in
set_option maxHeartbeats 2000000 in
/-- a decimal number, or none -/
theorem decimal_any (s : ByteArray) (w : World) : Calls Tryz.prog 146 #[.string s] w fun x w' => Out 0 0 w w' ∧ ((∃ n, decF (bt s) = some n ∧ x = .returned (.int .i64 n)) ∨ (decF (bt s) = none ∧ x = .panicked [giveUp])) := by
  by_cases hb : bt s = []
  · have h1 : (s.toList == [48]) = false := by have := bt_one s 48; rw [this, hb]; rfl
    have h2 : s.toList.isEmpty = true := by rw [bt_empty, hb]; rfl
    have hd : decF (bt s) = none := by rw [hb]; rfl
    clear hb
    go_enter Tryz.func146, Tryz.ntmps146
    go_wp2_with (go_at_call 104; refine calls_stop (awant_no _) ?_)
    exact ⟨rfl, Out.refl _ _ _, .inr ⟨hd, rfl⟩⟩
  have hpos : 0 < s.size := by
    rcases Nat.eq_zero_or_pos s.size with h | h
    · exact absurd (List.eq_nil_of_length_eq_zero (by rw [bt_len]; exact h)) hb
    · exact h
  have h2 : s.toList.isEmpty = false := by rw [bt_empty]; exact decide_eq_false hb
  have hh := bt_head hpos
  by_cases h48 : bt s = [48]
  · have h1 : (s.toList == [48]) = true := by have := bt_one s 48; rw [this]; exact decide_eq_true h48
    have hdec : decF (bt s) = decA 0 (bt s) := by rw [h48]; rfl
    rw [hdec]
    clear hdec hh h2 hb h48 hpos
    go_enter Tryz.func146, Tryz.ntmps146
    go_wp2_with (go_at_call 104; refine calls_same (awant_yes _) ?_)
    go_loopw [3] (fun v wr => ∃ pos n, v = .int .i64 n ∧ 0 ≤ n ∧ n ≤ 9223372036854775807 ∧ decA 0 (bt s) = decA n ((bt s).drop pos) ∧ wr.heap[w.heap.size]? = some (.stringIter s pos) ∧ Out 0 0 w wr ∧ pos ≤ s.size) (fun _ wr => s.size - wr.iterPos w.heap.size)
    case atStart => exact ⟨0, 0, rfl, Int.le_refl _, by decide, rfl, World.iter_heap w s 0, (Out.refl 0 0 w).alloc _, Nat.zero_le _⟩
    case round =>
      obtain ⟨pos, n, rfl, hn0, hn1, hdc, hit, hO, hp⟩ := hrel
      have HO := hid_mk hO
      have HC := hid_mk hdc
      have HN := hid_mk (And.intro hn0 hn1)
      by_cases hlt : pos < s.size
      · have hnx := fun ty => Lib.run_next_any_at (P := Tryz.prog) wr w.heap.size s pos ty hit hlt
        have hr := dec_at s pos hlt
        obtain ⟨⟨c, wd⟩, hcw⟩ : ∃ q, Utf8.decode s pos = q := ⟨_, rfl⟩
        rw [hcw] at hr hnx
        simp only at hr hnx
        have HR := hid_mk hr
        have HH := hid_mk (Lib.iterAt_heap wr w.heap.size s pos (pos + wd) hit)
        have HL := hid_mk hlt
        have HI := hid_mk hit
        clear hit hO hp hr hcw hlt hn0 hn1 hdc
        rcases hd : dgR c with _ | _
        · have D : Hid (∀ W, Calls Tryz.prog 145 #[.int .i32 (c : Int)] W fun x w' => x = .returned (.bool false) ∧ w' = W) := hid_mk fun W => by have := digit_any c W; rwa [hd] at this
          have Hd := hid_mk hd
          clear hd
          go_wp2_with (first | (go_at_call 145; refine calls_same (D.out _) ?_) | (go_at_call 104; refine calls_stop (awant_no _) ?_))
          refine ⟨rfl, out_step HO.out _ _, .inr ⟨?_, rfl⟩⟩
          rw [HC.out]
          exact HR.out.dec_no (by have := of_decide_eq_false Hd.out; omega)
        · have D : Hid (∀ W, Calls Tryz.prog 145 #[.int .i32 (c : Int)] W fun x w' => x = .returned (.bool true) ∧ w' = W) := hid_mk fun W => by have := digit_any c W; rwa [hd] at this
          have Hd : Hid (48 ≤ c ∧ c ≤ 57) := hid_mk (of_decide_eq_true hd)
          clear hd
          have hgd := dec_guard HN.out.1 HN.out.2 Hd.out
          by_cases hg : n * 10 + ((c : Int) - 48) ≤ 9223372036854775807
          · rw [decide_eq_true hg] at hgd
            have Hg := hid_mk hg
            clear hg
            go_wp2_with (first | (go_at_call 145; refine calls_same (D.out _) ?_) | (go_at_call 104; refine calls_same (awant_yes _) ?_))
            clear hgd
            go_roundw
            case rel => exact ⟨pos + wd, n * 10 + ((c : Int) - 48), congrArg (Value.int .i64) (dec_val HN.out.1 HN.out.2 Hd.out Hg.out), by have := HN.out; have := Hd.out; omega, Hg.out, HC.out.trans (by obtain ⟨h1, h2⟩ := HR.out.dec_on Hd.out Hg.out; rw [h1]; exact h2), HH.out, out_step HO.out _ _, by have := HR.out.pos; rw [bt_len] at this; omega⟩
            case measure =>
              rw [iter_pos HH.out, iter_pos HI.out]
              have := HR.out.pos; have := HL.out; omega
          · rw [decide_eq_false hg] at hgd
            have Hg := hid_mk hg
            clear hg
            go_wp2_with (first | (go_at_call 145; refine calls_same (D.out _) ?_) | (go_at_call 104; first | refine calls_stop (awant_no _) ?_ | refine calls_same (awant_yes _) ?_))
            refine ⟨rfl, out_step HO.out _ _, .inr ⟨?_, rfl⟩⟩
            rw [HC.out]
            exact HR.out.dec_far Hd.out (by have := Hg.out; omega)
      · have hnx := fun ty => Lib.run_next_end_at (P := Tryz.prog) wr w.heap.size s pos ty hit hlt
        have he : (bt s).drop pos = [] := List.drop_eq_nil_of_le (by rw [bt_len]; omega)
        have HE := hid_mk he
        clear hit hO hp hlt hn0 hn1 hdc he
        go_wp2
        go_ret
        refine ⟨HO.out, .inl ⟨n, ?_, rfl⟩⟩
        rw [HC.out, HE.out]
        rfl
  have h1 : (s.toList == [48]) = false := by have := bt_one s 48; rw [this]; exact decide_eq_false h48
  by_cases hz : (bt s).head? = some 48
  · have h3 : (((s[0]'hpos).toNat : Int) != 48) = false := by rw [hh] at hz; rw [Option.some.inj hz]; rfl
    have hd : decF (bt s) = none := by
      unfold decF
      rw [if_pos]
      refine .inr ⟨?_, hz⟩
      match hx : bt s, hb, h48, hz with
      | [a], _, h48, hz => simp at hz; subst hz; exact absurd rfl h48
      | a :: b :: l, _, _, _ => simp
    clear hh hb h48 hz
    go_enter Tryz.func146, Tryz.ntmps146
    go_wp2_with (go_at_call 104; refine calls_stop (awant_no _) ?_)
    exact ⟨rfl, Out.refl _ _ _, .inr ⟨hd, rfl⟩⟩
  · have h3 : (((s[0]'hpos).toNat : Int) != 48) = true := by
      rw [hh] at hz
      rw [bne_iff_ne]
      exact fun e => hz (congrArg some e)
    have hdec : decF (bt s) = decA 0 (bt s) := by
      unfold decF
      rw [if_neg (by rintro (h | ⟨_, h⟩); exact hb h; exact hz h)]
    rw [hdec]
    clear hdec hh hb h48 hz
    go_enter Tryz.func146, Tryz.ntmps146
    go_wp2_with (go_at_call 104; refine calls_same (awant_yes _) ?_)
    clear h1 h2 h3
    go_loopw [3] (fun v wr => ∃ pos n, v = .int .i64 n ∧ 0 ≤ n ∧ n ≤ 9223372036854775807 ∧ decA 0 (bt s) = decA n ((bt s).drop pos) ∧ wr.heap[w.heap.size]? = some (.stringIter s pos) ∧ Out 0 0 w wr ∧ pos ≤ s.size) (fun _ wr => s.size - wr.iterPos w.heap.size)
    case atStart => exact ⟨0, 0, rfl, Int.le_refl _, by decide, rfl, World.iter_heap w s 0, (Out.refl 0 0 w).alloc _, Nat.zero_le _⟩
    case round =>
      obtain ⟨pos, n, rfl, hn0, hn1, hdc, hit, hO, hp⟩ := hrel
      have HO := hid_mk hO
      have HC := hid_mk hdc
      have HN := hid_mk (And.intro hn0 hn1)
      by_cases hlt : pos < s.size
      · have hnx := fun ty => Lib.run_next_any_at (P := Tryz.prog) wr w.heap.size s pos ty hit hlt
        have hr := dec_at s pos hlt
        obtain ⟨⟨c, wd⟩, hcw⟩ : ∃ q, Utf8.decode s pos = q := ⟨_, rfl⟩
        rw [hcw] at hr hnx
        simp only at hr hnx
        have HR := hid_mk hr
        have HH := hid_mk (Lib.iterAt_heap wr w.heap.size s pos (pos + wd) hit)
        have HL := hid_mk hlt
        have HI := hid_mk hit
        clear hit hO hp hr hcw hlt hn0 hn1 hdc
        rcases hd : dgR c with _ | _
        · have D : Hid (∀ W, Calls Tryz.prog 145 #[.int .i32 (c : Int)] W fun x w' => x = .returned (.bool false) ∧ w' = W) := hid_mk fun W => by have := digit_any c W; rwa [hd] at this
          have Hd := hid_mk hd
          clear hd
          go_wp2_with (first | (go_at_call 145; refine calls_same (D.out _) ?_) | (go_at_call 104; refine calls_stop (awant_no _) ?_))
          refine ⟨rfl, out_step HO.out _ _, .inr ⟨?_, rfl⟩⟩
          rw [HC.out]
          exact HR.out.dec_no (by have := of_decide_eq_false Hd.out; omega)
        · have D : Hid (∀ W, Calls Tryz.prog 145 #[.int .i32 (c : Int)] W fun x w' => x = .returned (.bool true) ∧ w' = W) := hid_mk fun W => by have := digit_any c W; rwa [hd] at this
          have Hd : Hid (48 ≤ c ∧ c ≤ 57) := hid_mk (of_decide_eq_true hd)
          clear hd
          have hgd := dec_guard HN.out.1 HN.out.2 Hd.out
          by_cases hg : n * 10 + ((c : Int) - 48) ≤ 9223372036854775807
          · rw [decide_eq_true hg] at hgd
            have Hg := hid_mk hg
            clear hg
            go_wp2_with (first | (go_at_call 145; refine calls_same (D.out _) ?_) | (go_at_call 104; refine calls_same (awant_yes _) ?_))
            clear hgd
            go_roundw
            case rel => exact ⟨pos + wd, n * 10 + ((c : Int) - 48), congrArg (Value.int .i64) (dec_val HN.out.1 HN.out.2 Hd.out Hg.out), by have := HN.out; have := Hd.out; omega, Hg.out, HC.out.trans (by obtain ⟨h1, h2⟩ := HR.out.dec_on Hd.out Hg.out; rw [h1]; exact h2), HH.out, out_step HO.out _ _, by have := HR.out.pos; rw [bt_len] at this; omega⟩
            case measure =>
              rw [iter_pos HH.out, iter_pos HI.out]
              have := HR.out.pos; have := HL.out; omega
          · rw [decide_eq_false hg] at hgd
            have Hg := hid_mk hg
            clear hg
            go_wp2_with (first | (go_at_call 145; refine calls_same (D.out _) ?_) | (go_at_call 104; first | refine calls_stop (awant_no _) ?_ | refine calls_same (awant_yes _) ?_))
            refine ⟨rfl, out_step HO.out _ _, .inr ⟨?_, rfl⟩⟩
            rw [HC.out]
            exact HR.out.dec_far Hd.out (by have := Hg.out; omega)
      · have hnx := fun ty => Lib.run_next_end_at (P := Tryz.prog) wr w.heap.size s pos ty hit hlt
        have he : (bt s).drop pos = [] := List.drop_eq_nil_of_le (by rw [bt_len]; omega)
        have HE := hid_mk he
        clear hit hO hp hlt hn0 hn1 hdc he
        go_wp2
        go_ret
        refine ⟨HO.out, .inl ⟨n, ?_, rfl⟩⟩
        rw [HC.out, HE.out]
        rfl
end Go.Proofs.YtcnjlbjpeklgkaaGreatDoor
