import Derived.Test.YtcnjlbjpeklgkaaGreatDoorR26
import Derived.Shelf.Unicode.DecodeSlow
namespace Go.Proofs.YtcnjlbjpeklgkaaGreatDoor
open Go.RowKit
set_option linter.unusedVariables false
set_option linter.unusedSimpArgs false

theorem conv_bytes {w : World} {p : Option Addr} {t : List Int} {c n : Nat} (h : BytesAt w p t) (hn : t.length = n) : (Go.convert 50 9 (.slice p n c)).run Tryz.prog w = .ok (.string (strOfNums t)) w := by
  subst hn
  rcases h.2 with rfl | ⟨g, off, rfl, hc⟩
  · cases p with
    | none => exact run_convert_bytes_nil w _ 5 Tryz.underlying50 Tryz.underlying5 _ _ _ Tryz.underlying9
    | some a =>
      rw [run_convert_bytes_string w 50 9 5 _ _ c Tryz.underlying50 Tryz.underlying5 Tryz.underlying9, run_bytesToString w _ _ c [] (by simp [loadCells, loadCellsFrom])]
      rfl
  · refine run_convert_bytes_arg w _ 5 Tryz.underlying50 Tryz.underlying5 g off t.length c t rfl (fun i hi => ?_) _ Tryz.underlying9
    rw [hc i t[i] (List.getElem?_eq_getElem hi)]
    simp [List.getD, List.getElem?_eq_getElem hi]
theorem sz_nums (l : List Int) : (strOfNums l).size = l.length := by
  rw [Lib.size_eq]; unfold strOfNums; simp
theorem out_iterq (w : World) (s : ByteArray) (pos : Nat) : Out 0 0 w (w.iter s pos) := (Out.refl 0 0 w).alloc _
set_option maxRecDepth 100000 in
set_option maxHeartbeats 2000000 in
/-- utf8.RuneCount: the bytes ahead of the first that is no ASCII, and the runes of the string behind them -/
theorem runes_any (bs : List Int) (a : Option Addr) (n c : Nat) (hn : bs.length = n) (hc : n ≤ c) (hn2 : n ≤ 4000000) (w : World) (h : BytesAt w a bs) :
    Calls Tryz.prog 166 #[.slice a n c] w fun e w' => Out 0 0 w w' ∧ ∃ k : Nat, k ≤ n ∧ (∀ (j : Nat) b, j < k → bs[j]? = some b → b < 128) ∧ ((k = n ∧ e = .returned (.int .i64 (n : Int))) ∨ (k < n ∧ (∀ b, bs[k]? = some b → 128 ≤ b) ∧ e = .returned (.int .i64 ((k : Int) + (Lib.runeCount (strOfNums (bs.drop k)) : Int))))) := by
  have HB := hid_mk h
  have HN := hid_mk (And.intro hn (And.intro hc hn2))
  clear h hn hc hn2
  go_enter Tryz.func166, Tryz.ntmps166
  go_wp2
  go_loopw [4] (fun v wr => ∃ k : Nat, v = .int .i64 (k : Int) ∧ k ≤ n ∧ (∀ (j : Nat) b, j < k → bs[j]? = some b → b < 128) ∧ Out 0 0 w wr) (fun v _ => n - (intOf v).toNat)
  case atStart => exact ⟨0, rfl, Nat.zero_le _, fun j b hj => absurd hj (Nat.not_lt_zero _), Out.refl _ _ _⟩
  case round =>
    obtain ⟨k, rfl, hk, hlow, hO⟩ := hrel
    have HL := hid_mk hlow
    have HO := hid_mk hO
    obtain ⟨hn, hc, hn2⟩ := HN.out
    by_cases hlt : k < n
    · have hd : decide ((k : Int) < (n : Int)) = true := decide_eq_true (by omega)
      have hk1 : (k : Int) < (n : Int) := by omega
      have hk0 : (0 : Int) ≤ (k : Int) := by omega
      have hn6 : (n : Int) ≤ 4000000 := by omega
      have HK := hid_mk hlt
      obtain ⟨b, hb⟩ : ∃ b, bs[k]? = some b := ⟨_, List.getElem?_eq_getElem (by omega)⟩
      obtain ⟨hby, q⟩ := HB.out
      have hbr := hby b (List.mem_of_getElem? hb)
      obtain ⟨g, off, rfl, hcs⟩ : ∃ g off, a = some ⟨g, off, none⟩ ∧ ∀ (j : Nat) x, bs[j]? = some x → wr.cell? ⟨g, off + j, none⟩ = some (.int .u8 x) := by
        rcases q with q | ⟨g, off, h1, h2⟩
        · rw [q] at hb; simp at hb
        · exact ⟨g, off, h1, fun j x hj => hO.cell (h2 j x hj) (.inr (Nat.zero_le _))⟩
      have c0 := hcs k b hb
      have HBk := hid_mk hb
      have HCs := hid_mk hcs
      clear hlow hO hn hc hlt hk hb q hcs
      by_cases hhi : 128 ≤ b
      · have d2 : decide (b < 128) = false := decide_eq_false (by omega)
        have d3 : decide (128 ≤ b) = true := decide_eq_true hhi
        have hck : ¬ (c = k) := by have := HN.out.2.1; have := HK.out; omega
        have hcv : (Go.convert 50 9 (.slice (some ⟨g, off + k, none⟩) (n - k) (c - k))).run Tryz.prog wr = .ok (.string (strOfNums (bs.drop k))) wr := conv_bytes (t := bs.drop k) ⟨fun x hx => hby x (List.mem_of_mem_drop hx), .inr ⟨g, off + k, rfl, fun j x hj => by
          rw [List.getElem?_drop] at hj
          have := HCs.out (k + j) x hj
          rwa [show off + (k + j) = off + k + j by omega] at this⟩⟩ (by rw [List.length_drop, HN.out.1])
        have HRc := hid_mk (fun W => Tryz.utf8_RuneCountInString (strOfNums (bs.drop k)) W (by rw [sz_nums]; have := HN.out; rw [List.length_drop]; omega))
        have hrc : (Lib.runeCount (strOfNums (bs.drop k)) : Int) ≤ 4000000 := by
          have h1 := Lib.runeCountFrom_le (strOfNums (bs.drop k)) (strOfNums (bs.drop k)).size 0
          have h2 : Lib.runeCount (strOfNums (bs.drop k)) ≤ (strOfNums (bs.drop k)).size := h1
          rw [sz_nums, List.length_drop, HN.out.1] at h2
          omega
        have hrc0 : (0 : Int) ≤ (Lib.runeCount (strOfNums (bs.drop k)) : Int) := by omega
        go_wp2_with (go_at_call 91; refine (HRc.out _).mono ?_; rintro e w2 ⟨rfl, pos, rfl⟩)
        go_ret
        exact ⟨HO.out.trans (out_iterq _ _ _), k, Nat.le_of_lt HK.out, HL.out, .inr ⟨HK.out, fun b' hb' => by rw [HBk.out] at hb'; cases hb'; exact hhi, rfl⟩⟩
      · have d2 : decide (b < 128) = true := decide_eq_true (by omega)
        have d3 : decide (128 ≤ b) = false := decide_eq_false hhi
        go_wp2
        go_roundw
        case rel =>
          refine ⟨k + 1, ?_, HK.out, fun j b' hj hb' => ?_, HO.out⟩
          · exact congrArg (Value.int .i64) (by omega)
          · by_cases e : j = k
            · subst e
              rw [HBk.out] at hb'
              cases hb'; omega
            · exact HL.out j b' (by omega) hb'
        case measure => have := HK.out; simp [intOf]; omega
    · have hd : decide (k < n) = false := decide_eq_false hlt
      have hkn : k = n := by omega
      have HE := hid_mk hkn
      clear hlow hO hn hc hlt hk hkn
      go_wp2
      go_ret
      exact ⟨HO.out, k, Nat.le_of_eq HE.out, HL.out, .inl ⟨HE.out, by rw [HE.out]; rfl⟩⟩
end Go.Proofs.YtcnjlbjpeklgkaaGreatDoor
namespace Go.Proofs.YtcnjlbjpeklgkaaGreatDoor
open Go.RowKit
set_option linter.unusedVariables false
set_option linter.unusedSimpArgs false

/-- the byte at i -/
def by_ (bs : List Int) (i : Nat) : Nat := (bs.getD i 0).toNat
theorem by_lt {bs : List Int} (h : Byt bs) (i : Nat) : by_ bs i < 256 := by
  unfold by_
  cases hq : bs[i]? with
  | none => rw [List.getD_eq_getElem?_getD, hq]; decide
  | some b =>
    rw [List.getD_eq_getElem?_getD, hq]
    have := h b (List.mem_of_getElem? hq)
    simp only [Option.getD_some]
    omega
theorem by_at {w : World} {g off : Nat} {bs : List Int} (h : Byt bs) (hc : ∀ (j : Nat) x, bs[j]? = some x → w.cell? ⟨g, off + j, none⟩ = some (.int .u8 x)) {i : Nat} (hi : i < bs.length) : w.cell? ⟨g, off + i, none⟩ = some (.int .u8 (by_ bs i : Int)) := by
  have hq : bs[i]? = some bs[i] := List.getElem?_eq_getElem hi
  rw [hc i _ hq]
  have := h _ (List.mem_of_getElem? hq)
  have e : (by_ bs i : Int) = bs[i] := by
    unfold by_
    rw [List.getD_eq_getElem?_getD, hq, Option.getD_some]
    omega
  rw [e]
set_option maxRecDepth 100000 in
set_option maxHeartbeats 4000000 in
theorem slow_any (bs : List Int) (a : Option Addr) (n c : Nat) (hn : bs.length = n) (hn0 : 0 < n) (w : World) (h : BytesAt w a bs) (hT : Lib.Utf8Tabs 5 6 w) :
    Calls Tryz.prog 173 #[.slice a n c] w fun e w' => e = .returned (.tuple #[.int .i32 ((Lib.decodeN n (by_ bs 0) (by_ bs 1) (by_ bs 2) (by_ bs 3)).1 : Int), .int .i64 ((Lib.decodeN n (by_ bs 0) (by_ bs 1) (by_ bs 2) (by_ bs 3)).2 : Int)]) ∧ Out 0 0 w w' := by
  obtain ⟨hb, q⟩ := h
  obtain ⟨g, off, rfl, hcs⟩ : ∃ g off, a = some ⟨g, off, none⟩ ∧ ∀ (j : Nat) x, bs[j]? = some x → w.cell? ⟨g, off + j, none⟩ = some (.int .u8 x) := by
    rcases q with q | h
    · rw [q] at hn; simp at hn; omega
    · exact h
  have l0 := by_lt hb 0
  have l1 := by_lt hb 1
  have l2 := by_lt hb 2
  have l3 := by_lt hb 3
  have c0 := by_at hb hcs (i := 0) (by omega)
  have HC := hid_mk (fun (i : Nat) (hi : i < n) => by_at hb hcs (i := i) (by omega))
  rw [Nat.add_zero] at c0
  generalize by_ bs 0 = x0 at *
  have HX1 : Hid (1 < n → w.cell? ⟨g, off + 1, none⟩ = some (.int .u8 (by_ bs 1 : Int))) := hid_mk (fun h => HC.out 1 h)
  have HX2 : Hid (2 < n → w.cell? ⟨g, off + 2, none⟩ = some (.int .u8 (by_ bs 2 : Int))) := hid_mk (fun h => HC.out 2 h)
  have HX3 : Hid (3 < n → w.cell? ⟨g, off + 3, none⟩ = some (.int .u8 (by_ bs 3 : Int))) := hid_mk (fun h => HC.out 3 h)
  generalize by_ bs 1 = x1 at *
  generalize by_ bs 2 = x2 at *
  generalize by_ bs 3 = x3 at *
  clear HC hcs hb q hn
  have hz0 : (0 : Int) < (n : Int) := by omega
  have hz1 : ¬ ((n : Int) < 1) := by omega
  have hd0 : decide ((n : Int) < 1) = false := decide_eq_false hz1
  have hd1 : decide (n < 1) = false := decide_eq_false (by omega)
  have hd2 : decide (0 < n) = true := decide_eq_true hn0
  have f0 := hT.1 x0 (by omega)
  have hres : Lib.firstT x0 < 240 → Lib.decodeN n x0 x1 x2 x3 = Lib.slowN n x0 x1 x2 x3 (Lib.firstT x0 % 8) (Lib.accLo (Lib.firstT x0 / 16)) (Lib.accHi (Lib.firstT x0 / 16)) :=
    fun h => (Lib.slow_eq _ _ _ _ _ (by omega) (by omega) (by omega) (by omega) h).symm
  rcases Lib.firstT_cases x0 with hX | hX | hX | hX | hX | hX | hX | hX | hX
  · rw [Lib.ascii_eq _ _ _ _ _ hX]
    rw [hX] at f0
    clear hres hT hX
    go_enter Tryz.func173, Tryz.ntmps173
    go_wp2
    rw [Utf8W.mask240, Utf8W.keep_byte ⟨x0, l0⟩]
    go_ret2
    exact ⟨rfl, Out.refl _ _ _⟩
  · rw [Lib.bad_eq _ _ _ _ _ (by omega) hX]
    rw [hX] at f0
    clear hres hT hX
    go_enter Tryz.func173, Tryz.ntmps173
    go_wp2
    rw [Utf8W.mask241, Utf8W.drop_byte ⟨x0, l0⟩]
    go_ret2
    exact ⟨rfl, Out.refl _ _ _⟩
  all_goals replace hres := hres (by omega)
  · rw [hX] at f0 hres
    have ha0 := (hT.2 0 (by omega)).1
    have ha1 := (hT.2 0 (by omega)).2
    simp only [Lib.accLo, Lib.accHi, Nat.reduceMul, Nat.reduceAdd, Nat.reduceEqDiff, if_true, if_false, Nat.reduceMod, Nat.reduceDiv] at ha0 ha1 hres
    rw [hres]
    clear hres hT hX
    by_cases hsz : n < 2
    · have hnz : (n : Int) < 2 := by omega
      have hd3 : decide (n < 2) = true := decide_eq_true hsz
      have hd4 : decide ((n : Int) < 2) = true := decide_eq_true hnz
      go_enter Tryz.func173, Tryz.ntmps173
      go_wp2
      all_goals (go_ret2; refine ⟨?_, (Out.refl 0 0 w).alloc _⟩; utf8_leaf)
    · have hnz : ¬ ((n : Int) < 2) := by omega
      have hd3 : decide (n < 2) = false := decide_eq_false hsz
      have hd4 : decide ((n : Int) < 2) = false := decide_eq_false hnz
      have c1 : ∀ o, (w.alloc o).cell? ⟨g, off + 1, none⟩ = some (.int .u8 (x1 : Int)) := fun o => ((Out.refl 0 0 w).alloc o).cell (HX1.out (by omega)) (.inr (Nat.zero_le _))
      have hy1 : (1 : Int) < (n : Int) := by omega
      go_enter Tryz.func173, Tryz.ntmps173
      go_wp2
      all_goals (go_ret2; refine ⟨?_, (Out.refl 0 0 w).alloc _⟩; utf8_leaf)
  · rw [hX] at f0 hres
    have ha0 := (hT.2 1 (by omega)).1
    have ha1 := (hT.2 1 (by omega)).2
    simp only [Lib.accLo, Lib.accHi, Nat.reduceMul, Nat.reduceAdd, Nat.reduceEqDiff, if_true, if_false, Nat.reduceMod, Nat.reduceDiv] at ha0 ha1 hres
    rw [hres]
    clear hres hT hX
    by_cases hsz : n < 3
    · have hnz : (n : Int) < 3 := by omega
      have hd3 : decide (n < 3) = true := decide_eq_true hsz
      have hd4 : decide ((n : Int) < 3) = true := decide_eq_true hnz
      go_enter Tryz.func173, Tryz.ntmps173
      go_wp2
      all_goals (go_ret2; refine ⟨?_, (Out.refl 0 0 w).alloc _⟩; utf8_leaf)
    · have hnz : ¬ ((n : Int) < 3) := by omega
      have hd3 : decide (n < 3) = false := decide_eq_false hsz
      have hd4 : decide ((n : Int) < 3) = false := decide_eq_false hnz
      have c1 : ∀ o, (w.alloc o).cell? ⟨g, off + 1, none⟩ = some (.int .u8 (x1 : Int)) := fun o => ((Out.refl 0 0 w).alloc o).cell (HX1.out (by omega)) (.inr (Nat.zero_le _))
      have hy1 : (1 : Int) < (n : Int) := by omega
      have c2 : ∀ o, (w.alloc o).cell? ⟨g, off + 2, none⟩ = some (.int .u8 (x2 : Int)) := fun o => ((Out.refl 0 0 w).alloc o).cell (HX2.out (by omega)) (.inr (Nat.zero_le _))
      have hy2 : (2 : Int) < (n : Int) := by omega
      go_enter Tryz.func173, Tryz.ntmps173
      go_wp2
      all_goals (go_ret2; refine ⟨?_, (Out.refl 0 0 w).alloc _⟩; utf8_leaf)
  · rw [hX] at f0 hres
    have ha0 := (hT.2 0 (by omega)).1
    have ha1 := (hT.2 0 (by omega)).2
    simp only [Lib.accLo, Lib.accHi, Nat.reduceMul, Nat.reduceAdd, Nat.reduceEqDiff, if_true, if_false, Nat.reduceMod, Nat.reduceDiv] at ha0 ha1 hres
    rw [hres]
    clear hres hT hX
    by_cases hsz : n < 3
    · have hnz : (n : Int) < 3 := by omega
      have hd3 : decide (n < 3) = true := decide_eq_true hsz
      have hd4 : decide ((n : Int) < 3) = true := decide_eq_true hnz
      go_enter Tryz.func173, Tryz.ntmps173
      go_wp2
      all_goals (go_ret2; refine ⟨?_, (Out.refl 0 0 w).alloc _⟩; utf8_leaf)
    · have hnz : ¬ ((n : Int) < 3) := by omega
      have hd3 : decide (n < 3) = false := decide_eq_false hsz
      have hd4 : decide ((n : Int) < 3) = false := decide_eq_false hnz
      have c1 : ∀ o, (w.alloc o).cell? ⟨g, off + 1, none⟩ = some (.int .u8 (x1 : Int)) := fun o => ((Out.refl 0 0 w).alloc o).cell (HX1.out (by omega)) (.inr (Nat.zero_le _))
      have hy1 : (1 : Int) < (n : Int) := by omega
      have c2 : ∀ o, (w.alloc o).cell? ⟨g, off + 2, none⟩ = some (.int .u8 (x2 : Int)) := fun o => ((Out.refl 0 0 w).alloc o).cell (HX2.out (by omega)) (.inr (Nat.zero_le _))
      have hy2 : (2 : Int) < (n : Int) := by omega
      go_enter Tryz.func173, Tryz.ntmps173
      go_wp2
      all_goals (go_ret2; refine ⟨?_, (Out.refl 0 0 w).alloc _⟩; utf8_leaf)
  · rw [hX] at f0 hres
    have ha0 := (hT.2 2 (by omega)).1
    have ha1 := (hT.2 2 (by omega)).2
    simp only [Lib.accLo, Lib.accHi, Nat.reduceMul, Nat.reduceAdd, Nat.reduceEqDiff, if_true, if_false, Nat.reduceMod, Nat.reduceDiv] at ha0 ha1 hres
    rw [hres]
    clear hres hT hX
    by_cases hsz : n < 3
    · have hnz : (n : Int) < 3 := by omega
      have hd3 : decide (n < 3) = true := decide_eq_true hsz
      have hd4 : decide ((n : Int) < 3) = true := decide_eq_true hnz
      go_enter Tryz.func173, Tryz.ntmps173
      go_wp2
      all_goals (go_ret2; refine ⟨?_, (Out.refl 0 0 w).alloc _⟩; utf8_leaf)
    · have hnz : ¬ ((n : Int) < 3) := by omega
      have hd3 : decide (n < 3) = false := decide_eq_false hsz
      have hd4 : decide ((n : Int) < 3) = false := decide_eq_false hnz
      have c1 : ∀ o, (w.alloc o).cell? ⟨g, off + 1, none⟩ = some (.int .u8 (x1 : Int)) := fun o => ((Out.refl 0 0 w).alloc o).cell (HX1.out (by omega)) (.inr (Nat.zero_le _))
      have hy1 : (1 : Int) < (n : Int) := by omega
      have c2 : ∀ o, (w.alloc o).cell? ⟨g, off + 2, none⟩ = some (.int .u8 (x2 : Int)) := fun o => ((Out.refl 0 0 w).alloc o).cell (HX2.out (by omega)) (.inr (Nat.zero_le _))
      have hy2 : (2 : Int) < (n : Int) := by omega
      go_enter Tryz.func173, Tryz.ntmps173
      go_wp2
      all_goals (go_ret2; refine ⟨?_, (Out.refl 0 0 w).alloc _⟩; utf8_leaf)
  · rw [hX] at f0 hres
    have ha0 := (hT.2 3 (by omega)).1
    have ha1 := (hT.2 3 (by omega)).2
    simp only [Lib.accLo, Lib.accHi, Nat.reduceMul, Nat.reduceAdd, Nat.reduceEqDiff, if_true, if_false, Nat.reduceMod, Nat.reduceDiv] at ha0 ha1 hres
    rw [hres]
    clear hres hT hX
    by_cases hsz : n < 4
    · have hnz : (n : Int) < 4 := by omega
      have hd3 : decide (n < 4) = true := decide_eq_true hsz
      have hd4 : decide ((n : Int) < 4) = true := decide_eq_true hnz
      go_enter Tryz.func173, Tryz.ntmps173
      go_wp2
      all_goals (go_ret2; refine ⟨?_, (Out.refl 0 0 w).alloc _⟩; utf8_leaf)
    · have hnz : ¬ ((n : Int) < 4) := by omega
      have hd3 : decide (n < 4) = false := decide_eq_false hsz
      have hd4 : decide ((n : Int) < 4) = false := decide_eq_false hnz
      have c1 : ∀ o, (w.alloc o).cell? ⟨g, off + 1, none⟩ = some (.int .u8 (x1 : Int)) := fun o => ((Out.refl 0 0 w).alloc o).cell (HX1.out (by omega)) (.inr (Nat.zero_le _))
      have hy1 : (1 : Int) < (n : Int) := by omega
      have c2 : ∀ o, (w.alloc o).cell? ⟨g, off + 2, none⟩ = some (.int .u8 (x2 : Int)) := fun o => ((Out.refl 0 0 w).alloc o).cell (HX2.out (by omega)) (.inr (Nat.zero_le _))
      have hy2 : (2 : Int) < (n : Int) := by omega
      have c3 : ∀ o, (w.alloc o).cell? ⟨g, off + 3, none⟩ = some (.int .u8 (x3 : Int)) := fun o => ((Out.refl 0 0 w).alloc o).cell (HX3.out (by omega)) (.inr (Nat.zero_le _))
      have hy3 : (3 : Int) < (n : Int) := by omega
      go_enter Tryz.func173, Tryz.ntmps173
      go_wp2
      all_goals (go_ret2; refine ⟨?_, (Out.refl 0 0 w).alloc _⟩; utf8_leaf)
  · rw [hX] at f0 hres
    have ha0 := (hT.2 0 (by omega)).1
    have ha1 := (hT.2 0 (by omega)).2
    simp only [Lib.accLo, Lib.accHi, Nat.reduceMul, Nat.reduceAdd, Nat.reduceEqDiff, if_true, if_false, Nat.reduceMod, Nat.reduceDiv] at ha0 ha1 hres
    rw [hres]
    clear hres hT hX
    by_cases hsz : n < 4
    · have hnz : (n : Int) < 4 := by omega
      have hd3 : decide (n < 4) = true := decide_eq_true hsz
      have hd4 : decide ((n : Int) < 4) = true := decide_eq_true hnz
      go_enter Tryz.func173, Tryz.ntmps173
      go_wp2
      all_goals (go_ret2; refine ⟨?_, (Out.refl 0 0 w).alloc _⟩; utf8_leaf)
    · have hnz : ¬ ((n : Int) < 4) := by omega
      have hd3 : decide (n < 4) = false := decide_eq_false hsz
      have hd4 : decide ((n : Int) < 4) = false := decide_eq_false hnz
      have c1 : ∀ o, (w.alloc o).cell? ⟨g, off + 1, none⟩ = some (.int .u8 (x1 : Int)) := fun o => ((Out.refl 0 0 w).alloc o).cell (HX1.out (by omega)) (.inr (Nat.zero_le _))
      have hy1 : (1 : Int) < (n : Int) := by omega
      have c2 : ∀ o, (w.alloc o).cell? ⟨g, off + 2, none⟩ = some (.int .u8 (x2 : Int)) := fun o => ((Out.refl 0 0 w).alloc o).cell (HX2.out (by omega)) (.inr (Nat.zero_le _))
      have hy2 : (2 : Int) < (n : Int) := by omega
      have c3 : ∀ o, (w.alloc o).cell? ⟨g, off + 3, none⟩ = some (.int .u8 (x3 : Int)) := fun o => ((Out.refl 0 0 w).alloc o).cell (HX3.out (by omega)) (.inr (Nat.zero_le _))
      have hy3 : (3 : Int) < (n : Int) := by omega
      go_enter Tryz.func173, Tryz.ntmps173
      go_wp2
      all_goals (go_ret2; refine ⟨?_, (Out.refl 0 0 w).alloc _⟩; utf8_leaf)
  · rw [hX] at f0 hres
    have ha0 := (hT.2 4 (by omega)).1
    have ha1 := (hT.2 4 (by omega)).2
    simp only [Lib.accLo, Lib.accHi, Nat.reduceMul, Nat.reduceAdd, Nat.reduceEqDiff, if_true, if_false, Nat.reduceMod, Nat.reduceDiv] at ha0 ha1 hres
    rw [hres]
    clear hres hT hX
    by_cases hsz : n < 4
    · have hnz : (n : Int) < 4 := by omega
      have hd3 : decide (n < 4) = true := decide_eq_true hsz
      have hd4 : decide ((n : Int) < 4) = true := decide_eq_true hnz
      go_enter Tryz.func173, Tryz.ntmps173
      go_wp2
      all_goals (go_ret2; refine ⟨?_, (Out.refl 0 0 w).alloc _⟩; utf8_leaf)
    · have hnz : ¬ ((n : Int) < 4) := by omega
      have hd3 : decide (n < 4) = false := decide_eq_false hsz
      have hd4 : decide ((n : Int) < 4) = false := decide_eq_false hnz
      have c1 : ∀ o, (w.alloc o).cell? ⟨g, off + 1, none⟩ = some (.int .u8 (x1 : Int)) := fun o => ((Out.refl 0 0 w).alloc o).cell (HX1.out (by omega)) (.inr (Nat.zero_le _))
      have hy1 : (1 : Int) < (n : Int) := by omega
      have c2 : ∀ o, (w.alloc o).cell? ⟨g, off + 2, none⟩ = some (.int .u8 (x2 : Int)) := fun o => ((Out.refl 0 0 w).alloc o).cell (HX2.out (by omega)) (.inr (Nat.zero_le _))
      have hy2 : (2 : Int) < (n : Int) := by omega
      have c3 : ∀ o, (w.alloc o).cell? ⟨g, off + 3, none⟩ = some (.int .u8 (x3 : Int)) := fun o => ((Out.refl 0 0 w).alloc o).cell (HX3.out (by omega)) (.inr (Nat.zero_le _))
      have hy3 : (3 : Int) < (n : Int) := by omega
      go_enter Tryz.func173, Tryz.ntmps173
      go_wp2
      all_goals (go_ret2; refine ⟨?_, (Out.refl 0 0 w).alloc _⟩; utf8_leaf)
end Go.Proofs.YtcnjlbjpeklgkaaGreatDoor
namespace Go.Proofs.YtcnjlbjpeklgkaaGreatDoor
open Go.RowKit
set_option linter.unusedVariables false
set_option linter.unusedSimpArgs false

set_option maxRecDepth 100000 in
set_option maxHeartbeats 2000000 in
theorem decr_any (bs : List Int) (a : Option Addr) (n c : Nat) (hn : bs.length = n) (hn0 : 0 < n) (w : World) (h : BytesAt w a bs) (hT : Lib.Utf8Tabs 5 6 w) :
    Calls Tryz.prog 167 #[.slice a n c] w fun e w' => e = .returned (.tuple #[.int .i32 ((Lib.decodeN n (by_ bs 0) (by_ bs 1) (by_ bs 2) (by_ bs 3)).1 : Int), .int .i64 ((Lib.decodeN n (by_ bs 0) (by_ bs 1) (by_ bs 2) (by_ bs 3)).2 : Int)]) ∧ Out 0 0 w w' := by
  have HS := hid_mk (slow_any bs a n c hn hn0 w h hT)
  obtain ⟨hb, q⟩ := h
  obtain ⟨g, off, rfl, hcs⟩ : ∃ g off, a = some ⟨g, off, none⟩ ∧ ∀ (j : Nat) x, bs[j]? = some x → w.cell? ⟨g, off + j, none⟩ = some (.int .u8 x) := by
    rcases q with q | h
    · rw [q] at hn; simp at hn; omega
    · exact h
  have l0 := by_lt hb 0
  have c0 := by_at hb hcs (i := 0) (by omega)
  rw [Nat.add_zero] at c0
  have hd : decide ((0 : Int) < (n : Int)) = true := decide_eq_true (by omega)
  have hd2 : decide (0 < n) = true := decide_eq_true hn0
  have hz : (0 : Int) < (n : Int) := by omega
  by_cases hlow : by_ bs 0 < 128
  · have hdec : Lib.decodeN n (by_ bs 0) (by_ bs 1) (by_ bs 2) (by_ bs 3) = (by_ bs 0, 1) := by unfold Lib.decodeN; rw [if_pos hlow]
    rw [hdec]
    generalize by_ bs 0 = x0 at *
    have d1 : decide (x0 < 128) = true := decide_eq_true hlow
    have d2 : decide ((x0 : Int) < 128) = true := decide_eq_true (by omega)
    clear hdec hcs hb q hT hn
    go_enter Tryz.func167, Tryz.ntmps167
    go_wp2
    go_loopw [8] (fun v wr => v = .int .i64 0 ∧ wr = w) (fun _ _ => 0)
    case atStart => exact ⟨rfl, rfl⟩
    case round =>
      obtain ⟨rfl, rfl⟩ := hrel
      go_wp2
      go_ret2
      exact ⟨rfl, Out.refl _ _ _⟩
  · generalize hx : by_ bs 0 = x0 at *
    have d1 : decide (x0 < 128) = false := decide_eq_false hlow
    have d2 : decide ((x0 : Int) < 128) = false := decide_eq_false (by omega)
    clear hcs hb q hT hn
    go_enter Tryz.func167, Tryz.ntmps167
    go_wp2
    go_loopw [8] (fun v wr => v = .int .i64 0 ∧ wr = w) (fun _ _ => 0)
    case atStart => exact ⟨rfl, rfl⟩
    case round =>
      obtain ⟨rfl, rfl⟩ := hrel
      go_wp2_with (go_at_call 173; refine HS.out.mono ?_; rintro e w2 ⟨rfl, o2⟩)
      go_ret2
      exact ⟨rfl, o2⟩
end Go.Proofs.YtcnjlbjpeklgkaaGreatDoor
namespace Go.Proofs.YtcnjlbjpeklgkaaGreatDoor
open Go.RowKit
set_option linter.unusedVariables false
set_option linter.unusedSimpArgs false

theorem utf1 {v : Int} (h : v < 128) : utfF v = [v] := by unfold utfF; rw [if_pos h]
theorem utf2 {v : Int} (h : ¬ v < 128) (h2 : v < 2048) : utfF v = [192 + v / 64, 128 + v % 64] := by unfold utfF; rw [if_neg h, if_pos h2]
theorem utf3 {v : Int} (h : ¬ v < 128) (h2 : ¬ v < 2048) (h3 : v < 65536) : utfF v = [224 + v / 4096, 128 + v / 64 % 64, 128 + v % 64] := by unfold utfF; rw [if_neg h, if_neg h2, if_pos h3]
theorem utf4 {v : Int} (h : ¬ v < 128) (h2 : ¬ v < 2048) (h3 : ¬ v < 65536) : utfF v = [240 + v / 262144, 128 + v / 4096 % 64, 128 + v / 64 % 64, 128 + v % 64] := by unfold utfF; rw [if_neg h, if_neg h2, if_neg h3]
theorem utf_any (v : Int) : (v < 128 ∧ utfF v = [v]) ∨ (128 ≤ v ∧ v < 2048 ∧ utfF v = [192 + v / 64, 128 + v % 64]) ∨ (2048 ≤ v ∧ v < 65536 ∧ utfF v = [224 + v / 4096, 128 + v / 64 % 64, 128 + v % 64]) ∨ (65536 ≤ v ∧ utfF v = [240 + v / 262144, 128 + v / 4096 % 64, 128 + v / 64 % 64, 128 + v % 64]) := by
  by_cases h1 : v < 128
  · exact .inl ⟨h1, utf1 h1⟩
  · by_cases h2 : v < 2048
    · exact .inr (.inl ⟨by omega, h2, utf2 h1 h2⟩)
    · by_cases h3 : v < 65536
      · exact .inr (.inr (.inl ⟨by omega, h3, utf3 h1 h2 h3⟩))
      · exact .inr (.inr (.inr ⟨by omega, utf4 h1 h2 h3⟩))
/-- the scalar of some bytes, by what they would say -/
theorem sca_of {b : List Int} {v : Int} (hs : sayF b = v) : scaF b = if b = [] ∨ 4 < b.length ∨ v > 1114111 ∨ (55296 ≤ v ∧ v ≤ 57343) ∨ utfF v ≠ b then none else some v := by
  subst hs; rfl
theorem sca1 (a : Nat) (ha : a < 256) : scaF [(a : Int)] = if a < 128 then some (a : Int) else none := by
  rw [sca_of (v := (a : Int)) rfl]
  by_cases h : a < 128
  · rw [if_pos h, if_neg]
    rw [utf1 (by omega)]
    simp
    omega
  · rw [if_neg h, if_pos]
    refine .inr (.inr (.inr (.inr fun q => ?_)))
    rcases utf_any (a : Int) with ⟨h1, e⟩ | ⟨h1, h2, e⟩ | ⟨h1, h2, e⟩ | ⟨h1, e⟩
    · omega
    all_goals (rw [e] at q; simp at q)
theorem sca2 (a b : Nat) (ha : a < 256) (hb : b < 256) (c d : Nat) : scaF [(a : Int), (b : Int)] = if (Lib.decodeN 2 a b c d).2 = 2 then some ((Lib.decodeN 2 a b c d).1 : Int) else none := by
  obtain ⟨v, hv⟩ : ∃ v, a % 32 * 64 + b % 64 = v := ⟨_, rfl⟩
  rw [sca_of (v := (v : Int)) (by simp only [sayF]; omega)]
  by_cases h : a / 32 = 6 ∧ b / 64 = 2 ∧ v ≥ 128
  · have hd : Lib.decodeN 2 a b c d = (v, 2) := by
      unfold Lib.decodeN
      rw [hv, if_neg (by omega), if_pos ⟨h.1, by decide, h.2.1⟩, if_pos h.2.2]
    rw [hd, if_pos rfl, if_neg]
    rw [utf2 (by omega) (by omega)]
    simp
    omega
  · have hd : (Lib.decodeN 2 a b c d).2 ≠ 2 := by
      unfold Lib.decodeN
      rw [hv]
      repeat' split
      all_goals first | (simp; done) | (exfalso; omega)
    rw [if_neg hd, if_pos]
    refine .inr (.inr (.inr (.inr fun q => ?_)))
    rcases utf_any (v : Int) with ⟨h1, e⟩ | ⟨h1, h2, e⟩ | ⟨h1, h2, e⟩ | ⟨h1, e⟩
    · rw [e] at q; cases q
    · rw [e] at q
      injection q with q1 q2; injection q2 with q2 _
      omega
    all_goals (rw [e] at q; cases q)
theorem sca3 (a b c : Nat) (ha : a < 256) (hb : b < 256) (hc : c < 256) (d : Nat) : scaF [(a : Int), (b : Int), (c : Int)] = if (Lib.decodeN 3 a b c d).2 = 3 then some ((Lib.decodeN 3 a b c d).1 : Int) else none := by
  obtain ⟨v, hv⟩ : ∃ v, a % 16 * 4096 + b % 64 * 64 + c % 64 = v := ⟨_, rfl⟩
  rw [sca_of (v := (v : Int)) (by simp only [sayF]; omega)]
  by_cases h : a / 16 = 14 ∧ b / 64 = 2 ∧ c / 64 = 2 ∧ v ≥ 2048 ∧ (v < 55296 ∨ 57344 ≤ v)
  · have hd : Lib.decodeN 3 a b c d = (v, 3) := by
      unfold Lib.decodeN
      rw [hv, if_neg (by omega), if_neg (by omega), if_pos ⟨h.1, ⟨by decide, h.2.1⟩, by decide, h.2.2.1⟩, if_pos ⟨h.2.2.2.1, by omega⟩]
    rw [hd, if_pos rfl, if_neg]
    rw [utf3 (by omega) (by omega) (by omega)]
    simp
    omega
  · have hd : (Lib.decodeN 3 a b c d).2 ≠ 3 := by
      unfold Lib.decodeN
      rw [hv]
      repeat' split
      all_goals first | (simp; done) | (exfalso; omega)
    rw [if_neg hd, if_pos]
    by_cases hs : (v : Int) > 1114111 ∨ (55296 ≤ (v : Int) ∧ (v : Int) ≤ 57343)
    · rcases hs with q | q
      · exact .inr (.inr (.inl q))
      · exact .inr (.inr (.inr (.inl q)))
    · refine .inr (.inr (.inr (.inr fun q => ?_)))
      rcases utf_any (v : Int) with ⟨h1, e⟩ | ⟨h1, h2, e⟩ | ⟨h1, h2, e⟩ | ⟨h1, e⟩
      · rw [e] at q; cases q
      · rw [e] at q; cases q
      · rw [e] at q
        injection q with q1 q2; injection q2 with q2 q3; injection q3 with q3 _
        omega
      · rw [e] at q; cases q
theorem sca4 (a b c d : Nat) (ha : a < 256) (hb : b < 256) (hc : c < 256) (hd4 : d < 256) : scaF [(a : Int), (b : Int), (c : Int), (d : Int)] = if (Lib.decodeN 4 a b c d).2 = 4 then some ((Lib.decodeN 4 a b c d).1 : Int) else none := by
  obtain ⟨v, hv⟩ : ∃ v, a % 8 * 262144 + b % 64 * 4096 + c % 64 * 64 + d % 64 = v := ⟨_, rfl⟩
  rw [sca_of (v := (v : Int)) (by simp only [sayF]; omega)]
  by_cases h : a / 8 = 30 ∧ b / 64 = 2 ∧ c / 64 = 2 ∧ d / 64 = 2 ∧ v ≥ 65536 ∧ v ≤ 1114111
  · have hd : Lib.decodeN 4 a b c d = (v, 4) := by
      unfold Lib.decodeN
      rw [hv, if_neg (by omega), if_neg (by omega), if_neg (by omega), if_pos ⟨h.1, ⟨by decide, h.2.1⟩, ⟨by decide, h.2.2.1⟩, by decide, h.2.2.2.1⟩, if_pos ⟨h.2.2.2.2.1, by omega⟩]
    rw [hd, if_pos rfl, if_neg]
    rw [utf4 (by omega) (by omega) (by omega)]
    simp
    omega
  · have hd : (Lib.decodeN 4 a b c d).2 ≠ 4 := by
      unfold Lib.decodeN
      rw [hv]
      repeat' split
      all_goals first | (simp; done) | (exfalso; omega)
    rw [if_neg hd, if_pos]
    by_cases hs : (v : Int) > 1114111
    · exact .inr (.inr (.inl hs))
    · refine .inr (.inr (.inr (.inr fun q => ?_)))
      rcases utf_any (v : Int) with ⟨h1, e⟩ | ⟨h1, h2, e⟩ | ⟨h1, h2, e⟩ | ⟨h1, e⟩
      · rw [e] at q; cases q
      · rw [e] at q; cases q
      · rw [e] at q; cases q
      · rw [e] at q
        injection q with q1 q2; injection q2 with q2 q3; injection q3 with q3 q4; injection q4 with q4 _
        omega
end Go.Proofs.YtcnjlbjpeklgkaaGreatDoor
namespace Go.Proofs.YtcnjlbjpeklgkaaGreatDoor
open Go.RowKit
set_option linter.unusedVariables false
set_option linter.unusedSimpArgs false

set_option maxRecDepth 100000 in
set_option maxHeartbeats 8000000 in
theorem word_any (w : World) (g off n c : Nat) (h8 : 8 ≤ n) (x0 x1 x2 x3 x4 x5 x6 x7 : Int) (c0 : w.cell? ⟨g, off, none⟩ = some (.int .u8 x0)) (c1 : w.cell? ⟨g, off + 1, none⟩ = some (.int .u8 x1)) (c2 : w.cell? ⟨g, off + 2, none⟩ = some (.int .u8 x2)) (c3 : w.cell? ⟨g, off + 3, none⟩ = some (.int .u8 x3)) (c4 : w.cell? ⟨g, off + 4, none⟩ = some (.int .u8 x4)) (c5 : w.cell? ⟨g, off + 5, none⟩ = some (.int .u8 x5)) (c6 : w.cell? ⟨g, off + 6, none⟩ = some (.int .u8 x6)) (c7 : w.cell? ⟨g, off + 7, none⟩ = some (.int .u8 x7)) :
    Calls Tryz.prog 172 #[.slice (some ⟨g, off, none⟩) n c] w fun e w' => (∃ x, e = .returned (.int .u64 x)) ∧ Out 0 0 w w' := by
  have k0 : (0 : Int) < (n : Int) := by omega
  have k1 : (1 : Int) < (n : Int) := by omega
  have k2 : (2 : Int) < (n : Int) := by omega
  have k3 : (3 : Int) < (n : Int) := by omega
  have k4 : (4 : Int) < (n : Int) := by omega
  have k5 : (5 : Int) < (n : Int) := by omega
  have k6 : (6 : Int) < (n : Int) := by omega
  have k7 : (7 : Int) < (n : Int) := by omega
  have j0 : 0 < n := by omega
  have j1 : 1 < n := by omega
  have j2 : 2 < n := by omega
  have j3 : 3 < n := by omega
  have j4 : 4 < n := by omega
  have j5 : 5 < n := by omega
  have j6 : 6 < n := by omega
  have j7 : 7 < n := by omega
  clear h8
  go_enter Tryz.func172, Tryz.ntmps172
  go_wp2_with fail
  refine wp_region_held_drew (S := fun w' => w'.cell? ⟨g, off, none⟩ = some (.int .u8 x0) ∧ w'.cell? ⟨g, off + 1, none⟩ = some (.int .u8 x1) ∧ w'.cell? ⟨g, off + 2, none⟩ = some (.int .u8 x2) ∧ w'.cell? ⟨g, off + 3, none⟩ = some (.int .u8 x3) ∧ w'.cell? ⟨g, off + 4, none⟩ = some (.int .u8 x4) ∧ w'.cell? ⟨g, off + 5, none⟩ = some (.int .u8 x5) ∧ w'.cell? ⟨g, off + 6, none⟩ = some (.int .u8 x6) ∧ w'.cell? ⟨g, off + 7, none⟩ = some (.int .u8 x7)) (by kernel_rfl) ?hS1 (fun hHeld => ?rest1)
  case hS1 => exact ⟨c0, c1, c2, c3, c4, c5, c6, c7⟩
  refine tk 0 ?_
  refine tk 1 ?_
  refine tk 2 ?_
  refine tk 3 ?_
  refine tk 4 ?_
  refine tk 5 ?_
  refine tk 6 ?_
  refine tk 7 ?_
  refine tk 8 ?_
  refine tk 9 ?_
  refine tk 10 ?_
  refine tk 11 ?_
  refine tk 12 ?_
  refine tk 13 ?_
  refine tk 14 ?_
  refine tk 15 ?_
  refine tk 16 ?_
  refine tk 17 ?_
  refine tk 18 ?_
  refine tk 19 ?_
  refine tk 20 ?_
  refine tk 21 ?_
  refine tk 22 ?_
  refine tk 23 ?_
  refine tk 24 ?_
  refine tk 25 ?_
  refine tk 26 ?_
  refine tk 27 ?_
  refine tk 28 ?_
  refine tk 29 ?_
  refine tk 30 ?_
  refine tk 31 ?_
  refine tk 32 ?_
  refine tk 33 ?_
  refine tk 34 ?_
  refine tk 35 ?_
  refine tk 36 ?_
  refine tk 37 ?_
  refine tk 38 ?_
  refine tk 39 ?_
  refine tk 40 ?_
  refine tk 41 ?_
  refine tk 42 ?_
  refine tk 43 ?_
  refine tk 44 ?_
  refine tk 45 ?_
  refine tk 46 ?_
  refine wpAnyH_done (by kernel_rfl) ?_ _
  go_wp2
  go_ret
  exact ⟨⟨_, rfl⟩, (Out.refl _ _ _).drew⟩
end Go.Proofs.YtcnjlbjpeklgkaaGreatDoor
