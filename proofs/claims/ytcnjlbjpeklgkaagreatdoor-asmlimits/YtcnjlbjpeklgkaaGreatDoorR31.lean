import Derived.Test.YtcnjlbjpeklgkaaGreatDoorR29
import Derived.Test.YtcnjlbjpeklgkaaGreatDoorR30
namespace Go.Proofs.YtcnjlbjpeklgkaaGreatDoor
open Go.RowKit
set_option linter.unusedVariables false
set_option linter.unusedSimpArgs false

set_option maxRecDepth 100000 in
set_option maxHeartbeats 2000000 in
theorem label_of (n : Nat) (hn : n ≤ 100000) {w : World} (ht : Tpw w) :
    Calls Tryz.prog 88 #[.int .i64 (n : Int)] w fun e w' => ∃ s : ByteArray, bt s = 76 :: dcF n ∧ e = .returned (.string s) ∧ Out 0 0 w w' := by
  have HI := hid_mk (itoa_dc (n : Int) (by omega) (by omega) ht)
  go_enter Tryz.func88, Tryz.ntmps88
  go_wp2_with (go_at_call 54; refine HI.out.mono ?_; rintro e w2 ⟨s, hs, rfl, o2⟩; have hsz : s.size ≤ 1000000 := by { have h1 := congrArg List.length hs; rw [bt_len, if_neg (by omega)] at h1; have h2 := dcF_len 5 n (by omega); have h3 : (n : Int).toNat = n := by { omega }; rw [h3] at h1; omega }; have HS := hid_mk hs; clear hs)
  go_ret
  refine ⟨_, ?_, rfl, o2⟩
  rw [bt_app, HS.out, if_neg (by omega)]
  rfl
theorem wrap_mod (A : Int) : ∃ N : Nat, IntKind.u64.wrap A = (N : Int) ∧ N < 18446744073709551616 ∧ (N : Int) = A % 18446744073709551616 := by
  refine ⟨(A % 18446744073709551616).toNat, ?_, by omega, by omega⟩
  have : IntKind.u64.wrap A = A % 18446744073709551616 := by simp [IntKind.wrap, IntKind.signed, IntKind.bits]
  rw [this]; omega
theorem conv_u64 (A : Int) (W : World) : (Go.convert 3 133 (.int .i64 A)).run Tryz.prog W = .ok (.int .u64 (IntKind.u64.wrap A)) W := by
  simp [Go.convert, run_underlying Tryz.underlying3, run_underlying Tryz.underlying133, go_sem]
set_option maxRecDepth 100000 in
set_option maxHeartbeats 4000000 in
theorem operand_text (op A : Int) (n : Nat) (hI : okI (op, A)) (hp : 1 < opS op) (hn : n ≤ 100000) {w : World} (ht : Tpw w) (hN : Nt w) :
    Calls Tryz.prog 90 #[.int .i64 (howF op), .int .i64 A, .int .i64 (n : Int)] w fun e w' => ∃ s : ByteArray, bt s = toldF (op, A) n ∧ e = .returned (.string s) ∧ Out 0 0 w w' := by
  obtain ⟨_, _, h2, h3, h4⟩ := hI
  simp only at h2 h3 h4
  have HT := hid_mk ht
  clear ht
  by_cases h5 : op = 5
  · subst h5
    obtain ⟨N, hN1, hN2, hN3⟩ := wrap_mod A
    have hcv := fun W => conv_u64 A W
    rw [hN1] at hcv
    have HX := hid_mk (fun w => hex_text N 16 (by decide) (by decide) hN2 w)
    have HN := hid_mk hN3
    have hh : howF 5 = 3 := by decide
    rw [hh]
    clear h2 h3 h4 hp hN1 hN3 hh
    go_enter Tryz.func90, Tryz.ntmps90
    go_wp2_with (go_at_call 119; refine (HX.out _).mono ?_; rintro e w2 ⟨s, hs, rfl, o⟩; have hsz : s.size = 16 := by { have := congrArg List.length hs; rw [bt_len] at this; rw [this]; unfold hxT; simp }; have HS := hid_mk hs; clear hs)
    go_ret
    refine ⟨_, ?_, rfl, o⟩
    rw [bt_app, HS.out]
    unfold toldF flF hxT
    rw [if_neg (by simp), if_pos rfl, HN.out]
    rfl
  by_cases h2o : op = 2
  · subst h2o
    have hA := h2 (by decide)
    have hh : howF 2 = 4 := by decide
    rw [hh]
    obtain ⟨b, rfl⟩ := Int.eq_ofNat_of_zero_le hA.1
    by_cases hr : 32 ≤ b ∧ b ≤ 126
    · have hr1 : (32 : Int) ≤ (b : Int) := by omega
      have hr2 : (b : Int) ≤ 126 := by omega
      have hr3 : (0 : Int) ≤ (b : Int) := by omega
      have hr4 : (b : Int) < 256 := by omega
      have HR := hid_mk hr
      have hbl := Bl.new w #[.int .u8 (b : Int)] 5
      have hby : BytesAt (w.alloc (.cells #[.int .u8 (b : Int)] 5)) (some ⟨w.heap.size, 0, none⟩) [(b : Int)] := ⟨fun c hc => by
        simp at hc; omega, .inr ⟨_, 0, rfl, fun j x hj => by
          match j, hj with
          | 0, hj =>
            cases Option.some.inj hj
            exact hbl.cell (i := 0) rfl⟩⟩
      have HQ := hid_mk (fun c => quoted_any ⟨#[39]⟩ 39 (.inr rfl) rfl [(b : Int)] (some ⟨w.heap.size, 0, none⟩) 1 c rfl (by decide) _ hby)
      clear h2 h3 h4 hp hh h5 hA hr hbl hby
      go_enter Tryz.func90, Tryz.ntmps90
      go_wp2_with (go_at_call 55; refine (HQ.out _).mono ?_; rintro e w2 ⟨s, hs, rfl, o2⟩; have HS := hid_mk hs; clear hs)
      go_ret
      refine ⟨s, ?_, rfl, ((Out.refl 0 0 w).alloc _).trans o2⟩
      rw [HS.out]
      have := HR.out
      unfold toldF
      rw [if_neg (by simp), if_neg (by simp)]
      by_cases hq : (b : Int) = 39 ∨ (b : Int) = 92
      · rw [if_pos ⟨rfl, hq⟩]
        simp [spG, hq]
      · rw [if_neg (fun q => hq q.2), if_pos ⟨rfl, hr1, hr2⟩]
        have hq1 : ¬ (b : Int) = 39 := fun e => hq (.inl e)
        have hq2 : ¬ (b : Int) = 92 := fun e => hq (.inr e)
        simp [spG, hq1, hq2, hr1, hr2]
    · have hi := itoa_dc (b : Int) (by omega) (by omega) HT.out
      have HI := hid_mk hi
      have HR := hid_mk hr
      have hd : decide ((32 : Int) ≤ (b : Int)) = false ∨ (decide ((32 : Int) ≤ (b : Int)) = true ∧ decide ((b : Int) ≤ 126) = false) := by
        rcases Nat.lt_or_ge b 32 with h | h
        · exact .inl (decide_eq_false (by omega))
        · exact .inr ⟨decide_eq_true (by omega), decide_eq_false (by omega)⟩
      have HF : Hid (toldF (2, (b : Int)) n = dcF (b : Int).toNat) := hid_mk (by
        have := HR.out
        unfold toldF
        rw [if_neg (by simp), if_neg (by simp), if_neg (by rintro ⟨_, q | q⟩ <;> simp at q <;> omega), if_neg (by rintro ⟨_, q1, q2⟩; simp at q1 q2; omega), if_neg (by simp), if_neg (by simp)])
      clear h2 h3 h4 hp hh h5 hA hr hi
      rcases hd with hd | ⟨hd, hd2⟩
      · have h32 := of_decide_eq_false hd
        go_enter Tryz.func90, Tryz.ntmps90
        go_wp2_with (go_at_call 54; refine HI.out.mono ?_; rintro e w2 ⟨s, hs, rfl, o2⟩; have HS := hid_mk hs; clear hs)
        go_ret
        exact ⟨s, by rw [HS.out, HF.out, if_neg (by omega)], rfl, o2⟩
      · have h32 := of_decide_eq_true hd
        have h126 := of_decide_eq_false hd2
        go_enter Tryz.func90, Tryz.ntmps90
        go_wp2_with (go_at_call 54; refine HI.out.mono ?_; rintro e w2 ⟨s, hs, rfl, o2⟩; have HS := hid_mk hs; clear hs)
        go_ret
        exact ⟨s, by rw [HS.out, HF.out, if_neg (by omega)], rfl, o2⟩
  by_cases h3o : op = 3
  · subst h3o
    have hA := h2 (by decide)
    have hh : howF 3 = 5 := by decide
    rw [hh]
    obtain ⟨b, rfl⟩ := Int.eq_ofNat_of_zero_le hA.1
    by_cases hr : b < 6
    · have hr1 : (b : Int) < 6 := by omega
      have hr3 : (0 : Int) ≤ (b : Int) := by omega
      have hrd : decide ((b : Int) < 6) = true := decide_eq_true hr1
      have HR := hid_mk hr
      have c0 : w.cell? ⟨2, b, none⟩ = some (.string (imS b)) := by
        have := hN.2 b _ (imL_at hr)
        rwa [Nat.zero_add] at this
      clear h2 h3 h4 hp hh h5 hA hr h2o
      go_enter Tryz.func90, Tryz.ntmps90
      go_wp2
      go_ret
      refine ⟨_, ?_, rfl, Out.refl _ _ _⟩
      have := HR.out
      rw [bt_im ⟨b, HR.out⟩]
      unfold toldF
      rw [if_neg (by simp), if_neg (by simp), if_neg (by simp), if_neg (by simp), if_pos ⟨rfl, by show (b : Int) ≤ 5; omega⟩]
      rfl
    · have hr1 : ¬ ((b : Int) < 6) := by omega
      have hrd : decide ((b : Int) < 6) = false := decide_eq_false hr1
      have HI := hid_mk (itoa_dc (b : Int) (by omega) (by omega) HT.out)
      have HF : Hid (toldF (3, (b : Int)) n = dcF (b : Int).toNat) := hid_mk (by
        unfold toldF
        rw [if_neg (by simp), if_neg (by simp), if_neg (by simp), if_neg (by simp), if_neg (by rintro ⟨_, q⟩; simp at q; omega), if_neg (by simp)])
      clear h2 h3 h4 hp hh h5 hA hr h2o
      go_enter Tryz.func90, Tryz.ntmps90
      go_wp2_with (go_at_call 54; refine HI.out.mono ?_; rintro e w2 ⟨s, hs, rfl, o2⟩; have HS := hid_mk hs; clear hs)
      go_ret
      exact ⟨s, by rw [HS.out, HF.out, if_neg (by omega)], rfl, o2⟩
  by_cases h14 : op = 14 ∨ op = 15
  · have hh : howF op = 6 := by rcases h14 with rfl | rfl <;> decide
    have hA := h2 (by rcases h14 with rfl | rfl <;> decide)
    rw [hh]
    obtain ⟨b, rfl⟩ := Int.eq_ofNat_of_zero_le hA.1
    have H14 := hid_mk h14
    by_cases hr : b < n
    · have hr1 : (b : Int) < (n : Int) := by omega
      have hrd : decide ((b : Int) < (n : Int)) = true := decide_eq_true hr1
      have HL := hid_mk (label_of b (by omega) HT.out)
      have HF : Hid (toldF (op, (b : Int)) n = 76 :: dcF b) := hid_mk (by
        have := H14.out
        unfold toldF
        rw [if_neg (by simp <;> omega), if_neg (by simp <;> omega), if_neg (by simp <;> omega), if_neg (by simp <;> omega), if_neg (by simp <;> omega), if_pos ⟨this, hr1⟩]
        rfl)
      clear h2 h3 h4 hp hh h5 hA hr h2o h3o h14
      go_enter Tryz.func90, Tryz.ntmps90
      go_wp2_with (go_at_call 88; refine HL.out.mono ?_; rintro e w2 ⟨s, hs, rfl, o2⟩; have HS := hid_mk hs; clear hs)
      go_ret
      exact ⟨s, by rw [HS.out, HF.out], rfl, o2⟩
    · have hr1 : ¬ ((b : Int) < (n : Int)) := by omega
      have hrd : decide ((b : Int) < (n : Int)) = false := decide_eq_false hr1
      have HI := hid_mk (itoa_dc (b : Int) (by omega) (by omega) HT.out)
      have HF : Hid (toldF (op, (b : Int)) n = dcF (b : Int).toNat) := hid_mk (by
        have := H14.out
        unfold toldF
        rw [if_neg (by simp <;> omega), if_neg (by simp <;> omega), if_neg (by simp <;> omega), if_neg (by simp <;> omega), if_neg (by simp <;> omega), if_neg (by rintro ⟨_, q⟩; simp at q; omega)])
      clear h2 h3 h4 hp hh h5 hA hr h2o h3o h14
      go_enter Tryz.func90, Tryz.ntmps90
      go_wp2_with (go_at_call 54; refine HI.out.mono ?_; rintro e w2 ⟨s, hs, rfl, o2⟩; have HS := hid_mk hs; clear hs)
      go_ret
      exact ⟨s, by rw [HS.out, HF.out, if_neg (by omega)], rfl, o2⟩
  have hA : -9223372036854775808 ≤ A ∧ A ≤ 9223372036854775807 ∧ (op ≠ 1 → 0 ≤ A) := by
    by_cases h1 : op = 1
    · have := h3 (by rw [h1]; decide)
      exact ⟨by omega, by omega, fun q => absurd h1 q⟩
    · have hs : opS op = 2 := by
        unfold opS at hp ⊢
        rw [if_neg h1, if_neg h5] at hp ⊢
        split at hp
        · rename_i q; rw [if_pos q]
        · split at hp <;> omega
      have := h2 hs
      exact ⟨by omega, by omega, fun _ => this.1⟩
  have hh : howF op = 1 ∨ howF op = 2 := by
    unfold opS at hp
    unfold howF
    by_cases h1 : op = 1
    · rw [if_pos h1]; exact .inr rfl
    · rw [if_neg h1, if_neg h5, if_neg h2o, if_neg h3o, if_neg h14]
      rw [if_neg h1, if_neg h5] at hp
      split at hp
      · rename_i q; rw [if_pos (by omega)]; exact .inl rfl
      · split at hp <;> omega
  have HI := hid_mk (itoa_dc A hA.1 hA.2.1 HT.out)
  have HF : Hid (toldF (op, A) n = if A < 0 then 45 :: dcF (-A).toNat else dcF A.toNat) := hid_mk (by
    unfold toldF
    by_cases hz : A < 0
    · have : op = 1 := by
        by_cases h1 : op = 1
        · exact h1
        · have := hA.2.2 h1; omega
      rw [if_pos ⟨this, hz⟩, if_pos hz]
    · rw [if_neg (fun q => hz q.2), if_neg hz, if_neg h5, if_neg (fun q => h2o q.1), if_neg (fun q => h2o q.1), if_neg (fun q => h3o q.1), if_neg (fun q => h14 q.1)])
  clear h2 h3 h4 hp h5 h2o h3o h14 hA
  rcases hh with hh | hh
  · rw [hh]
    clear hh
    go_enter Tryz.func90, Tryz.ntmps90
    go_wp2_with (go_at_call 54; refine HI.out.mono ?_; rintro e w2 ⟨s, hs, rfl, o2⟩; have HS := hid_mk hs; clear hs)
    go_ret
    exact ⟨s, by rw [HS.out, HF.out], rfl, o2⟩
  · rw [hh]
    clear hh
    go_enter Tryz.func90, Tryz.ntmps90
    go_wp2_with (go_at_call 54; refine HI.out.mono ?_; rintro e w2 ⟨s, hs, rfl, o2⟩; have HS := hid_mk hs; clear hs)
    go_ret
    exact ⟨s, by rw [HS.out, HF.out], rfl, o2⟩
end Go.Proofs.YtcnjlbjpeklgkaaGreatDoor
namespace Go.Proofs.YtcnjlbjpeklgkaaGreatDoor
open Go.RowKit
set_option linter.unusedVariables false
set_option linter.unusedSimpArgs false

theorem PF.lo {lo b B : Nat} {w w' : World} (h : PF lo b w w') (h1 : B ≤ lo) (h2 : B ≤ b) : Lo B w w' := Fx.wide h fun k _ q => by
  rcases q with q | ⟨q, _⟩ <;> omega
def tgC (cd : List InF) (i n : Nat) : List Value := (List.range n).map fun j => .bool (goesB (cd.take i) j)
theorem tgC_len (cd : List InF) (i n : Nat) : (tgC cd i n).length = n := by unfold tgC; simp
theorem tgC_at (cd : List InF) (i : Nat) {n j : Nat} (h : j < n) : (tgC cd i n)[j]? = some (.bool (goesB (cd.take i) j)) := by
  unfold tgC
  rw [List.getElem?_map, List.getElem?_range h]; rfl
theorem goes_up {cd : List InF} {i : Nat} {x : InF} (h : cd[i]? = some x) (j : Nat) : goesB (cd.take (i + 1)) j = (goesB (cd.take i) j || ((x.1 == 14 || x.1 == 15) && x.2 == (j : Int))) := by
  unfold goesB
  rw [List.take_add_one, h, List.any_append]
  simp
theorem tgC_same {cd : List InF} {i n : Nat} {x : InF} (h : cd[i]? = some x) (hx : ¬ ((x.1 = 14 ∨ x.1 = 15) ∧ x.2 < n)) : tgC cd (i + 1) n = tgC cd i n := by
  unfold tgC
  refine List.map_congr_left fun j hj => ?_
  have hj' := List.mem_range.1 hj
  rw [goes_up h]
  have : ((x.1 == 14 || x.1 == 15) && x.2 == (j : Int)) = false := by
    by_cases h1 : x.1 = 14 ∨ x.1 = 15
    · have : ¬ x.2 = (j : Int) := fun e => hx ⟨h1, by omega⟩
      simp [this]
    · have h2 : ¬ x.1 = 14 := fun e => h1 (.inl e)
      have h3 : ¬ x.1 = 15 := fun e => h1 (.inr e)
      simp [h2, h3]
  rw [this, Bool.or_false]
theorem tgC_set {cd : List InF} {i n a : Nat} {x : InF} (h : cd[i]? = some x) (hx : x.1 = 14 ∨ x.1 = 15) (ha : x.2 = (a : Int)) (han : a < n) : (tgC cd i n).set a (.bool true) = tgC cd (i + 1) n := by
  apply List.ext_getElem?
  intro j
  rw [List.getElem?_set]
  by_cases hj : j < n
  · rw [tgC_at cd _ hj, tgC_at cd _ hj, goes_up h]
    have h1 : (x.1 == 14 || x.1 == 15) = true := by rcases hx with e | e <;> simp [e]
    rw [h1, ha]
    by_cases e : a = j
    · subst e
      rw [if_pos rfl, if_pos (by rw [tgC_len]; exact hj)]
      simp
    · rw [if_neg e]
      have : ((a : Int) == (j : Int)) = false := by simp; omega
      rw [this]
      simp
  · rw [if_neg (by omega), List.getElem?_eq_none (by rw [tgC_len]; omega), List.getElem?_eq_none (by rw [tgC_len]; omega)]
theorem tgC_zero (cd : List InF) (n : Nat) : (tgC cd 0 n).toArray = madeCells #[Value.bool false] n := by
  apply Array.ext'
  rw [toList_madeCells_one]
  unfold tgC
  rw [List.take_zero]
  apply List.ext_getElem (by simp)
  intro i h1 h2
  simp [goesB]
theorem how_6 {op : Int} : howF op = 6 ↔ op = 14 ∨ op = 15 := by
  unfold howF
  constructor
  · intro h
    repeat' split at h
    all_goals first | assumption | (exfalso; omega)
  · intro h
    rcases h with rfl | rfl <;> decide
set_option maxRecDepth 100000 in
set_option maxHeartbeats 2000000 in
theorem targets_any {w : World} {B : Nat} (P L C : Int) (ca : Option Addr) (n cc : Nat) (cd : List InF) (hn : cd.length = n) (hn2 : n ≤ 4096) (hcd : InIn w B ca cd) (hB : B ≤ w.heap.size) (hok : ∀ x ∈ cd, okI x) :
    Calls Tryz.prog 87 #[.agg #[.int .i64 P, .int .i64 L, .int .i64 C, .slice ca n cc]] w fun e w' => ∃ g, e = .returned (.slice (some ⟨g, 0, none⟩) n n) ∧ Bl w' g (tgC cd n n).toArray 4 ∧ w.heap.size ≤ g ∧ Out 0 0 w w' := by
  obtain ⟨h, hh⟩ : ∃ h, w.heap.size = h := ⟨_, rfl⟩
  obtain ⟨V, hV⟩ : ∃ V, w.alloc (.cells #[.int .i64 P, .int .i64 L, .int .i64 C, .slice ca n cc] 39) = V := ⟨_, rfl⟩
  have hb := Bl.new w #[.int .i64 P, .int .i64 L, .int .i64 C, .slice ca n cc] 39
  rw [hV, hh] at hb
  have hoV : Out 0 0 w V := by rw [← hV]; exact (Out.refl 0 0 w).alloc _
  have hsV : V.heap.size = h + 1 := by rw [← hV, size_alloc, hh]
  have k3 := hb.cell (i := 3) rfl
  have hmk := run_make_row' (P := Tryz.prog) 97 4 (.bool false) 1 Tryz.underlying97 (by kernel_rfl) rfl .i64 .i64 n (by omega) (by omega)
  rw [← tgC_zero cd n] at hmk
  have hmk := hmk V
  rw [hsV] at hmk
  have k3' := (hb.alloc (.cells (tgC cd 0 n).toArray 4)).cell (i := 3) rfl
  have hb2 := Bl.new V (tgC cd 0 n).toArray 4
  rw [hsV] at hb2
  have HB2 := hid_mk hb2
  have HO2 := hid_mk (hoV.alloc (.cells (tgC cd 0 n).toArray 4))
  have HC := hid_mk (And.intro hcd (And.intro hB (And.intro hn hok)))
  have HH := hid_mk hh
  clear hb2 hcd hB hn hok hoV hb
  go_enter Tryz.func87, Tryz.ntmps87
  (try rw [hV, hh])
  go_wp2_with fail
  go_loopw [13] (fun v wr => ∃ i : Nat, v = .int .i64 (i : Int) ∧ i ≤ n ∧ Bl wr (h + 1) (tgC cd i n).toArray 4 ∧ Out 0 0 w wr) (fun v _ => n - (intOf v).toNat)
  case atStart => exact ⟨0, rfl, Nat.zero_le _, HB2.out, HO2.out⟩
  case round =>
    obtain ⟨i, rfl, hi, hT, hO⟩ := hrel
    have HT := hid_mk hT
    have HO := hid_mk hO
    by_cases hlt : i < n
    · have hd : decide ((i : Int) < (n : Int)) = true := decide_eq_true (by omega)
      have hkm : (i : Int) < (n : Int) := by omega
      have hk0 : (0 : Int) ≤ (i : Int) := by omega
      obtain ⟨⟨op, A⟩, hx⟩ : ∃ x, cd[i]? = some x := ⟨_, List.getElem?_eq_getElem (by have := HC.out.2.2.1; omega)⟩
      obtain ⟨q, off, rfl, hcs⟩ : ∃ g off, ca = some ⟨g, off, none⟩ ∧ (wr.cell? ⟨g, off + i * 2, none⟩ = some (.int .i64 op) ∧ wr.cell? ⟨g, off + i * 2 + 1, none⟩ = some (.int .i64 A)) := by
        rcases HC.out.1.kept (Lo.of_out (B := B) HO.out) (Nat.le_refl _) with h | ⟨g, off, h1, _, h3⟩
        · rw [h] at hx; simp at hx
        · exact ⟨g, off, h1, h3 i _ hx⟩
      obtain ⟨c0, c1⟩ := hcs
      have hI := HC.out.2.2.2 _ (List.mem_of_getElem? hx)
      have HI := hid_mk hI
      have HX := hid_mk hx
      have HLt := hid_mk hlt
      have z0 := (Bl.new wr #[.int .i64 op, .int .i64 A] 55).cell (i := 0) rfl
      have z1 := (Bl.new wr #[.int .i64 op, .int .i64 A] 55).cell (i := 1) rfl
      by_cases h6 : op = 14 ∨ op = 15
      · have hA := hI.2.2.1 (by rcases h6 with e | e <;> (simp only at e ⊢; rw [e]; decide))
        simp only at hA
        obtain ⟨a, rfl⟩ := Int.eq_ofNat_of_zero_le hA.1
        have hh6 : howF op = 6 := how_6.2 h6
        have H6 := hid_mk h6
        by_cases han : a < n
        · have ha1 : (a : Int) < (n : Int) := by omega
          have had : decide ((a : Int) < (n : Int)) = true := decide_eq_true ha1
          have ha0 : (0 : Int) ≤ (a : Int) := by omega
          have HAN := hid_mk han
          have hB4 := HT.out.alloc (.cells #[.int .i64 op, .int .i64 (a : Int)] 55)
          have b0 := hB4.cell (i := a) (v := .bool (goesB (cd.take i) a)) (by rw [List.getElem?_toArray]; exact tgC_at cd i han)
          have f0 := hB4.frozen a
          have HB4 := hid_mk hB4
          clear hi hT hO hx hI hlt hA h6 han hB4
          go_wp2_with (go_at_call 89; refine (how_any _ _).mono ?_; rintro e w4 ⟨rfl, rfl⟩; rw [hh6])
          refine ⟨⟨i + 1, rfl, HLt.out, ?_, (HO.out.alloc _).setCell (.inr (by have := HH.out; show w.heap.size ≤ h + 1; omega)) _⟩, by have := HLt.out; show n - (((i : Int) + 1).toNat) < n - ((i : Int).toNat); omega⟩
          have := HB4.out.set a (.bool true)
          rw [← tgC_set HX.out H6.out rfl HAN.out, ← List.setIfInBounds_toArray]
          exact this
        · have ha1 : ¬ ((a : Int) < (n : Int)) := by omega
          have had : decide ((a : Int) < (n : Int)) = false := decide_eq_false ha1
          have HS := hid_mk (tgC_same (n := n) HX.out (fun q => ha1 q.2))
          clear hi hT hO hx hI hlt hA h6 han
          go_wp2_with (go_at_call 89; refine (how_any _ _).mono ?_; rintro e w4 ⟨rfl, rfl⟩; rw [hh6])
          exact ⟨⟨i + 1, rfl, HLt.out, by rw [HS.out]; exact HT.out.alloc _, HO.out.alloc _⟩, by have := HLt.out; show n - (((i : Int) + 1).toNat) < n - ((i : Int).toNat); omega⟩
      · have hh6 : (howF op == 6) = false := by
          simp only [beq_eq_false_iff_ne]
          exact fun e => h6 (how_6.1 e)
        have HS := hid_mk (tgC_same (n := n) HX.out (fun q => h6 q.1))
        clear hi hT hO hx hI hlt h6
        go_wp2_with (go_at_call 89; refine (how_any _ _).mono ?_; rintro e w4 ⟨rfl, rfl⟩)
        exact ⟨⟨i + 1, rfl, HLt.out, by rw [HS.out]; exact HT.out.alloc _, HO.out.alloc _⟩, by have := HLt.out; show n - (((i : Int) + 1).toNat) < n - ((i : Int).toNat); omega⟩
    · have hd : decide ((i : Int) < (n : Int)) = false := decide_eq_false (by omega)
      have hkm : ¬ ((i : Int) < (n : Int)) := by omega
      obtain rfl : i = n := by omega
      clear hlt hi hT hO
      go_wp2
      go_ret
      exact ⟨h + 1, rfl, HT.out, by have := HH.out; omega, HO.out⟩
end Go.Proofs.YtcnjlbjpeklgkaaGreatDoor
