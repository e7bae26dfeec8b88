import Derived.Test.YtcnjlbjpeklgkaaGreatDoorR24
import Derived.Lib.IndexLaws
namespace Go.Proofs.YtcnjlbjpeklgkaaGreatDoor
open Go.RowKit Go.MapKept
attribute [local go_sem] Oper.semAt_some
set_option linter.unusedVariables false
set_option linter.unusedSimpArgs false

def endE (l t : List Int) : Nat := if t = [] then (if l = [] then 0 else 1) else if t.getLast? = some 10 then 0 else 1
theorem lns_count (t : List Int) : ∀ l, (lnsA l t).length = t.count 10 + endE l t := by
  induction t with
  | nil => intro l; unfold lnsA endE; split <;> simp_all
  | cons c r ih =>
    intro l
    rw [lnsA]
    by_cases hc : c = 10
    · rw [if_pos hc, List.length_cons, ih, hc, List.count_cons_self]
      unfold endE
      cases r with
      | nil => simp
      | cons d r => simp only [List.getLast?_cons_cons, if_neg (List.cons_ne_nil _ _)]; omega
    · rw [if_neg hc, ih, List.count_cons_of_ne (fun q => hc q)]
      unfold endE
      cases r with
      | nil => simp [hc]
      | cons d r => simp only [List.getLast?_cons_cons, if_neg (List.cons_ne_nil _ _)]
theorem bt_count (s : ByteArray) (c : UInt8) : (Lib.countByte s.data.toList c) = (bt s).count (c.toNat : Int) := by
  unfold Lib.countByte bt
  generalize s.data.toList = l
  induction l with
  | nil => rfl
  | cons b l ih =>
    rw [List.map_cons, List.count_cons, List.count_cons, ih]
    congr 1
    have : (b == c) = (((b.toNat : Int)) == (c.toNat : Int)) := by
      rw [Bool.eq_iff_iff]
      simp only [beq_iff_eq]
      exact ⟨fun e => by rw [e], fun e => UInt8.toNat.inj (by omega)⟩
    rw [this]
set_option maxRecDepth 100000 in
theorem lines_any (t : ByteArray) (hs : t.size ≤ 1800000) (w : World) : Calls Tryz.prog 31 #[.string t] w fun e w' => e = .returned (.int .i64 ((lnsF (bt t)).length : Int)) ∧ w' = w := by
  have HC := hid_mk (fun w => Tryz.strings_Count_one t 10 w)
  have HS := hid_mk (fun w => Tryz.strings_HasSuffix t ⟨#[10]⟩ w (by omega))
  have hcount : (Lib.countByte t.data.toList 10) = (bt t).count 10 := bt_count t 10
  have hle : (bt t).count 10 ≤ 1800000 := by
    have := List.count_le_length (a := (10 : Int)) (l := bt t)
    rw [bt_len] at this
    omega
  have hsuf : Lib.hasSuffix t.data.toList [10] = decide ((bt t).getLast? = some 10) := by
    have h1 : bt t = t.data.toList.map (fun c => (c.toNat : Int)) := rfl
    rw [h1, List.getLast?_map, Bool.eq_iff_iff]
    unfold Lib.hasSuffix
    simp only [List.isSuffixOf_iff_suffix, decide_eq_true_eq]
    constructor
    · rintro ⟨l, hl⟩
      rw [← hl]; simp
    · intro h
      cases hq : t.data.toList.getLast? with
      | none => rw [hq] at h; cases h
      | some c =>
        rw [hq] at h
        have hc : (c.toNat : Int) = 10 := Option.some.inj h
        have hc2 : c = 10 := UInt8.toNat.inj (by rw [show (10 : UInt8).toNat = 10 from rfl]; omega)
        subst hc2
        obtain ⟨l, hl⟩ := List.getLast?_eq_some_iff.1 hq
        exact ⟨l, hl.symm⟩
  have hlen := lns_count (bt t) []
  have he := bt_empty t
  generalize hn : (bt t).count 10 = n at *
  rw [hcount] at HC
  rw [show (⟨#[10]⟩ : ByteArray).data.toList = [10] from rfl, hsuf] at HS
  have hlF : (lnsF (bt t)).length = n + endE [] (bt t) := hlen
  rw [hlF]
  have hn0 : (0 : Int) ≤ (n : Int) := by omega
  have hn1 : (n : Int) ≤ 1800000 := by omega
  by_cases h0 : bt t = []
  · rw [decide_eq_true h0] at he
    have hE : endE [] (bt t) = 0 := by rw [h0]; rfl
    rw [hE]
    clear hlF hlen hsuf hcount h0
    go_enter Tryz.func31, Tryz.ntmps31
    go_wp2_with (go_at_call 57; refine (HC.out _).mono ?_; rintro e w2 ⟨rfl, rfl⟩)
    go_ret
    exact ⟨rfl, rfl⟩
  · rw [decide_eq_false h0] at he
    by_cases h1 : (bt t).getLast? = some 10
    · rw [decide_eq_true h1] at HS
      have hE : endE [] (bt t) = 0 := by unfold endE; rw [if_neg h0, if_pos h1]
      rw [hE]
      clear hlF hlen hsuf hcount h0 h1
      go_enter Tryz.func31, Tryz.ntmps31
      go_wp2_with (first | (go_at_call 57; refine (HC.out _).mono ?_; rintro e w2 ⟨rfl, rfl⟩) | (go_at_call 58; refine (HS.out _).mono ?_; rintro e w2 ⟨rfl, rfl⟩))
      go_ret
      exact ⟨rfl, rfl⟩
    · rw [decide_eq_false h1] at HS
      have hE : endE [] (bt t) = 1 := by unfold endE; rw [if_neg h0, if_neg h1]
      rw [hE]
      clear hlF hlen hsuf hcount h0 h1
      go_enter Tryz.func31, Tryz.ntmps31
      go_wp2_with (first | (go_at_call 57; refine (HC.out _).mono ?_; rintro e w2 ⟨rfl, rfl⟩) | (go_at_call 58; refine (HS.out _).mono ?_; rintro e w2 ⟨rfl, rfl⟩))
      go_ret
      exact ⟨by simp, rfl⟩
/-- a text's next line -/
def Cuts (r line rest : ByteArray) : Prop := (∃ a, (10 : Int) ∉ a ∧ bt line = a ++ [10] ∧ bt r = a ++ 10 :: bt rest) ∨ ((10 : Int) ∉ bt r ∧ line = r ∧ rest = ⟨#[]⟩)
theorem lines_all (s : ByteArray) (w : World) : Calls Tryz.prog 32 #[.string s] w fun e w' => e = .returned (.func (.func 59) #[] #[.pointer (some ⟨w.heap.size, 0, none⟩)]) ∧ w' = w.alloc (.cells #[.string s] 9) := by
  go_enter Tryz.func32, Tryz.ntmps32
  go_wp2
  go_ret
  exact ⟨rfl, rfl⟩
theorem roundIn_wide {m : Nat} {P : Program} {l : Nat} {f : FuncId} {tmps : Array Value} {assign body : Code} {w : World} {R : Ending → World → Prop} (h : RoundIn Fence.wide 0 P l f tmps assign body w R) : RoundIn Fence.wide m P l f tmps assign body w R :=
  ⟨h.1, fun c cs _ => h.2 c cs (room_wide _)⟩
/-- where the next line ends -/
theorem cuts_at (r : ByteArray) : (∃ k : Nat, Lib.indexByte r.data.toList 10 = (k : Int) ∧ k < r.size ∧ Cuts r (r.extract 0 (k + 1)) (r.extract (k + 1) r.size)) ∨ (Lib.indexByte r.data.toList 10 = -1 ∧ Cuts r r ⟨#[]⟩) := by
  have hlen : (bt r) = r.data.toList.map (fun c => (c.toNat : Int)) := rfl
  rcases Int.lt_or_le (Lib.indexByte r.data.toList 10) 0 with h | h
  · have h1 : Lib.indexByte r.data.toList 10 = -1 := by have := Lib.indexByte_ge r.data.toList 10; omega
    refine .inr ⟨h1, .inr ⟨fun hm => ?_, rfl, rfl⟩⟩
    rw [hlen] at hm
    obtain ⟨c, hc, e⟩ := List.mem_map.1 hm
    have hc2 : c = 10 := UInt8.toNat.inj (by rw [show (10 : UInt8).toNat = 10 from rfl]; omega)
    subst hc2
    obtain ⟨k, hk⟩ := List.getElem?_of_mem hc
    exact Lib.indexByte_none h1 k hk
  · obtain ⟨k, hk⟩ : ∃ k : Nat, Lib.indexByte r.data.toList 10 = (k : Int) := ⟨(Lib.indexByte r.data.toList 10).toNat, by omega⟩
    obtain ⟨h1, h2⟩ := Lib.indexByte_some hk
    have hkl : k < r.data.toList.length := (List.getElem?_eq_some_iff.1 h1).1
    have hks : k < r.size := by rw [Lib.size_eq]; exact hkl
    have hb : (bt r)[k]? = some 10 := by rw [hlen, List.getElem?_map, h1]; rfl
    have hsz : (bt r).length = r.size := bt_len r
    refine .inl ⟨k, hk, hks, .inl ⟨(bt r).take k, fun hm => ?_, ?_, ?_⟩⟩
    · obtain ⟨j, hj⟩ := List.getElem?_of_mem hm
      have hjk : j < k := by
        have := (List.getElem?_eq_some_iff.1 hj).1
        rw [List.length_take] at this; omega
      rw [List.getElem?_take_of_lt hjk, hlen, List.getElem?_map] at hj
      cases hq : r.data.toList[j]? with
      | none => rw [hq] at hj; cases hj
      | some c =>
        rw [hq] at hj
        have e : (c.toNat : Int) = 10 := Option.some.inj hj
        have hc2 : c = 10 := UInt8.toNat.inj (by rw [show (10 : UInt8).toNat = 10 from rfl]; omega)
        subst hc2
        exact h2 j hjk hq
    · rw [bt_ext, List.drop_zero, Nat.sub_zero, List.take_add_one, hb]; rfl
    · rw [bt_ext]
      have e1 : ((bt r).drop (k + 1)).take (r.size - (k + 1)) = (bt r).drop (k + 1) := List.take_of_length_le (by rw [List.length_drop, hsz]; exact Nat.le_refl _)
      rw [e1]
      have := List.take_append_drop k (bt r)
      conv => lhs; rw [← this]
      congr 1
      obtain ⟨hk1, hk2⟩ := List.getElem?_eq_some_iff.1 hb
      rw [List.drop_eq_getElem_cons hk1, hk2]
theorem cuts_less {r line rest : ByteArray} (h : Cuts r line rest) (hr : bt r ≠ []) : rest.size < r.size := by
  rcases h with ⟨a, _, _, h3⟩ | ⟨_, _, rfl⟩
  · have := congrArg List.length h3
    rw [bt_len] at this
    simp only [List.length_append, List.length_cons, bt_len] at this
    omega
  · rw [← bt_len r]
    exact List.length_pos_iff.2 hr
set_option maxRecDepth 100000 in
set_option maxHeartbeats 2000000 in
/-- the rounds of a loop over the lines of a text: I r: r is still to come -/
theorem lines1_all {g l : Nat} (I : ByteArray → World → Prop) (hm : ∀ r w, I r w → Bl w g #[.string r] 9 ∧ r.size ≤ 1800000)
    (hy : ∀ (r line rest : ByteArray) w w1, I r w → bt r ≠ [] → Cuts r line rest → Out g (g + 1) w w1 → Bl w1 g #[.string rest] 9 → YieldAt Fence.wide 0 Tryz.prog l #[.string line] w1 fun e w' => e = .returned (.bool true) ∧ I rest w')
    {s : ByteArray} {w : World} (h0 : I s w) :
    Calls Tryz.prog 59 #[.func (.yield l) #[] #[], .pointer (some ⟨g, 0, none⟩)] w fun e w' => (∃ v, e = .returned v) ∧ ∃ r, bt r = [] ∧ I r w' := by
  have HM := hid_mk hm
  have HY := hid_mk hy
  have HI := hid_mk h0
  clear hm hy h0
  refine (callsIn_wide (n := 0)).1 ?_
  refine callsIn_of_wp Tryz.func59 rfl trivial ?_ rfl
  simp only [Tryz.ntmps59, List.size_toArray, List.length_cons, List.length_nil, Nat.reduceAdd, Nat.reduceSub, Array.replicate_succ, Array.replicate_zero, List.push_toArray, List.append_toArray, List.nil_append, List.cons_append]
  gi_wp2_with fail
  gi_loopw [] (fun wr => ∃ r, I r wr) (fun wr => match wr.cell? ⟨g, 0, none⟩ with
    | some (.string r) => r.size
    | _ => 0)
  case atStart => exact ⟨_, HI.out⟩
  case round =>
    obtain ⟨r, hI⟩ := hrel
    obtain ⟨hB, hsz⟩ := HM.out _ _ hI
    have c0 := hB.cell (i := 0) rfl
    have z0 := hB.frozen 0
    have HB := hid_mk hB
    have HIr := hid_mk hI
    have hsz2 : (r.size : Int) ≤ 1800000 := by omega
    have he := bt_empty r
    by_cases hr : bt r = []
    · have hs0 : r.size = 0 := by rw [← bt_len, hr]; rfl
      have HR := hid_mk hr
      rw [decide_eq_true hr] at he
      clear hI hB hr
      gi_wp2
      exact bodyPost_end (results_none Tryz.results59 _ _ _) rfl ⟨⟨_, rfl⟩, r, HR.out, HIr.out⟩
    · have hpos : 0 < r.size := by rw [← bt_len]; exact List.length_pos_iff.2 hr
      have hd : decide (0 < r.size) = true := decide_eq_true hpos
      have hd2 : (0 : Int) < (r.size : Int) := by omega
      have HR := hid_mk hr
      rw [decide_eq_false hr] at he
      rcases cuts_at r with ⟨k, hk, hkr, hcut⟩ | ⟨hk, hcut⟩
      · have HIx := hid_mk (fun w => Tryz.strings_IndexByte r 10 w)
        rw [show ((10 : Int).toNat.toUInt8) = 10 from rfl, hk] at HIx
        have k0 : (0 : Int) ≤ (k : Int) := by omega
        have k1 : (k : Int) < (r.size : Int) := by omega
        have HCut := hid_mk hcut
        clear hI hB hr hk hcut hkr
        have k2 : (k : Int) + 1 ≤ (r.size : Int) := by omega
        have k3 : k + 1 ≤ r.size := by omega
        have hwr : IntKind.i64.wrap ((k : Int) + 1) = (k : Int) + 1 := by simp [IntKind.wrap, IntKind.signed, IntKind.bits]; omega
        have hnn : ¬ ((k : Int) + 1 < 0) := by omega
        have hge : (0 : Int) ≤ (k : Int) + 1 := by omega
        have htn : ((k : Int) + 1).toNat = k + 1 := by omega
        gi_wp2_with (refine ⟨trivial, rfl, (callsIn_wide.2 (HIx.out _)).mono ?_⟩; rintro e w2 ⟨rfl, rfl⟩)
        have hmx : Tryz.prog.follows .mixedOrders = true := by kernel_rfl
        gi_region_with_o (fail)
        all_goals (
          obtain ⟨fn, tmps, assign, body, hy, hR⟩ := HY.out r (r.extract 0 (k + 1)) (r.extract (k + 1) r.size) w2 (w2.setCell ⟨g, 0, none⟩ (.string (r.extract (k + 1) r.size))).drew HIr.out HR.out HCut.out (((Out.refl g (g + 1) w2).setCell (p := ⟨g, 0, none⟩) (.inl ⟨Nat.le_refl _, Nat.lt_succ_self _⟩) _).drew) (HB.out.set 0 _)
          have HR2 := hid_mk (roundIn_wide (m := 0) hR)
          clear hR c0 z0 hwr hnn hge htn
          gi_wp2
          refine ⟨rfl, HR2.out.mono ?_⟩
          clear HR2 hy
          rintro e w3 ⟨rfl, hI2⟩
          have HI2 := hid_mk hI2
          clear hI2
          gi_wp2
          go_roundw
          case rel => exact ⟨_, HI2.out⟩
          case measure =>
            have c1 := (HM.out _ _ HI2.out).1.cell (i := 0) rfl
            have c2 := HB.out.cell (i := 0) rfl
            rw [c1, c2]
            exact cuts_less HCut.out HR.out)
      · have HIx := hid_mk (fun w => Tryz.strings_IndexByte r 10 w)
        rw [show ((10 : Int).toNat.toUInt8) = 10 from rfl, hk] at HIx
        have HCut := hid_mk hcut
        obtain ⟨fn, tmps, assign, body, hy, hR⟩ := HY.out r r ⟨#[]⟩ wr (wr.setCell ⟨g, 0, none⟩ (.string ⟨#[]⟩)) hI hr hcut ((Out.refl g (g + 1) wr).setCell (p := ⟨g, 0, none⟩) (.inl ⟨Nat.le_refl _, Nat.lt_succ_self _⟩) _) (hB.set 0 _)
        have HR2 := hid_mk (roundIn_wide (m := 0) hR)
        clear hI hB hr hk hcut hR
        gi_wp2_with (refine ⟨trivial, rfl, (callsIn_wide.2 (HIx.out _)).mono ?_⟩; rintro e w2 ⟨rfl, rfl⟩)
        refine ⟨rfl, HR2.out.mono ?_⟩
        clear HR2 hy
        rintro e w3 ⟨rfl, hI2⟩
        have HI2 := hid_mk hI2
        clear hI2
        gi_wp2
        go_roundw
        case rel => exact ⟨_, HI2.out⟩
        case measure =>
          have c1 := (HM.out _ _ HI2.out).1.cell (i := 0) rfl
          have c2 := HB.out.cell (i := 0) rfl
          rw [c1, c2]
          exact cuts_less HCut.out HR.out
end Go.Proofs.YtcnjlbjpeklgkaaGreatDoor
namespace Go.Proofs.YtcnjlbjpeklgkaaGreatDoor
open Go.RowKit
set_option linter.unusedVariables false
set_option linter.unusedSimpArgs false

def In64 (n : Int) : Prop := -9223372036854775808 ≤ n ∧ n ≤ 9223372036854775807
theorem hx_rng {c d : Int} (h : hxF c = some d) : 0 ≤ d ∧ d ≤ 15 := by
  unfold hxF at h
  split at h
  · rename_i hc
    cases h
    unfold dgB at hc
    simp only [decide_eq_true_eq] at hc
    omega
  · split at h
    · cases h; omega
    · cases h
theorem hx_nn {c d : Int} (h : hxF c = some d) : 0 ≤ d := (hx_rng h).1
theorem unq_in : ∀ (n : Nat) (l b : List Int), l.length ≤ n → (∀ c ∈ l, 0 ≤ c) → unqF l = some b → ∀ c ∈ b, 0 ≤ c
  | n, [], b, _, _, h => by
    rw [unqF] at h; cases h; intro c hc; simp at hc
  | 0, _ :: _, _, hl, _, _ => by simp at hl
  | n + 1, c :: r, b, hl, hc, h => by
    have hr : r.length ≤ n := by simpa using hl
    have step : ∀ (x : Int) (q : List Int), 0 ≤ x → q.length ≤ n → (∀ c ∈ q, 0 ≤ c) → (unqF q).map (x :: ·) = some b → ∀ c ∈ b, 0 ≤ c := fun x q hx hq hq2 e => by
      obtain ⟨b', h', rfl⟩ := Option.map_eq_some_iff.1 e
      intro d hd
      rcases List.mem_cons.1 hd with rfl | hd
      · exact hx
      · exact unq_in n q b' hq hq2 h' d hd
    rw [unqF.eq_def] at h
    simp only at h
    split at h
    · exact step c r (hc c (by simp)) hr (fun d hd => hc d (by simp [hd])) h
    · match r, hr, hc, h with
      | [], _, _, h => cases h
      | d :: r2, hr, hc, h =>
        have hr2 : r2.length ≤ n := by simp at hr; omega
        have hc2 : ∀ d ∈ r2, 0 ≤ d := fun e he => hc e (by simp [he])
        simp only at h
        split at h
        · exact step d r2 (hc d (by simp)) hr2 hc2 h
        · split at h
          · exact step 10 r2 (by decide) hr2 hc2 h
          · split at h
            · exact step 9 r2 (by decide) hr2 hc2 h
            · split at h
              · match r2, hr2, hc2, h with
                | [], _, _, h => cases h
                | [_], _, _, h => cases h
                | a :: e :: r3, hr2, hc2, h =>
                  simp only at h
                  split at h
                  · rename_i x y hx hy
                    have := hx_nn hx
                    have := hx_nn hy
                    exact step (16 * x + y) r3 (by omega) (by simp at hr2; omega) (fun f hf => hc2 f (by simp [hf])) h
                  · cases h
              · cases h
theorem dec_in {s : List Int} {k : Int} (h : decF s = some k) : In64 k := by
  unfold decF at h
  split at h
  · cases h
  · have := decA_rng s 0 k (by omega) (by omega) h
    exact ⟨by omega, this.2⟩
theorem fl_rng : ∀ (s : List Int) (n k : Int), 0 ≤ n → fl16 n s = some k → 0 ≤ k ∧ k < (n + 1) * 16 ^ s.length
  | [], n, k, h0, h => by simp only [fl16] at h; cases h; simp; omega
  | c :: r, n, k, h0, h => by
    simp only [fl16] at h
    split at h
    · rename_i d hd
      have := hx_rng hd
      have ih := fl_rng r (n * 16 + d) k (by omega) h
      refine ⟨ih.1, Int.lt_of_lt_of_le ih.2 ?_⟩
      rw [List.length_cons, Int.pow_succ]
      have hp : (0 : Int) ≤ 16 ^ r.length := Int.pow_nonneg (by decide)
      have : (n * 16 + d + 1) * 16 ^ r.length ≤ ((n + 1) * 16) * 16 ^ r.length := Int.mul_le_mul_of_nonneg_right (by omega) hp
      calc (n * 16 + d + 1) * 16 ^ r.length ≤ ((n + 1) * 16) * 16 ^ r.length := this
        _ = (n + 1) * (16 ^ r.length * 16) := by rw [Int.mul_assoc, Int.mul_comm 16 (16 ^ r.length)]
    · cases h
theorem say_nn {b : List Int} (h : ∀ c ∈ b, 0 ≤ c) : 0 ≤ sayF b := by
  unfold sayF
  split
  · exact h _ (by simp)
  · omega
  · omega
  · omega
  · omega
theorem opn_in {op n : Int} {s : List Int} (hs : ∀ c ∈ s, 0 ≤ c) (h : opnF op s = some (.inl n)) : In64 n := by
  unfold opnF at h
  split at h
  · split at h
    · split at h
      · cases h; exact ⟨by omega, by omega⟩
      · cases h
    · cases h
  · split at h
    · split at h
      · rename_i hd; cases h; exact dec_in hd
      · obtain ⟨x, hx, e⟩ := Option.map_eq_some_iff.1 h
        cases e
        obtain ⟨b, hq, hb⟩ := Option.bind_eq_some_iff.1 hx
        have hnn : ∀ c ∈ b, 0 ≤ c := by
          unfold quoF at hq
          split at hq
          · exact unq_in _ _ _ (Nat.le_refl _) (fun c hc => hs c (List.mem_of_mem_drop (List.dropLast_subset _ hc))) hq
          · cases hq
        unfold scaF at hb
        split at hb
        · cases hb
        · rename_i hc
          cases hb
          have h1 : ¬ sayF b > 1114111 := fun q => hc (.inr (.inr (.inl q)))
          have h3 := say_nn hnn
          exact ⟨by omega, by omega⟩
    · split at h
      · split at h
        · cases h
          rename_i i hi
          have := (List.findIdx?_eq_some_iff_getElem.1 hi).1
          have hl : imW.length = 6 := rfl
          exact ⟨by omega, by omega⟩
        · obtain ⟨x, hx, e⟩ := Option.map_eq_some_iff.1 h
          cases e; exact dec_in hx
      · split at h
        · split at h
          · rename_i hl
            obtain ⟨x, hx, e⟩ := Option.map_eq_some_iff.1 h
            cases e
            have := fl_rng (s.drop 2) 0 x (by omega) hx
            rw [List.length_drop, hl.1] at this
            have h16 : (0 + 1 : Int) * 16 ^ (18 - 2) = 18446744073709551616 := by decide
            rw [h16] at this
            unfold sgn64
            split <;> exact ⟨by omega, by omega⟩
          · cases h
        · split at h
          · split at h
            · rename_i hd; cases h; exact dec_in hd
            · split at h <;> cases h
          · obtain ⟨x, hx, e⟩ := Option.map_eq_some_iff.1 h
            cases e; exact dec_in hx
/-- all that a program that is being read holds lies within the words of the machine -/
structure MBd (m : MkF) : Prop where
  fn : ∀ f ∈ m.fn, MI f.2.2.2
  lab : ∀ l ∈ m.lab, In64 l.2
  gl : In64 m.gl
theorem mi_snoc {l : List InF} (h : MI l) {x : InF} (h1 : In64 x.1) (h2 : In64 x.2) : MI (l ++ [x]) := fun y hy => by
  rcases List.mem_append.1 hy with hy | hy
  · exact h y hy
  · obtain rfl : y = x := by simpa using hy
    exact ⟨h1, h2⟩
theorem mi_set {l : List InF} (h : MI l) (i : Nat) {v : Int} (hv : In64 v) : MI (l.modify i (fun x => (x.1, v))) := fun y hy => by
  obtain ⟨j, hj⟩ := List.getElem?_of_mem hy
  rw [List.getElem?_modify] at hj
  cases hq : l[j]? with
  | none => rw [hq] at hj; simp at hj
  | some x =>
    rw [hq] at hj
    have hj : (if i = j then (x.1, v) else x) = y := Option.some.inj hj
    have hx := h x (List.mem_of_getElem? hq)
    by_cases e : i = j
    · rw [if_pos e] at hj
      subst hj
      exact ⟨hx.1, hv⟩
    · rw [if_neg e] at hj
      subst hj
      exact hx
theorem fs_set {fs : List FnF} (h : ∀ f ∈ fs, MI f.2.2.2) (i : Nat) {v : Int} (hv : In64 v) : ∀ f ∈ setA fs i v, MI f.2.2.2 := by
  rcases Classical.em (fs = []) with rfl | hn
  · intro f hf; simp [setA] at hf
  · obtain ⟨gs, g, rfl⟩ := snoc_of hn
    rw [set_cons]
    intro f hf
    rcases List.mem_append.1 hf with hf | hf
    · exact h f (by simp [hf])
    · obtain rfl := List.mem_singleton.1 hf
      exact mi_set (h g (by simp)) i hv
theorem fs_add {fs : List FnF} (h : ∀ f ∈ fs, MI f.2.2.2) {x : InF} (h1 : In64 x.1) (h2 : In64 x.2) : ∀ f ∈ addI fs x, MI f.2.2.2 := by
  rcases Classical.em (fs = []) with rfl | hn
  · intro f hf; simp [addI] at hf
  · obtain ⟨gs, g, rfl⟩ := snoc_of hn
    rw [add_cons]
    intro f hf
    rcases List.mem_append.1 hf with hf | hf
    · exact h f (by simp [hf])
    · obtain rfl := List.mem_singleton.1 hf
      exact mi_snoc (h g (by simp)) h1 h2
theorem fs_rsv {lab : List (List Int × Int)} (hl : ∀ l ∈ lab, In64 l.2) : ∀ (us : List (Nat × Nat × List Int)) {fs : List FnF}, (∀ f ∈ fs, MI f.2.2.2) → ∀ f ∈ rsv lab fs us, MI f.2.2.2
  | [], fs, h => h
  | u :: us, fs, h => by
    have ih := fun {fs : List FnF} (h : ∀ f ∈ fs, MI f.2.2.2) => fs_rsv hl us h
    unfold rsv at ih ⊢
    rw [List.foldl_cons]
    refine ih ?_
    split
    · rename_i l hf
      exact fs_set h _ (hl l (List.mem_of_find?_eq_some hf))
    · exact h
theorem opF_in (w : List Int) : In64 (opF w) := by
  rcases Classical.em (opF w = 0) with e | e
  · rw [e]; exact ⟨by decide, by decide⟩
  · have := (op_back e).2
    exact ⟨by omega, by omega⟩
theorem MBd.ends {m : MkF} {s : Low} {k : Nat} (r : Rel m s k) (h : MBd m) : MBd m.ends := by
  obtain ⟨b, he, _⟩ := ends_eq m (fun u hu => (r.rng u hu).2.1)
  rw [he]
  exact ⟨fs_rsv h.lab m.use h.fn, fun l hl => by simp at hl, h.gl⟩
theorem MBd.words {m m' : MkF} {s : Low} {k line : Nat} (r : Rel m s k) (g : MLim m k) (hk : k ≤ 1000000) (h : MBd m) {l : List (List Int)} (hl : ∀ t ∈ l, ∀ c ∈ t, 0 ≤ c) (e : m.words plO line l = some m') : MBd m' := by
  unfold MkF.words at e
  split at e
  · cases e; exact h
  · rename_i w l
    split at e
    · unfold MkF.mark at e
      split at e
      · cases e
        refine ⟨h.fn, fun q hq => ?_, h.gl⟩
        rcases List.mem_append.1 hq with hq | hq
        · exact h.lab q hq
        · obtain rfl := List.mem_singleton.1 hq
          have : lenI m.fn ≤ 1000000 := by
            unfold lenI
            split
            · rename_i f hf
              have := g.cd f.2.2.2.length (List.mem_map.2 ⟨f, List.mem_of_getLast? hf, rfl⟩)
              omega
            · omega
          exact ⟨by show (-9223372036854775808 : Int) ≤ ((lenI m.fn : Nat) : Int); omega, by show ((lenI m.fn : Nat) : Int) ≤ 9223372036854775807; omega⟩
      · cases e
    · split at e
      · unfold MkF.globals at e
        split at e
        · rename_i n hn
          split at e
          · cases e
          · cases e
            refine ⟨h.fn, h.lab, ?_⟩
            unfold numsF at hn
            split at hn
            · have := (mm_rng _ hn).2 n (by simp)
              exact ⟨by show _ ≤ n; omega, this.2⟩
            · cases hn
        · cases e
      · split at e
        · unfold MkF.text at e
          split at e
          · split at e
            · cases e
            · obtain ⟨b, _, rfl⟩ := Option.map_eq_some_iff.1 e
              exact ⟨h.fn, h.lab, h.gl⟩
          · cases e
        · split at e
          · unfold MkF.func at e
            split at e
            · cases e
              have he := MBd.ends r h
              refine ⟨fun f hf => ?_, he.lab, he.gl⟩
              rcases List.mem_append.1 hf with hf | hf
              · exact he.fn f hf
              · obtain rfl := List.mem_singleton.1 hf
                intro x hx; simp at hx
            · cases e
          · unfold MkF.ins at e
            split at e
            · cases e
            · split at e
              · split at e
                · split at e
                  · rename_i a ha
                    cases e
                    exact ⟨fs_add h.fn (opF_in _) (opn_in (hl _ (by simp)) ha), h.lab, h.gl⟩
                  · cases e
                    exact ⟨fs_add h.fn (opF_in _) (show In64 0 from ⟨by decide, by decide⟩), h.lab, h.gl⟩
                  · cases e
                · cases e
              · split at e
                · cases e
                  exact ⟨fs_add h.fn (opF_in _) (show In64 0 from ⟨by decide, by decide⟩), h.lab, h.gl⟩
                · cases e
theorem MBd.line {m : MkF} {s : Low} {k : Nat} (r : Rel m s k) (g : MLim m k) (hk : k ≤ 1000000) (h : MBd m) (x : ByteArray) : MBd (m.line plO (k + 1) (bt x)) := by
  unfold MkF.line
  cases hw : (wsF (bt x)).bind (m.words plO (k + 1)) with
  | some m' =>
    obtain ⟨ws, hws, e⟩ := Option.bind_eq_some_iff.1 hw
    exact h.words r g hk (fun t ht c hc => by
      obtain ⟨b, rfl⟩ := words_bt hws t ht
      exact (bt_byte b c hc).1) e
  | none =>
    simp only
    rw [(wrong_bad m (k + 1)).2]
    exact ⟨h.fn, h.lab, h.gl⟩
end Go.Proofs.YtcnjlbjpeklgkaaGreatDoor
