import Derived.Test.YtcnjlbjpeklgkaaGreatDoorR27
import Derived.Lib.Builder
import Derived.Lib.UnsafeStr
namespace Go.Proofs.YtcnjlbjpeklgkaaGreatDoor
open Go.RowKit
set_option linter.unusedVariables false
set_option linter.unusedSimpArgs false

theorem dn_rng (n a b c d : Nat) (h : 0 < n) : 1 ≤ (Lib.decodeN n a b c d).2 ∧ (Lib.decodeN n a b c d).2 ≤ n := by
  unfold Lib.decodeN
  repeat' split
  all_goals first | (simp; omega) | omega
theorem get_nums (bs : List Int) (hb : Byt bs) (i : Nat) : ((strOfNums bs).get! i).toNat = by_ bs i := by
  unfold by_
  rw [List.getD_eq_getElem?_getD]
  show (((strOfNums bs).data[i]!) : UInt8).toNat = _
  rw [getElem!_def]
  have hd : (strOfNums bs).data[i]? = (bs[i]?).map (fun (x : Int) => UInt8.ofNat x.toNat) := by
    rw [← Array.getElem?_toList, strOfNums_data, List.getElem?_map]
  rw [hd]
  cases hq : bs[i]? with
  | none => rfl
  | some x =>
    have := hb x (List.mem_of_getElem? hq)
    simp only [Option.map_some, Option.getD_some]
    rw [UInt8.toNat_ofNat']
    omega
theorem one_rune (bs : List Int) (hb : Byt bs) (h0 : 0 < bs.length) : Lib.runeCount (strOfNums bs) = 1 ↔ (Lib.decodeN bs.length (by_ bs 0) (by_ bs 1) (by_ bs 2) (by_ bs 3)).2 = bs.length := by
  have hsz := sz_nums bs
  have hdec : Utf8.decode (strOfNums bs) 0 = Lib.decodeN bs.length (by_ bs 0) (by_ bs 1) (by_ bs 2) (by_ bs 3) := by
    rw [Lib.decode_at, Nat.sub_zero, Nat.zero_add, Nat.zero_add, Nat.zero_add, hsz, get_nums bs hb, get_nums bs hb, get_nums bs hb, get_nums bs hb]
  have hr := dn_rng bs.length (by_ bs 0) (by_ bs 1) (by_ bs 2) (by_ bs 3) h0
  unfold Lib.runeCount
  rw [hsz]
  obtain ⟨m, hm⟩ : ∃ m, bs.length = m + 1 := ⟨bs.length - 1, by omega⟩
  rw [hm] at hr hdec ⊢
  rw [Lib.runeCountFrom, if_pos (by rw [hsz]; omega), hdec, Nat.zero_add]
  generalize Lib.decodeN (m + 1) (by_ bs 0) (by_ bs 1) (by_ bs 2) (by_ bs 3) = q at *
  by_cases hq : q.2 = m + 1
  · rw [hq, Lib.runeCountFrom_end _ _ _ (by rw [hsz]; omega)]
    simp
  · refine ⟨fun e => ?_, fun e => absurd e hq⟩
    exfalso
    cases m with
    | zero => omega
    | succ m =>
      rw [Lib.runeCountFrom, if_pos (by rw [hsz]; omega)] at e
      omega
end Go.Proofs.YtcnjlbjpeklgkaaGreatDoor
namespace Go.Proofs.YtcnjlbjpeklgkaaGreatDoor
open Go.RowKit
set_option linter.unusedVariables false
set_option linter.unusedSimpArgs false

/-- what is asked of utf8.Valid: some answer, and the right one where one step of the decoder takes all the bytes -/
def VdOk : Prop := ∀ (bs : List Int) (a : Option Addr) (n c : Nat) (W : World), bs.length = n → n ≤ c → n ≤ 2000000 → BytesAt W a bs → Lib.Utf8Tabs 5 6 W →
  Calls Tryz.prog 165 #[.slice a n c] W fun e w' => Out 0 0 W w' ∧ ∃ v : Bool, e = .returned (.bool v) ∧ (0 < n → (Lib.decodeN n (by_ bs 0) (by_ bs 1) (by_ bs 2) (by_ bs 3)).2 = n → v = decide (¬ (n = 1 ∧ 128 ≤ by_ bs 0)))
/-- the scalar of some bytes: one step that takes them all -/
theorem sca_step {bs : List Int} (hb : Byt bs) : scaF bs = if 0 < bs.length ∧ (Lib.decodeN bs.length (by_ bs 0) (by_ bs 1) (by_ bs 2) (by_ bs 3)).2 = bs.length ∧ ¬ (bs.length = 1 ∧ 128 ≤ by_ bs 0) then some ((Lib.decodeN bs.length (by_ bs 0) (by_ bs 1) (by_ bs 2) (by_ bs 3)).1 : Int) else none := by
  have e : ∀ (i : Nat) x, bs[i]? = some x → x = ((by_ bs i : Nat) : Int) := fun i x hx => by
    have := hb x (List.mem_of_getElem? hx)
    unfold by_
    rw [List.getD_eq_getElem?_getD, hx, Option.getD_some]
    omega
  have l := by_lt hb
  match bs, hb, e, l with
  | [], _, _, _ => rfl
  | [a], hb, e, l =>
    have h0 := e 0 a rfl
    have := sca1 (by_ [a] 0) (l 0)
    rw [← h0] at this
    rw [this]
    by_cases h : by_ [a] 0 < 128
    · have hd : Lib.decodeN 1 (by_ [a] 0) (by_ [a] 1) (by_ [a] 2) (by_ [a] 3) = (by_ [a] 0, 1) := by unfold Lib.decodeN; rw [if_pos h]
      rw [if_pos h, if_pos ⟨by simp, by show (Lib.decodeN 1 _ _ _ _).2 = 1; rw [hd], by omega⟩]
      show _ = some (((Lib.decodeN 1 _ _ _ _).1 : Nat) : Int)
      rw [hd]; exact congrArg some h0
    · rw [if_neg h, if_neg (fun q => q.2.2 ⟨rfl, by omega⟩)]
  | [a, b], hb, e, l =>
    have h0 := e 0 a rfl
    have h1 := e 1 b rfl
    have := sca2 (by_ [a, b] 0) (by_ [a, b] 1) (l 0) (l 1) (by_ [a, b] 2) (by_ [a, b] 3)
    rw [← h0, ← h1] at this
    rw [this]
    by_cases h : (Lib.decodeN 2 (by_ [a, b] 0) (by_ [a, b] 1) (by_ [a, b] 2) (by_ [a, b] 3)).2 = 2
    · rw [if_pos h, if_pos ⟨by simp, h, fun q => by simp at q⟩]; rfl
    · rw [if_neg h, if_neg (fun q => h q.2.1)]
  | [a, b, c], hb, e, l =>
    have h0 := e 0 a rfl
    have h1 := e 1 b rfl
    have h2 := e 2 c rfl
    have := sca3 (by_ [a, b, c] 0) (by_ [a, b, c] 1) (by_ [a, b, c] 2) (l 0) (l 1) (l 2) (by_ [a, b, c] 3)
    rw [← h0, ← h1, ← h2] at this
    rw [this]
    by_cases h : (Lib.decodeN 3 (by_ [a, b, c] 0) (by_ [a, b, c] 1) (by_ [a, b, c] 2) (by_ [a, b, c] 3)).2 = 3
    · rw [if_pos h, if_pos ⟨by simp, h, fun q => by simp at q⟩]; rfl
    · rw [if_neg h, if_neg (fun q => h q.2.1)]
  | [a, b, c, d], hb, e, l =>
    have h0 := e 0 a rfl
    have h1 := e 1 b rfl
    have h2 := e 2 c rfl
    have h3 := e 3 d rfl
    have := sca4 (by_ [a, b, c, d] 0) (by_ [a, b, c, d] 1) (by_ [a, b, c, d] 2) (by_ [a, b, c, d] 3) (l 0) (l 1) (l 2) (l 3)
    rw [← h0, ← h1, ← h2, ← h3] at this
    rw [this]
    by_cases h : (Lib.decodeN 4 (by_ [a, b, c, d] 0) (by_ [a, b, c, d] 1) (by_ [a, b, c, d] 2) (by_ [a, b, c, d] 3)).2 = 4
    · rw [if_pos h, if_pos ⟨by simp, h, fun q => by simp at q⟩]; rfl
    · rw [if_neg h, if_neg (fun q => h q.2.1)]
  | a :: b :: c :: d :: f :: r, hb, e, l =>
    unfold scaF
    rw [if_pos (.inr (.inl (by simp))), if_neg]
    rintro ⟨_, q, _⟩
    have : (Lib.decodeN (a :: b :: c :: d :: f :: r).length (by_ (a :: b :: c :: d :: f :: r) 0) (by_ (a :: b :: c :: d :: f :: r) 1) (by_ (a :: b :: c :: d :: f :: r) 2) (by_ (a :: b :: c :: d :: f :: r) 3)).2 ≤ 4 := by
      unfold Lib.decodeN
      repeat' split
      all_goals simp
    rw [q] at this
    simp at this
theorem unq_le : ∀ (n : Nat) (l b : List Int), l.length ≤ n → unqF l = some b → b.length ≤ l.length
  | n, [], b, _, h => by
    rw [unqF] at h; cases h; exact Nat.le_refl _
  | 0, _ :: _, _, hl, _ => by simp at hl
  | n + 1, c :: r, b, hl, h => by
    have hr : r.length ≤ n := by simpa using hl
    have step : ∀ (x : Int) (q : List Int), q.length ≤ r.length → (unqF q).map (x :: ·) = some b → b.length ≤ r.length + 1 := fun x q hq e => by
      obtain ⟨b', h', rfl⟩ := Option.map_eq_some_iff.1 e
      have := unq_le n q b' (by omega) h'
      simp; omega
    rw [unqF.eq_def] at h
    simp only [List.length_cons] at h ⊢
    split at h
    · exact step c r (Nat.le_refl _) h
    · match r, hr, step, h with
      | [], _, _, h => cases h
      | d :: r2, hr, step, h =>
        simp only at h
        split at h
        · exact step d r2 (by simp) h
        · split at h
          · exact step 10 r2 (by simp) h
          · split at h
            · exact step 9 r2 (by simp) h
            · split at h
              · match r2, hr, step, h with
                | [], _, _, h => cases h
                | [_], _, _, h => cases h
                | a :: e :: r3, hr, step, h =>
                  simp only at h
                  split at h
                  · exact step _ r3 (by simp; omega) h
                  · cases h
              · cases h
/-- a count of one rune is one step that takes all -/
theorem count_one {bs : List Int} (hb : Byt bs) {k : Nat} {r : Int} (hk : k ≤ bs.length) (hlow : ∀ (j : Nat) b, j < k → bs[j]? = some b → b < 128) (h : (k = bs.length ∧ r = (bs.length : Int)) ∨ (k < bs.length ∧ r = (k : Int) + (Lib.runeCount (strOfNums (bs.drop k)) : Int))) : r = 1 ↔ 0 < bs.length ∧ (Lib.decodeN bs.length (by_ bs 0) (by_ bs 1) (by_ bs 2) (by_ bs 3)).2 = bs.length := by
  by_cases h0 : 0 < bs.length
  · by_cases hk0 : k = 0
    · subst hk0
      rcases h with ⟨e, _⟩ | ⟨_, e⟩
      · omega
      · rw [List.drop_zero] at e
        have := one_rune bs hb h0
        rw [e]
        constructor
        · intro q; exact ⟨h0, this.1 (by omega)⟩
        · intro q; have := this.2 q.2; omega
    · have hx : by_ bs 0 < 128 := by
        have hq : bs[0]? = some bs[0] := List.getElem?_eq_getElem h0
        have := hlow 0 _ (by omega) hq
        unfold by_
        rw [List.getD_eq_getElem?_getD, hq, Option.getD_some]
        omega
      have hd : (Lib.decodeN bs.length (by_ bs 0) (by_ bs 1) (by_ bs 2) (by_ bs 3)).2 = 1 := by unfold Lib.decodeN; rw [if_pos hx]
      rw [hd]
      rcases h with ⟨e, e2⟩ | ⟨e, e2⟩
      · rw [e2]; constructor
        · intro q; exact ⟨h0, by omega⟩
        · intro q; omega
      · have h1 : 1 ≤ Lib.runeCount (strOfNums (bs.drop k)) := by
          unfold Lib.runeCount
          have hs := sz_nums (bs.drop k)
          rw [List.length_drop] at hs
          obtain ⟨m, hm⟩ : ∃ m, (strOfNums (bs.drop k)).size = m + 1 := ⟨(strOfNums (bs.drop k)).size - 1, by omega⟩
          rw [hm, Lib.runeCountFrom, if_pos (by omega)]
          omega
        constructor
        · intro q; omega
        · intro q; omega
  · constructor
    · intro q
      rcases h with ⟨e, e2⟩ | ⟨e, e2⟩ <;> omega
    · intro q; exact absurd q.1 h0
end Go.Proofs.YtcnjlbjpeklgkaaGreatDoor
namespace Go.Proofs.YtcnjlbjpeklgkaaGreatDoor
open Go.RowKit
set_option linter.unusedVariables false
set_option linter.unusedSimpArgs false

theorem opn_two (s : List Int) : opnF 2 s = match decF s with
    | some n => some (.inl n)
    | none => ((quoF s 39).bind scaF).map .inl := by
  unfold opnF; rw [if_neg (by decide), if_pos rfl]; cases decF s <;> rfl
theorem dn_small (n : Nat) {a : Nat} (ha : a < 256) (b c d : Nat) : (Lib.decodeN n a b c d).1 ≤ 3000000 := by
  unfold Lib.decodeN
  repeat' split
  all_goals first | omega | (simp only []; omega)
theorem by_out {w w' : World} {a : Option Addr} {bs : List Int} (h : BytesAt w a bs) (o : Out 0 0 w w') : BytesAt w' a bs :=
  ⟨h.1, h.2.imp id fun ⟨g, off, e, hc⟩ => ⟨g, off, e, fun j x hj => o.cell (hc j x hj) (.inr (Nat.zero_le _))⟩⟩
theorem runes_one {bs : List Int} (hb : Byt bs) (a : Option Addr) (c : Nat) (hc : bs.length ≤ c) (hn2 : bs.length ≤ 4000000) (w : World) (h : BytesAt w a bs) :
    Calls Tryz.prog 166 #[.slice a bs.length c] w fun e w' => Out 0 0 w w' ∧ ∃ r : Int, e = .returned (.int .i64 r) ∧ (r = 1 ↔ 0 < bs.length ∧ (Lib.decodeN bs.length (by_ bs 0) (by_ bs 1) (by_ bs 2) (by_ bs 3)).2 = bs.length) :=
  (runes_any bs a bs.length c rfl hc hn2 w h).mono fun e w' ⟨o, k, h1, h2, h3⟩ => ⟨o, by
    rcases h3 with ⟨h3, rfl⟩ | ⟨h3, _, rfl⟩
    · exact ⟨_, rfl, count_one hb h1 h2 (.inl ⟨h3, rfl⟩)⟩
    · exact ⟨_, rfl, count_one hb h1 h2 (.inr ⟨h3, rfl⟩)⟩⟩
theorem B8.at {w : World} {base : Nat} {v : Value} {bs : List Int} (h : B8 w base v bs) : ∃ a c, v = .slice a bs.length c ∧ bs.length ≤ c ∧ BytesAt w a bs := by
  rcases h.2.2 with ⟨e, h0⟩ | ⟨g, c, cur, e, h1, h2, h3, h4⟩
  · exact ⟨none, 0, by rw [h0]; exact e, by omega, h.1, .inl (List.eq_nil_of_length_eq_zero h0)⟩
  · subst e
    refine ⟨some ⟨g, 0, none⟩, c, rfl, h3, h.1, .inr ⟨g, 0, rfl, fun j x hj => ?_⟩⟩
    rw [Nat.zero_add]
    refine row_at ?_ h.2
    unfold bvs
    rw [List.getElem?_map, hj]; rfl
set_option maxRecDepth 100000 in
set_option maxHeartbeats 2000000 in
theorem char_any (hv : VdOk) (y : ByteArray) (hw : WdOk (bt y)) (hs : y.size ≤ 1800000) : ChOk y := by
  intro W hG
  obtain ⟨b, hp, hb⟩ := hasp_dec y ⟨#[39]⟩
  have HP := hid_mk hp
  have HG := hid_mk hG
  rcases hb with ⟨rfl, t, ht⟩ | ⟨rfl, ht⟩
  · have ht' : bt y = 39 :: t := ht
    have hdn : decF (bt y) = none := by
      rw [ht']
      unfold decF
      split
      · rfl
      · simp [decA, dgB]
    have hlen : (bt y).length = y.size := bt_len y
    cases hq : quoF (bt y) 39 with
    | none =>
      have HQ := hid_mk (unq_none hw (.inr rfl) hs hG hq)
      have HE : Hid (opnF 2 (bt y) = none) := hid_mk (by rw [opn_two, hdn, hq]; rfl)
      clear hp hG ht ht' hdn hq hlen
      go_enter Tryz.func152, Tryz.ntmps152
      go_wp2_with (first | (go_at_call 147; refine (HP.out _).mono ?_; rintro e w2 ⟨rfl, rfl⟩) | (go_at_call 126; refine HQ.out.mono ?_; rintro e w3 ⟨rfl, o3⟩))
      exact ⟨rfl, o3, .inr ⟨HE.out, rfl⟩⟩
    | some bs =>
      have HQ := hid_mk (unq_yes hw (.inr rfl) hs hG hq)
      have hle : bs.length ≤ 1800000 := by
        unfold quoF at hq
        split at hq
        · have := unq_le _ _ _ (Nat.le_refl _) hq
          rw [List.length_dropLast, List.length_drop] at this
          omega
        · cases hq
      have HLe := hid_mk hle
      have HE : Hid (opnF 2 (bt y) = (scaF bs).map .inl) := hid_mk (by rw [opn_two, hdn, hq]; rfl)
      have HV := hid_mk hv
      clear hp hG ht ht' hdn hq hlen hle hv
      go_enter Tryz.func152, Tryz.ntmps152
      go_wp2_with (first | (go_at_call 147; refine (HP.out _).mono ?_; rintro e w2 ⟨rfl, rfl⟩) | (go_at_call 126; refine HQ.out.mono ?_; rintro e w3 ⟨v, rfl, hb8, o3⟩; obtain ⟨a, c, rfl, hnc, hby⟩ := hb8.at; have HB := hid_mk (And.intro hby (And.intro hnc (And.intro hb8.1 o3))); clear hb8 hby hnc o3) | (go_at_call 165; refine (HV.out bs a bs.length c _ rfl HB.out.2.1 (by have := HLe.out; omega) HB.out.1 (HG.out.out HB.out.2.2.2).2).mono ?_; rintro e w4 ⟨o4, v, rfl, hvd⟩; have HVd := hid_mk (And.intro o4 hvd); clear o4 hvd; cases v))
      · have o4 := HB.out.2.2.2.trans HVd.out.1
        have hn : scaF bs = none := by
          rw [sca_step HB.out.2.2.1, if_neg]
          rintro ⟨q1, q2, q3⟩
          have := HVd.out.2 q1 q2
          simp only [q3, not_false_eq_true, decide_true] at this
          cases this
        refine calls_stop (awant_no _) ?_
        exact ⟨rfl, o4, .inr ⟨by rw [HE.out, hn]; rfl, rfl⟩⟩
      · refine (runes_one HB.out.2.2.1 a c HB.out.2.1 (by have := HLe.out; omega) _ (by_out HB.out.1 HVd.out.1)).mono ?_
        rintro e w5 ⟨o5, r, rfl, hr⟩
        have HR := hid_mk (And.intro o5 hr)
        clear o5 hr
        by_cases h1 : r = 1
        · have d1 : (r == 1) = true := by simpa using h1
          have hst := HR.out.2.1 h1
          have hval := HVd.out.2 hst.1 hst.2
          have hs1 : scaF bs = some ((Lib.decodeN bs.length (by_ bs 0) (by_ bs 1) (by_ bs 2) (by_ bs 3)).1 : Int) := by
            rw [sca_step HB.out.2.2.1, if_pos ⟨hst.1, hst.2, of_decide_eq_true hval.symm⟩]
          have HS1 := hid_mk (And.intro hs1 hst)
          have hsm : ((Lib.decodeN bs.length (by_ bs 0) (by_ bs 1) (by_ bs 2) (by_ bs 3)).1 : Int) ≤ 3000000 := by have := dn_small bs.length (by_lt HB.out.2.2.1 0) (by_ bs 1) (by_ bs 2) (by_ bs 3); omega
          have hsm0 : (0 : Int) ≤ ((Lib.decodeN bs.length (by_ bs 0) (by_ bs 1) (by_ bs 2) (by_ bs 3)).1 : Int) := by omega
          clear hs1 hst hval h1
          go_wp2_with (first | (go_at_call 104; refine calls_same (awant_yes _) ?_) | (go_at_call 167; refine (decr_any bs a bs.length c rfl HS1.out.2.1 _ (by_out HB.out.1 (HVd.out.1.trans HR.out.1)) (((HG.out.out HB.out.2.2.2).out HVd.out.1).out HR.out.1).2).mono ?_; rintro e w6 ⟨rfl, o6⟩))
          go_ret
          exact ⟨((HB.out.2.2.2.trans HVd.out.1).trans HR.out.1).trans o6, .inl ⟨_, by rw [HE.out, HS1.out.1]; rfl, rfl⟩⟩
        · have d1 : (r == 1) = false := by simpa using h1
          have hn : scaF bs = none := by
            rw [sca_step HB.out.2.2.1, if_neg]
            rintro ⟨q1, q2, q3⟩
            exact h1 (HR.out.2.2 ⟨q1, q2⟩)
          have HN := hid_mk hn
          clear hn h1
          go_wp2_with (go_at_call 104; refine calls_stop (awant_no _) ?_)
          exact ⟨rfl, (HB.out.2.2.2.trans HVd.out.1).trans HR.out.1, .inr ⟨by rw [HE.out, HN.out]; rfl, rfl⟩⟩
  · have hq : quoF (bt y) 39 = none := by
      unfold quoF
      rw [if_neg]
      rintro ⟨_, h2, _⟩
      cases hc : bt y with
      | nil => rw [hc] at h2; cases h2
      | cons x r =>
        rw [hc] at h2
        have hx : x = 39 := Option.some.inj h2
        subst hx
        exact ht r (by rw [hc]; rfl)
    have HD := hid_mk (decimal_any y)
    have HE : Hid (opnF 2 (bt y) = (decF (bt y)).map .inl) := hid_mk (by rw [opn_two, hq]; cases decF (bt y) <;> rfl)
    clear hp hG ht hq
    go_enter Tryz.func152, Tryz.ntmps152
    go_wp2_with (first | (go_at_call 147; refine (HP.out _).mono ?_; rintro e w2 ⟨rfl, rfl⟩) | (go_at_call 146; refine (HD.out _).mono ?_; rintro e w3 ⟨o3, ⟨k, hk, rfl⟩ | ⟨hk, rfl⟩⟩))
    · go_ret
      exact ⟨o3, .inl ⟨k, by rw [HE.out, hk]; rfl, rfl⟩⟩
    · exact ⟨rfl, o3, .inr ⟨by rw [HE.out, hk]; rfl, rfl⟩⟩
end Go.Proofs.YtcnjlbjpeklgkaaGreatDoor
namespace Go.Proofs.YtcnjlbjpeklgkaaGreatDoor
open Go.RowKit
set_option linter.unusedVariables false
set_option linter.unusedSimpArgs false

/-- the two types of blocks in which a builder lies -/
def BuTy (T : TypeId) : Prop := T = 68 ∨ T = 70
/-- a builder in block b holds the bytes bs, in a row of its own from block lo on -/
def BuT (T : TypeId) (w : World) (lo b : Nat) (bs : List Int) : Prop := ∃ p v, (p = none ∨ p = some ⟨b, 0, none⟩) ∧ Bl w b #[.pointer p, v] T ∧ B8 w lo v bs
/-- the world but for block b and rows of bytes from lo on -/
def PS (w : World) (lo b k : Nat) : Prop := k = b ∨ (lo ≤ k ∧ ∃ cs f, w.heap[k]? = some (.cells cs 5 f))
def PF (lo b : Nat) (w w' : World) : Prop := Fx (PS w lo b) w w'
theorem PF.refl (lo b : Nat) (w : World) : PF lo b w w := Fx.refl _ _
theorem PF.of_out {lo b : Nat} {w w' : World} (o : Out 0 0 w w') : PF lo b w w' := Fx.of_out o
theorem PF.size {lo b : Nat} {w w' : World} (h : PF lo b w w') : w.heap.size ≤ w'.heap.size := Fx.size h
theorem PF.trans {lo b : Nat} {w w1 w2 : World} (h : PF lo b w w1) (g : PF lo b w1 w2) : PF lo b w w2 := by
  refine Fx.then h g fun k hk hS => ?_
  rcases hS with hS | ⟨h1, cs, f, h2⟩
  · exact .inl hS
  · by_cases hq : PS w lo b k
    · exact hq
    · rw [h.2.2.2.2 k hk hq] at h2
      exact .inr ⟨h1, cs, f, h2⟩
theorem PF.bl {lo b : Nat} {w w' : World} (h : PF lo b w w') {g : Nat} {cs : Array Value} {T : TypeId} (hg : Bl w g cs T) (h1 : g ≠ b) (hT : T ≠ 5) : Bl w' g cs T :=
  hg.fx h fun q => by
    rcases q with q | ⟨_, cs2, f, q⟩
    · exact h1 q
    · have := hg.symm.trans q
      cases this
      exact hT rfl
theorem PF.low {lo b : Nat} {w w' : World} (h : PF lo b w w') {w0 : World} (o : Out 0 0 w0 w) (h1 : w0.heap.size ≤ lo) (h2 : w0.heap.size ≤ b) : Out 0 0 w0 w' :=
  ((Fx.of_out (S := fun _ => False) o).then h fun k hk q => by
    rcases q with q | ⟨q, _⟩ <;> omega).out fun _ _ q => q
theorem b8_strF {w : World} {base : Nat} {v : Value} {bs : List Int} (h : B8 w base v bs) (hb : base ≤ w.heap.size) (s : ByteArray) (hn : bs.length + s.size ≤ 4000000) (ty : TypeId) :
    ∃ v' w', (Builtin.append_ #[50, 9] ty #[v, .string s]).run Tryz.prog w = .ok v' w' ∧ B8 w' base v' (bs ++ bt s) ∧ Fx (fun k => v.ownBlock = some k) w w' := by
  obtain ⟨i0, hi, hz0, hz1, hz2⟩ := info_p info_u8
  obtain ⟨v', w', hr, h2, h3, _⟩ := Lib.run_append_own_string (P := Tryz.prog) w base 50 9 ty 5 i0 Tryz.underlying50 Tryz.underlying9 hi hz0 hz1 hz2 v bs.length (bvs bs) h.2 s (by unfold maxLen; omega) (by omega) hb
  refine ⟨v', w', hr, ⟨byt_app h.1 (byt_bt s), ?_⟩, h3.os, h3.tape, h3.output, h3.size, fun k h1 h4 => h3.block k h1 (fun e => h4 e.symm)⟩
  rw [str_cells, ← bvs_app] at h2
  rw [List.length_append, bt_len]
  exact h2
theorem b8_typ {w : World} {base : Nat} {v : Value} {bs : List Int} (h : B8 w base v bs) {k : Nat} (e : v.ownBlock = some k) : base ≤ k ∧ ∃ cs f, w.heap[k]? = some (.cells cs 5 f) := by
  rcases h.2.2 with ⟨q, _⟩ | ⟨g, c, cur, q, h1, h2, h3, h4⟩
  · rw [q] at e; cases e
  · rw [q] at e
    cases e
    exact ⟨h1, _, _, h2⟩
theorem bu_neq {T : TypeId} (hT : BuTy T) : T ≠ 5 := by
  rcases hT with rfl | rfl <;> decide
theorem row_off {T : TypeId} (hT : BuTy T) {w : World} {lo b : Nat} {cs : Array Value} {v : Value} {bs : List Int} (h1 : Bl w b cs T) (h2 : B8 w lo v bs) : ¬ v.ownBlock = some b := by
  intro e
  obtain ⟨_, cs, f, q2⟩ := b8_typ h2 e
  cases h1.symm.trans q2
  exact bu_neq hT rfl
theorem BuT.lt {T : TypeId} {w : World} {lo b : Nat} {bs : List Int} (h : BuT T w lo b bs) : b < w.heap.size := by
  obtain ⟨p, v, _, h1, _⟩ := h
  exact h1.lt
theorem BuT.out {T : TypeId} {w w' : World} {lo b : Nat} {bs : List Int} (h : BuT T w lo b bs) (o : Out 0 0 w w') : BuT T w' lo b bs := by
  obtain ⟨p, v, h0, h1, h2⟩ := h
  exact ⟨p, v, h0, h1.kept o (.inr (Nat.zero_le _)), h2.out o⟩
theorem bu_lies {T : TypeId} (hT : BuTy T) : liesAt Tryz.prog Tryz.prog.depth T (2 / Tryz.prog.cellsOf T) 0 68 1 = true := by
  rcases hT with rfl | rfl <;> kernel_rfl
theorem bu_size : (Tryz.prog.info? 68).map (fun i => i.size) = some 2 := by kernel_rfl
set_option maxRecDepth 100000 in
set_option maxHeartbeats 2000000 in
theorem copy_any {T : TypeId} (hT : BuTy T) {w : World} {lo b : Nat} {bs : List Int} (h : BuT T w lo b bs) :
    Calls Tryz.prog 117 #[.pointer (some ⟨b, 0, none⟩)] w fun e w' => e = .returned (.tuple #[]) ∧ (∃ v, Bl w' b #[.pointer (some ⟨b, 0, none⟩), v] T ∧ B8 w' lo v bs) ∧ PF lo b w w' := by
  obtain ⟨p, v, h0, h1, h2⟩ := h
  have k0 := h1.cell (i := 0) rfl
  have f0 := h1.frozen 0
  have hsh : w.shape? b = some (T, 2) := by
    unfold World.shape?
    rw [h1]; rfl
  rcases h0 with rfl | rfl
  · obtain ⟨j, hj, hjs⟩ := Option.map_eq_some_iff.1 bu_size
    have HL := hid_mk (bu_lies hT)
    have H2 := hid_mk h2
    have H1 := hid_mk h1
    clear h1 h2
    go_enter Tryz.func117, Tryz.ntmps117
    go_wp2_with fail
    rw [Lib.run_to_unsafe w ⟨b, 0, none⟩ (by kernel_rfl) (by kernel_rfl) hj (by rw [hjs]; decide) hsh (Nat.zero_lt_succ 1)]
    simp only [Result.andThen]
    rw [Oper.upon_value]
    go_wp2_with fail
    rw [run_callFunc_extern Tryz.func136 (by kernel_rfl) (by kernel_rfl) (by kernel_rfl) (e := Extern.AbiNoEscape.same) (by kernel_rfl)]
    rw [Lib.run_noEscape]
    simp only [Result.andThen]
    rw [Oper.upon_value]
    go_wp2_with fail
    rw [Lib.run_from_unsafe w ⟨b, 0, none⟩ (by kernel_rfl) (by kernel_rfl) hj hsh HL.out]
    simp only [Result.andThen]
    rw [Oper.upon_value]
    go_wp2
    go_end0
    refine ⟨rfl, ⟨v, H1.out.set 0 _, H2.out.1, own_fx (S := fun k => k = b) H2.out.2 (Fx.set (S := fun k => k = b) (Fx.refl _ w) (.inl rfl) _) fun g e q => row_off hT H1.out H2.out (q ▸ e)⟩, Fx.set (S := PS w lo b) (Fx.refl _ w) (.inl (.inl rfl)) _⟩
  · obtain ⟨j, hj, hjs⟩ := Option.map_eq_some_iff.1 bu_size
    have H2 := hid_mk h2
    have H1 := hid_mk h1
    clear h1 h2
    go_enter Tryz.func117, Tryz.ntmps117
    go_wp2
    rw [Lib.run_neq_ptr_same w _ (by kernel_rfl) hj]
    go_wp2
    go_end0
    exact ⟨rfl, ⟨v, H1.out, H2.out⟩, PF.refl _ _ _⟩
set_option maxRecDepth 100000 in
set_option maxHeartbeats 2000000 in
theorem write_str {T : TypeId} (hT : BuTy T) {w : World} {lo b : Nat} {bs : List Int} (h : BuT T w lo b bs) (hlo : lo ≤ w.heap.size) (s : ByteArray) (hn : bs.length + s.size ≤ 4000000) :
    Calls Tryz.prog 84 #[.pointer (some ⟨b, 0, none⟩), .string s] w fun e w' => e = .returned (.tuple #[.int .i64 s.size, .nilIface]) ∧ BuT T w' lo b (bs ++ bt s) ∧ PF lo b w w' := by
  have HC := hid_mk (copy_any hT h)
  have hT := hid_mk hT
  clear h
  go_enter Tryz.func84, Tryz.ntmps84
  go_wp2_with (first | (at_builtin; refine wpList_appS rfl _ _ _ _ rfl rfl rfl hrun ?_) | (go_at_call 117; refine HC.out.mono ?_; rintro e w1 ⟨rfl, ⟨v, h1, h2⟩, o1⟩; obtain ⟨v2, w2, hrun, h3, h4⟩ := b8_strF h2 (Nat.le_trans hlo o1.size) s hn 50; obtain ⟨va, vc, rfl⟩ := h2.open_; obtain ⟨vb, vd, rfl⟩ := h3.open_; obtain ⟨nb, hnb⟩ : ∃ nb, bs.length = nb := ⟨_, rfl⟩; rw [hnb] at hrun h1; obtain ⟨nc, hnc⟩ : ∃ nc, (bs ++ bt s).length = nc := ⟨_, rfl⟩; rw [hnc] at hrun; have k1 := h1.cell (i := 1) rfl; have h5 := h1.fx h4 (row_off hT.out h1 h2); have k5 := h5.cell (i := 1) rfl; have f5 := h5.frozen 1; have H5 := hid_mk h5; have H1 := hid_mk h1; have H2 := hid_mk h2; have H3 := hid_mk h3; have H4 := hid_mk h4; have O1 := hid_mk o1; have HN := hid_mk (And.intro hnb hnc); clear h1 h2 h3 h4 h5 o1 hnb hnc))
  go_ret2
  obtain ⟨hnb, hnc⟩ := HN.out
  subst hnb hnc
  refine ⟨rfl, ⟨_, _, .inr rfl, H5.out.set 1 _, H3.out.1, own_fx (S := fun k => k = b) H3.out.2 (Fx.set (S := fun k => k = b) (Fx.refl _ w2) (.inl rfl) _) (fun g e q => row_off hT.out H5.out H3.out (q ▸ e))⟩, ?_⟩
  refine O1.out.trans (Fx.set (S := PS w1 lo b) (H4.out.wide fun k hk e => ?_) (.inl (.inl rfl)) _)
  exact .inr (b8_typ H2.out e)
end Go.Proofs.YtcnjlbjpeklgkaaGreatDoor
namespace Go.Proofs.YtcnjlbjpeklgkaaGreatDoor
open Go.RowKit
set_option linter.unusedVariables false
set_option linter.unusedSimpArgs false

theorem str_of {bs : List Int} (h : Byt bs) : ∃ l : List UInt8, bs = bl l := by
  obtain ⟨b, hb⟩ := bt_ex h
  exact ⟨b.data.toList, hb⟩
theorem u8_cells : Tryz.prog.cellsOf 5 = 1 := by kernel_rfl
set_option maxRecDepth 100000 in
set_option maxHeartbeats 2000000 in
theorem string_some {T : TypeId} {w : World} {lo b : Nat} {bs : List Int} (h : BuT T w lo b bs) (h0 : bs ≠ []) :
    Calls Tryz.prog 30 #[.pointer (some ⟨b, 0, none⟩)] w fun e w' => ∃ s : ByteArray, bt s = bs ∧ e = .returned (.string s) ∧ ∀ w0, Out 0 0 w0 w → w0.heap.size ≤ lo → Out 0 0 w0 w' := by
  obtain ⟨p, v, _, h1, hb, h2⟩ := h
  obtain ⟨l, rfl⟩ := str_of hb
  have hl0 : l ≠ [] := fun e => h0 (by rw [e]; rfl)
  have hn : (bl l).length = l.length := by unfold bl; simp
  have hlz : l.length ≠ 0 := by simpa using hl0
  rw [hn] at h2
  obtain ⟨g, cap, cur, rfl, hbg, hg, hnc, hcm, hcs, htake⟩ : ∃ g cap cur, v = .slice (some ⟨g, 0, none⟩) l.length cap ∧ lo ≤ g ∧ w.heap[g]? = some (.cells cur 5 (0, 0)) ∧ l.length ≤ cap ∧ cap ≤ maxLen ∧ cur.size = cap * 1 ∧ cur.toList.take (l.length * 1) = bvs (bl l) := by
    rcases h2.2 with ⟨_, hz⟩ | ⟨g, cap, cur, hv, r⟩
    · exact absurd hz hlz
    · exact ⟨g, cap, cur, hv, r⟩
  have c1 : w.drew.cell? ⟨b, 1, none⟩ = some (.slice (some ⟨g, 0, none⟩) l.length cap) := (show Bl w.drew b _ T from h1).cell (i := 1) rfl
  have hSD : (Builtin.unsafeSliceData_ #[50] 109 #[.slice (some ⟨g, 0, none⟩) l.length cap]).run Tryz.prog w.drew = .ok (.pointer (some ⟨g, 0, none⟩)) w.drew :=
    Lib.run_unsafeSliceData_row _ _ _ _ _ _ (by omega)
  have hUS : (Builtin.unsafeString_ #[109, 3] 9 #[.pointer (some ⟨g, 0, none⟩), .int .i64 l.length]).run Tryz.prog w.drew = .ok (.string ⟨l.toArray⟩) (w.drew.freeze ⟨g, 0, none⟩ l.length) := by
    refine Lib.run_unsafeString_row w.drew 109 3 9 5 (by kernel_rfl) u8_cells g cur.size (by have hg' : w.drew.heap[g]? = some (.cells cur 5 (0, 0)) := hg; simp [World.shape?, hg']) l hl0 (by omega) (by unfold maxLen at hcm; omega) ?_
    intro j x hx
    have := h2.cells (g := g) rfl j (.int .u8 x.toNat) (by unfold bvs bl; simp [hx])
    exact this
  have hN : ∀ w0, Out 0 0 w0 w → w0.heap.size ≤ lo → Out 0 0 w0 (w.drew.freeze ⟨g, 0, none⟩ l.length) := fun w0 o hw =>
    Out.of_below (Lib.below_freeze (Below.drew o.all) (p := ⟨g, 0, none⟩) (show w0.heap.size ≤ g by omega) _) 0 0
  have mixed : Tryz.prog.follows .mixedOrders = true := by kernel_rfl
  have HN := hid_mk hN
  clear hN h1 h2 hg hbg hcs htake hnc hcm hn
  go_enter Tryz.func30, Tryz.ntmps30
  go_wp2_with fail
  go_region_o
  all_goals (go_wp2; go_ret; exact ⟨⟨l.toArray⟩, bt_mk l, rfl, HN.out⟩)
theorem fm_take {xs : List ByteArray} {k : Nat} {x : ByteArray} (h : xs[k]? = some x) : (xs.take (k + 1)).flatMap bt = (xs.take k).flatMap bt ++ bt x := by
  rw [List.take_add_one, h]; simp
theorem fm_leP (xs : List ByteArray) (k : Nat) : ((xs.take k).flatMap bt).length ≤ (xs.flatMap bt).length := by
  conv => rhs; rw [← List.take_append_drop k xs, List.flatMap_append, List.length_append]
  omega
theorem fm_at {xs : List ByteArray} {k : Nat} {x : ByteArray} (h : xs[k]? = some x) : ((xs.take k).flatMap bt).length + x.size ≤ (xs.flatMap bt).length := by
  have := fm_leP xs (k + 1)
  rw [fm_take h, List.length_append, bt_len] at this
  exact this
set_option maxRecDepth 100000 in
set_option maxHeartbeats 2000000 in
theorem line_any {w : World} {lo b g n c : Nat} {bs : List Int} {xs : List ByteArray} (h : BuT 70 w lo b bs) (hlo : lo ≤ w.heap.size) (hg : Bl w g (xs.map Value.string).toArray 9) (hgb : g ≠ b) (hn : xs.length = n) (hlen : bs.length + (xs.flatMap bt).length + 1 ≤ 4000000) (hnn : n ≤ 100) :
    Calls Tryz.prog 53 #[.pointer (some ⟨b, 0, none⟩), .slice (some ⟨g, 0, none⟩) n c] w fun e w' => e = .returned (.tuple #[]) ∧ BuT 70 w' lo b (bs ++ xs.flatMap bt ++ [10]) ∧ PF lo b w w' := by
  have HB := hid_mk h
  have HG := hid_mk hg
  have HL := hid_mk hlen
  have HN := hid_mk hn
  clear h hg hlen hn
  go_enter Tryz.func53, Tryz.ntmps53
  go_wp2_with fail
  go_loopw [8] (fun v wr => ∃ i : Nat, v = .int .i64 (i : Int) ∧ i ≤ n ∧ BuT 70 wr lo b (bs ++ (xs.take i).flatMap bt) ∧ PF lo b w wr) (fun v _ => n - (intOf v).toNat)
  case atStart => exact ⟨0, rfl, Nat.zero_le _, by simpa using HB.out, PF.refl _ _ _⟩
  case round =>
    obtain ⟨i, rfl, hi, hB, hP⟩ := hrel
    have HBi := hid_mk hB
    have HP := hid_mk hP
    clear hB hP
    by_cases hlt : i < n
    · have hd : decide ((i : Int) < (n : Int)) = true := decide_eq_true (by omega)
      have hkm : (i : Int) < (n : Int) := by omega
      have hk0 : (0 : Int) ≤ (i : Int) := by omega
      obtain ⟨x, hxi⟩ : ∃ x, xs[i]? = some x := ⟨_, List.getElem?_eq_getElem (by have := HN.out; omega)⟩
      have c0 := (HP.out.bl HG.out hgb (by decide)).cell (i := i) (v := .string x) (by simp [hxi])
      have HX := hid_mk hxi
      have HLt := hid_mk hlt
      clear hxi hlt hi
      go_wp2_with (go_at_call 84; refine (write_str (.inr rfl) HBi.out (Nat.le_trans hlo HP.out.size) x (by have h1 := fm_at HX.out; have h2 := HL.out; rw [List.length_append]; omega)).mono ?_; rintro e w2 ⟨rfl, hb2, hp2⟩; have HB2 := hid_mk hb2; have HP2 := hid_mk hp2; clear hb2 hp2)
      go_roundw
      case rel => exact ⟨i + 1, rfl, HLt.out, by rw [fm_take HX.out, ← List.append_assoc]; exact HB2.out, HP.out.trans HP2.out⟩
      case measure => have := HLt.out; show n - (((i : Int) + 1).toNat) < n - ((i : Int).toNat); omega
    · have hd : decide ((i : Int) < (n : Int)) = false := decide_eq_false (by omega)
      have hkm : ¬ ((i : Int) < (n : Int)) := by omega
      obtain rfl : i = n := by omega
      clear hlt hi
      go_wp2_with (go_at_call 84; refine (write_str (.inr rfl) HBi.out (Nat.le_trans hlo HP.out.size) ⟨#[10]⟩ (by have h1 := fm_leP xs i; have h2 := HL.out; rw [List.length_append]; show _ + 1 ≤ _; omega)).mono ?_; rintro e w2 ⟨rfl, hb2, hp2⟩; have HB2 := hid_mk hb2; have HP2 := hid_mk hp2; clear hb2 hp2)
      go_end0
      refine ⟨rfl, ?_, HP.out.trans HP2.out⟩
      have e : xs.take i = xs := List.take_of_length_le (by have := HN.out; omega)
      have := HB2.out
      rw [e] at this
      exact this
end Go.Proofs.YtcnjlbjpeklgkaaGreatDoor
