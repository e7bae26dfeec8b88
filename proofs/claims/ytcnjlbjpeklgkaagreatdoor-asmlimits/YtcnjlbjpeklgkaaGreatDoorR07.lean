import Derived.Test.YtcnjlbjpeklgkaaGreatDoorR00
import Derived.Test.YtcnjlbjpeklgkaaGreatDoorR06
import Derived.Test.YtcnjlbjpeklgkaaGreatDoorR03
import Derived.ArgAppend
import Derived.Lib.SmallJoins
import Derived.Deep.DeepAppendRoom
import Derived.ScopeJumps
namespace Go.Proofs.YtcnjlbjpeklgkaaGreatDoor
open Go.RowKit
set_option linter.unusedVariables false
set_option linter.unusedSimpArgs false

def bl (l : List UInt8) : List Int := l.map (fun c => (c.toNat : Int))
theorem bl_inj {a b : List UInt8} (h : bl a = bl b) : a = b := by
  have hf : Function.Injective (fun c : UInt8 => (c.toNat : Int)) := fun a b e => UInt8.toNat.inj (Int.ofNat.inj e)
  exact (List.map_inj_right (fun a b e => hf e)).1 h
theorem bl_app (a b : List UInt8) : bl (a ++ b) = bl a ++ bl b := by unfold bl; simp
theorem bt_bl (s : ByteArray) : bt s = bl s.data.toList := rfl
theorem bt_mk (l : List UInt8) : bt ⟨l.toArray⟩ = bl l := rfl
theorem bl_split {l : List UInt8} {a b : List Int} (h : bl l = a ++ b) : ∃ x y, l = x ++ y ∧ bl x = a ∧ bl y = b := by
  unfold bl at h
  obtain ⟨x, y, h1, h2, h3⟩ := List.map_eq_append_iff.1 h
  exact ⟨x, y, h1, h2, h3⟩
/-- strings.CutPrefix -/
theorem cutp_dec (s p : ByteArray) : ∃ r b, (∀ w, Calls Tryz.prog 164 #[.string s, .string p] w fun e w' => e = .returned (.tuple #[.string r, .bool b]) ∧ w' = w) ∧ ((b = true ∧ bt s = bt p ++ bt r) ∨ (b = false ∧ r = s ∧ ∀ t, bt s ≠ bt p ++ t)) := by
  refine ⟨_, _, fun w => Tryz.strings_CutPrefix s p w, ?_⟩
  unfold Lib.trimPrefix
  rcases h : Lib.hasPrefix s.data.toList p.data.toList with _ | _
  · refine .inr ⟨rfl, rfl, fun t ht => ?_⟩
    obtain ⟨x, y, h1, h2, h3⟩ := bl_split ht
    have e := bl_inj (h2.trans (bt_bl p))
    subst e
    unfold Lib.hasPrefix at h
    rw [h1] at h
    have : (p.data.toList).isPrefixOf (p.data.toList ++ y) = true := List.isPrefixOf_iff_prefix.2 (List.prefix_append _ _)
    rw [this] at h
    cases h
  · refine .inl ⟨rfl, ?_⟩
    unfold Lib.hasPrefix at h
    obtain ⟨t, ht⟩ := List.isPrefixOf_iff_prefix.1 h
    rw [bt_bl s, bt_bl p, ← ht, bl_app]
    congr 1
    simp [bt_mk]
/-- strings.HasPrefix -/
theorem hasp_dec (s p : ByteArray) : ∃ b, (∀ w, Calls Tryz.prog 147 #[.string s, .string p] w fun e w' => e = .returned (.bool b) ∧ w' = w) ∧ ((b = true ∧ ∃ t, bt s = bt p ++ t) ∨ (b = false ∧ ∀ t, bt s ≠ bt p ++ t)) := by
  refine ⟨_, fun w => Tryz.strings_HasPrefix s p w, ?_⟩
  rcases h : Lib.hasPrefix s.data.toList p.data.toList with _ | _
  · refine .inr ⟨rfl, fun t ht => ?_⟩
    obtain ⟨x, y, h1, h2, h3⟩ := bl_split ht
    have e := bl_inj (h2.trans (bt_bl p))
    subst e
    unfold Lib.hasPrefix at h
    rw [h1] at h
    have : (p.data.toList).isPrefixOf (p.data.toList ++ y) = true := List.isPrefixOf_iff_prefix.2 (List.prefix_append _ _)
    rw [this] at h
    cases h
  · refine .inl ⟨rfl, ?_⟩
    unfold Lib.hasPrefix at h
    obtain ⟨t, ht⟩ := List.isPrefixOf_iff_prefix.1 h
    exact ⟨bl t, by rw [bt_bl s, bt_bl p, ← ht, bl_app]⟩
/-- strings.CutSuffix -/
theorem cuts_dec (s p : ByteArray) (hs : s.size ≤ 9223372036854775807) : ∃ r b, (∀ w, Calls Tryz.prog 96 #[.string s, .string p] w fun e w' => e = .returned (.tuple #[.string r, .bool b]) ∧ w' = w) ∧ ((b = true ∧ bt s = bt r ++ bt p) ∨ (b = false ∧ r = s ∧ ∀ t, bt s ≠ t ++ bt p)) := by
  refine ⟨_, _, fun w => Tryz.strings_CutSuffix s p w hs, ?_⟩
  unfold Lib.trimSuffix
  rcases h : Lib.hasSuffix s.data.toList p.data.toList with _ | _
  · refine .inr ⟨rfl, rfl, fun t ht => ?_⟩
    obtain ⟨x, y, h1, h2, h3⟩ := bl_split ht
    have e := bl_inj (h3.trans (bt_bl p))
    subst e
    unfold Lib.hasSuffix at h
    rw [h1] at h
    have : (p.data.toList).isSuffixOf (x ++ p.data.toList) = true := List.isSuffixOf_iff_suffix.2 (List.suffix_append _ _)
    rw [this] at h
    cases h
  · refine .inl ⟨rfl, ?_⟩
    unfold Lib.hasSuffix at h
    obtain ⟨t, ht⟩ := List.isSuffixOf_iff_suffix.1 h
    rw [bt_bl s, bt_bl p, ← ht, bl_app]
    congr 1
    simp [bt_mk]
/-- strings.TrimSuffix -/
theorem trim_dec (s p : ByteArray) (hs : s.size ≤ 9223372036854775807) : ∃ r, (∀ w, Calls Tryz.prog 34 #[.string s, .string p] w fun e w' => e = .returned (.string r) ∧ w' = w) ∧ (bt s = bt r ++ bt p ∨ (r = s ∧ ∀ t, bt s ≠ t ++ bt p)) := by
  refine ⟨_, fun w => Tryz.strings_TrimSuffix s p w hs, ?_⟩
  unfold Lib.trimSuffix
  rcases h : Lib.hasSuffix s.data.toList p.data.toList with _ | _
  · refine .inr ⟨rfl, fun t ht => ?_⟩
    obtain ⟨x, y, h1, h2, h3⟩ := bl_split ht
    have e := bl_inj (h3.trans (bt_bl p))
    subst e
    unfold Lib.hasSuffix at h
    rw [h1] at h
    have : (p.data.toList).isSuffixOf (x ++ p.data.toList) = true := List.isSuffixOf_iff_suffix.2 (List.suffix_append _ _)
    rw [this] at h
    cases h
  · refine .inl ?_
    unfold Lib.hasSuffix at h
    obtain ⟨t, ht⟩ := List.isSuffixOf_iff_suffix.1 h
    rw [bt_bl s, bt_bl p, ← ht, bl_app]
    congr 1
    simp [bt_mk]
theorem index_one (c : UInt8) : ∀ l : List UInt8, (∃ a r, l = a ++ c :: r ∧ c ∉ a ∧ Lib.index l [c] = (a.length : Int)) ∨ (c ∉ l ∧ Lib.index l [c] = -1)
  | [] => .inr ⟨by simp, rfl⟩
  | b :: l => by
    rw [Lib.index]
    by_cases hb : c = b
    · subst hb
      left
      refine ⟨[], l, rfl, by simp, ?_⟩
      rw [if_pos (by simp)]
      rfl
    · have hp : ([c] : List UInt8).isPrefixOf (b :: l) = false := by
        show (c == b && ([] : List UInt8).isPrefixOf l) = false
        rw [beq_false_of_ne hb]; rfl
      rw [if_neg (by rw [hp]; simp)]
      rcases index_one c l with ⟨a, r, rfl, h2, h3⟩ | ⟨h2, h3⟩
      · left
        refine ⟨b :: a, r, rfl, ?_, ?_⟩
        · simp [hb, h2]
        · rw [h3, if_neg (by simp)]
          simp
      · right
        refine ⟨by simp [hb, h2], ?_⟩
        rw [h3]
        rfl
/-- strings.Cut at a byte -/
theorem cut_dec (s : ByteArray) (c : UInt8) (hs : s.size < 4294967281) : ∃ a b f, (∀ w, (∃ m, w.cell? ⟨3, 0, none⟩ = some (.int .i64 m)) → Calls Tryz.prog 148 #[.string s, .string ⟨#[c]⟩] w fun e w' => e = .returned (.tuple #[.string a, .string b, .bool f]) ∧ Out 0 0 w w') ∧ ((f = true ∧ bt s = bt a ++ (c.toNat : Int) :: bt b ∧ (c.toNat : Int) ∉ bt a) ∨ (f = false ∧ a = s ∧ (c.toNat : Int) ∉ bt s)) := by
  have drew : ∀ (n : Nat) (w : World), Out 0 0 w (w.drewN n) := by
    intro n
    induction n with
    | zero => intro w; exact Out.refl _ _ _
    | succ n ih => intro w; exact ⟨rfl, rfl, rfl, Nat.le_refl _, fun _ _ _ => rfl⟩
  refine ⟨⟨(Lib.cut s.data.toList [c]).1.toArray⟩, ⟨(Lib.cut s.data.toList [c]).2.1.toArray⟩, (Lib.cut s.data.toList [c]).2.2, fun w hw => ?_, ?_⟩
  · obtain ⟨m, hm⟩ := hw
    exact (Tryz.strings_Cut s ⟨#[c]⟩ m w hs hm).mono fun e w' ⟨h1, n, h2⟩ => ⟨h1, by rw [h2]; exact drew n w⟩
  · have hin : ∀ l : List UInt8, c ∉ l → (c.toNat : Int) ∉ bl l := by
      intro l h1 h2
      unfold bl at h2
      obtain ⟨x, hx, e⟩ := List.mem_map.1 h2
      exact h1 (UInt8.toNat.inj (Int.ofNat.inj e) ▸ hx)
    unfold Lib.cut
    rcases index_one c s.data.toList with ⟨a, r, h1, h2, h3⟩ | ⟨h2, h3⟩
    · left
      have e : Lib.index s.data.toList [c] = (a.length : Int) := h3
      simp only [e]
      rw [if_pos (by omega)]
      refine ⟨rfl, ?_, ?_⟩
      · rw [bt_bl s, h1, bl_app]
        simp [bt_mk, bl]
      · rw [bt_mk, h1]
        have : (a ++ c :: r).take (a.length : Int).toNat = a := by simp
        rw [this]
        exact hin a h2
    · right
      have e : Lib.index s.data.toList [c] = -1 := h3
      simp only [e]
      rw [if_neg (by omega)]
      exact ⟨rfl, rfl, hin _ h2⟩
/-- a decimal number -/
theorem decimal_yes {s : ByteArray} {n : Int} (h : decF (bt s) = some n) (w : World) : Calls Tryz.prog 146 #[.string s] w fun x w' => x = .returned (.int .i64 n) ∧ Out 0 0 w w' :=
  (decimal_any s w).mono fun x w' ⟨ho, h1⟩ => by
    rcases h1 with ⟨m, h2, h3⟩ | ⟨h2, _⟩
    · rw [h] at h2; cases h2; exact ⟨h3, ho⟩
    · rw [h] at h2; cases h2
theorem decimal_no {s : ByteArray} (h : decF (bt s) = none) (w : World) : Calls Tryz.prog 146 #[.string s] w fun x w' => x = .panicked [giveUp] ∧ Out 0 0 w w' :=
  (decimal_any s w).mono fun x w' ⟨ho, h1⟩ => by
    rcases h1 with ⟨m, h2, h3⟩ | ⟨_, h3⟩
    · rw [h] at h2; cases h2
    · exact ⟨h3, ho⟩
theorem decA_rng : ∀ (l : List Int) (n m : Int), 0 ≤ n → n ≤ 9223372036854775807 → decA n l = some m → 0 ≤ m ∧ m ≤ 9223372036854775807
  | [], n, m, h0, h1, h => by simp only [decA] at h; cases h; exact ⟨h0, h1⟩
  | c :: l, n, m, h0, h1, h => by
    rw [decA] at h
    split at h
    · rename_i hg
      have := of_decide_eq_true hg.1
      exact decA_rng l _ m (by omega) hg.2 h
    · cases h
theorem decF_rng {s : List Int} {n : Int} (h : decF s = some n) : 0 ≤ n ∧ n ≤ 9223372036854775807 := by
  unfold decF at h
  split at h
  · cases h
  · exact decA_rng s 0 n (Int.le_refl _) (by decide) h
end Go.Proofs.YtcnjlbjpeklgkaaGreatDoor
namespace Go.Proofs.YtcnjlbjpeklgkaaGreatDoor
open Go.RowKit
set_option linter.unusedVariables false
set_option linter.unusedSimpArgs false

theorem run_none2 {T E : TypeId} {z : Value} {sz by_ : Nat} (hT : Tryz.prog.underlying T = some (.slice E)) (hinf : (Tryz.prog.info? E).map (fun i => (i.zero, i.size, i.bytes)) = some (some z, sz, by_)) (w : World) (ty : TypeId) (ta p : Option Addr) (K cap c : Nat) (hle : K ≤ cap) : (Builtin.append_ #[T, T] ty #[.slice ta K cap, .slice p 0 c]).run Tryz.prog w = .ok (.slice ta K cap) w := by
  obtain ⟨i0, hi, hz0, hz1, hz2⟩ := info_p hinf
  cases p <;> cases ta <;> simp [Builtin.append_, run_underlying hT, sizeOf, typeInfo, hi, Builtin.lenOf, Builtin.firstCells, loadCells, loadCellsFrom, storeCells, hle]
theorem own_cap {w : World} {base K cap sz : Nat} {E : TypeId} {ta : Option Addr} {xs : List Value} (h : w.ownsRow base E sz (.slice ta K cap) K xs) : K ≤ cap := by
  rcases h.2 with ⟨h1, h2⟩ | ⟨g, c, cur, h1, _, _, h4, _⟩
  · omega
  · cases h1; exact h4
section
variable {T E : TypeId} {z : Value} {sz by_ : Nat}
/-- some things more in a row of one's own, none at all among them -/
theorem app_at (hT : Tryz.prog.underlying T = some (.slice E)) (hinf : (Tryz.prog.info? E).map (fun i => (i.zero, i.size, i.bytes)) = some (some z, sz, by_)) (hz : z.cells.size = sz) (hsz : 0 < sz) (hby : by_ ≤ 1000) {w : World} {base K cap m c : Nat} {ta sa : Option Addr} {xs ys : List Value} (hown : w.ownsRow base E sz (.slice ta K cap) K xs) (hbase : base ≤ w.heap.size) (hv : m = 0 ∨ ∃ vb off, sa = some ⟨vb, off, none⟩ ∧ ∀ (j : Nat) u, ys[j]? = some u → w.cell? ⟨vb, off + j, none⟩ = some u) (hl : ys.length = m * sz) (h1 : ∀ u ∈ ys, u.oneCell' = true) (hK : K ≤ 2000000) (hm2 : m ≤ 2000000) (ty : TypeId) :
    ∃ a' cap' w', (Builtin.append_ #[T, T] ty #[.slice ta K cap, .slice sa m c]).run Tryz.prog w = .ok (.slice a' (K + m) cap') w' ∧ w'.ownsRow base E sz (.slice a' (K + m) cap') (K + m) (xs ++ ys) ∧ Fx (fun k => (Value.slice ta K cap).ownBlock = some k) w w' ∧
      ((Value.slice a' (K + m) cap').ownBlock = (Value.slice ta K cap).ownBlock ∨ (Value.slice a' (K + m) cap').ownBlock = some w.heap.size) := by
  by_cases hm : m = 0
  · subst hm
    have : ys = [] := List.eq_nil_of_length_eq_zero (by omega)
    subst this
    exact ⟨ta, cap, w, run_none2 hT hinf w ty ta sa K cap c (own_cap hown), by rw [List.append_nil]; exact hown, Fx.refl _ _, .inl rfl⟩
  · rcases hv with h | ⟨vb, off, rfl, hv⟩
    · exact absurd h hm
    obtain ⟨i0, hi0, hz0, hz1, hz2⟩ := info_p hinf
    obtain ⟨g4, cap', w', hrun, hown', hgrow, hat, _⟩ := run_append_lies (P := Tryz.prog) w T ty base E i0 z sz by_ hT hi0 hz0 hz1 hz2 hz hsz (.slice ta K cap) K xs hown ⟨vb, off, none⟩ m c ys hl (by
        intro j u hj
        rw [Addr.add_lit]
        exact hv j u hj) h1 (by omega) (by unfold maxLen; omega) (by
        have : (K + m) * by_ ≤ 4000000 * 1000 := Nat.mul_le_mul (by omega) hby
        omega) hbase w.heap.size rfl
    refine ⟨some ⟨g4, 0, none⟩, cap', w', hrun, hown', ⟨hgrow.os, hgrow.tape, hgrow.output, hgrow.size, fun k h1 h2 => hgrow.block k h1 (fun e => h2 e.symm)⟩, ?_⟩
    rcases hat with h | h
    · exact .inl h.symm
    · exact .inr (by rw [h]; rfl)
theorem fx_grown {w w' : World} {S : Nat → Prop} (h : w.grownBy w' none) : Fx S w w' := ⟨h.os, h.tape, h.output, h.size, fun k h1 _ => h.block k h1 (by simp)⟩
/-- the slice of a longer row -/
theorem own_part {w : World} {base K m cap : Nat} {g : Nat} {xs ys : List Value} (h : w.ownsRow base E sz (.slice (some ⟨g, 0, none⟩) (K + m) cap) (K + m) (xs ++ ys)) (hx : xs.length = K * sz) : w.ownsRow base E sz (.slice (some ⟨g, 0, none⟩) K cap) K xs := by
  rcases h.2 with ⟨h1, h2⟩ | ⟨g', c, cur, h1, h2, h3, h4, h5, h6, h7⟩
  · cases h1
  · cases h1
    refine ⟨hx, .inr ⟨g, cap, cur, rfl, h2, h3, by omega, h5, h6, ?_⟩⟩
    have := congrArg (List.take (K * sz)) h7
    rw [List.take_take, Nat.min_eq_left (Nat.mul_le_mul_right _ (by omega)), ← hx, List.take_left] at this
    rw [← hx]
    exact this
/-- an append leaves the slice as it was: it writes behind it, or in a new block -/
theorem app_keep (hT : Tryz.prog.underlying T = some (.slice E)) (hinf : (Tryz.prog.info? E).map (fun i => (i.zero, i.size, i.bytes)) = some (some z, sz, by_)) (hz : z.cells.size = sz) (hsz : 0 < sz) (hby : by_ ≤ 1000) {w : World} {base K cap m c : Nat} {ta : Option Addr} {vb off : Nat} {xs ys : List Value} (hown : w.ownsRow base E sz (.slice ta K cap) K xs) (hbase : base ≤ w.heap.size) (hv : ∀ (j : Nat) u, ys[j]? = some u → w.cell? ⟨vb, off + j, none⟩ = some u) (hl : ys.length = m * sz) (h1 : ∀ u ∈ ys, u.oneCell' = true) (hK : K ≤ 2000000) (hm : 0 < m) (hm2 : m ≤ 2000000) (ty : TypeId) :
    ∃ g cap' w', (Builtin.append_ #[T, T] ty #[.slice ta K cap, .slice (some ⟨vb, off, none⟩) m c]).run Tryz.prog w = .ok (.slice (some ⟨g, 0, none⟩) (K + m) cap') w' ∧ w'.ownsRow base E sz (.slice (some ⟨g, 0, none⟩) (K + m) cap') (K + m) (xs ++ ys) ∧ w'.ownsRow base E sz (.slice ta K cap) K xs ∧ Fx (fun k => (Value.slice ta K cap).ownBlock = some k) w w' ∧
      ((Value.slice ta K cap).ownBlock = some g ∨ w.heap.size ≤ g) := by
  obtain ⟨i0, hi0, hz0, hz1, hz2⟩ := info_p hinf
  have hb : (K + m) * by_ ≤ 140737488355328 := by
    have : (K + m) * by_ ≤ 4000000 * 1000 := Nat.mul_le_mul (by omega) hby
    omega
  have hmx : K + m ≤ maxLen := by unfold maxLen; omega
  have hv' : ∀ (j : Nat) u, ys[j]? = some u → w.cell? ((⟨vb, off, none⟩ : Addr).add j) = some u := by
    intro j u hj
    rw [Addr.add_lit]
    exact hv j u hj
  have fin : ∀ v' w', (Builtin.append_ #[T, T] ty #[.slice ta K cap, .slice (some ⟨vb, off, none⟩) m c]).run Tryz.prog w = .ok v' w' → w'.ownsRow w.heap.size E sz v' (K + m) (xs ++ ys) → w.grownBy w' none → ∃ g cap' w', (Builtin.append_ #[T, T] ty #[.slice ta K cap, .slice (some ⟨vb, off, none⟩) m c]).run Tryz.prog w = .ok (.slice (some ⟨g, 0, none⟩) (K + m) cap') w' ∧ w'.ownsRow base E sz (.slice (some ⟨g, 0, none⟩) (K + m) cap') (K + m) (xs ++ ys) ∧ w'.ownsRow base E sz (.slice ta K cap) K xs ∧ Fx (fun k => (Value.slice ta K cap).ownBlock = some k) w w' ∧ ((Value.slice ta K cap).ownBlock = some g ∨ w.heap.size ≤ g) := by
    intro v' w' hr r1 r2
    obtain ⟨g, cap', rfl, hg, _⟩ := r1.form (by omega)
    exact ⟨g, cap', w', hr, Go.Joins.ownsRow_le r1 hbase, own_fx (S := fun _ => False) hown (fx_grown r2) (fun _ _ q => q), fx_grown r2, .inr hg⟩
  have hown' := hown
  rcases hown.2 with ⟨h0, h00⟩ | ⟨g, cap2, cur, h0, hg1, hg2, hg3, hg4, hg5, hg6⟩
  · cases h0
    obtain rfl : xs = [] := List.eq_nil_of_length_eq_zero (by simpa using hown.1)
    obtain ⟨v', w', hrun, r1, r2, _⟩ := run_append_own (P := Tryz.prog) w w.heap.size T ty E i0 z sz by_ hT hi0 hz0 hz1 hz2 hz hsz (.slice none 0 0) 0 [] (World.ownsRow_nil w _ E sz) ⟨vb, off, none⟩ m c ys hl hv' h1 hmx hb (Nat.le_refl _)
    exact fin v' w' hrun r1 r2
  · cases h0
    by_cases hr : K + m ≤ cap
    · obtain ⟨w', hrun, r1, r2⟩ := run_append_own_spare (P := Tryz.prog) w base T ty E i0 sz hT hi0 hz1 g K cap xs hown' ⟨vb, off, none⟩ m c ys hl hv' h1 hr
      exact ⟨g, cap, w', hrun, r1, own_part r1 hown.1, ⟨r2.os, r2.tape, r2.output, r2.size, fun k h1 h2 => r2.block k h1 (fun e => h2 e.symm)⟩, .inl rfl⟩
    · obtain ⟨v', w', hrun, r1, r2⟩ := run_append_arg_grows (P := Tryz.prog) w T ty E i0 z sz by_ hT hi0 hz0 hz1 hz2 hz hsz ⟨g, 0, none⟩ K cap xs hown.1 (fun j u hj => by
          rw [Addr.add_lit, Nat.zero_add]
          have hB : Bl w g cur E := hg2
          rw [← hg6] at hj
          have hlt := (List.getElem?_eq_some_iff.1 hj).1
          rw [List.length_take] at hlt
          rw [List.getElem?_take_of_lt (by omega)] at hj
          exact hB.cell (by simpa using hj)) ⟨vb, off, none⟩ m c ys hl hv' (by omega) hmx hb
      exact fin v' w' hrun r1 r2
/-- a store behind a slice leaves it -/
theorem own_far {w : World} {base K cap : Nat} {ta : Option Addr} {xs : List Value} (h : w.ownsRow base E sz (.slice ta K cap) K xs) (g j : Nat) (hj : K * sz ≤ j) (v : Value) : (w.setCell ⟨g, j, none⟩ v).ownsRow base E sz (.slice ta K cap) K xs := by
  rcases h.2 with ⟨h0, h00⟩ | ⟨q, cap2, cur, h0, hg1, hg2, hg3, hg4, hg5, hg6⟩
  · exact ⟨h.1, .inl ⟨h0, h00⟩⟩
  · cases h0
    have hB : Bl w q cur E := hg2
    by_cases hq : q = g
    · subst hq
      refine ⟨h.1, .inr ⟨q, cap, _, rfl, hg1, hB.set j v, hg3, hg4, by simpa using hg5, ?_⟩⟩
      rw [← hg6]
      apply List.ext_getElem?
      intro i
      rw [List.getElem?_take, List.getElem?_take]
      split
      · rename_i hi
        simp only [Array.getElem?_toList, Array.getElem?_setIfInBounds]
        rw [if_neg (by omega)]
      · rfl
    · exact ⟨h.1, .inr ⟨q, cap, cur, rfl, hg1, hB.other (q := ⟨g, j, none⟩) (Ne.symm hq) v, hg3, hg4, hg5, hg6⟩⟩
/-- a store into a slice -/
theorem own_put {w : World} {base K cap g : Nat} {xs : List Value} (h : w.ownsRow base E sz (.slice (some ⟨g, 0, none⟩) K cap) K xs) (j : Nat) (v : Value) : (w.setCell ⟨g, j, none⟩ v).ownsRow base E sz (.slice (some ⟨g, 0, none⟩) K cap) K (xs.set j v) := by
  rcases h.2 with ⟨h0, h00⟩ | ⟨q, cap2, cur, h0, hg1, hg2, hg3, hg4, hg5, hg6⟩
  · cases h0
  · cases h0
    have hB : Bl w g cur E := hg2
    refine ⟨by rw [List.length_set]; exact h.1, .inr ⟨g, cap, _, rfl, hg1, hB.set j v, hg3, hg4, by simpa using hg5, ?_⟩⟩
    rw [← hg6]
    apply List.ext_getElem?
    intro i
    rw [List.getElem?_take, List.getElem?_set, List.getElem?_take, List.length_take, Array.length_toList, Array.getElem?_toList, Array.getElem?_toList, Array.getElem?_setIfInBounds]
    have hkc := Nat.mul_le_mul_right sz hg3
    by_cases hi : i < K * sz <;> by_cases hji : j = i <;> by_cases hc : j < cur.size
    all_goals (try subst hji)
    all_goals simp_all
    all_goals (try (exfalso; omega))
    all_goals (repeat' split)
    all_goals first | rfl | (exfalso; omega)
/-- the cells of a row of one's own -/
theorem own_cellsX {w : World} {base K cap : Nat} {ta : Option Addr} {xs : List Value} (h : w.ownsRow base E sz (.slice ta K cap) K xs) (hK : 0 < K) : ∃ g cur, ta = some ⟨g, 0, none⟩ ∧ base ≤ g ∧ (∀ (j : Nat) u, xs[j]? = some u → w.cell? ⟨g, j, none⟩ = some u) ∧ Bl w g cur E ∧ cur.size = cap * sz ∧ K ≤ cap ∧ cap ≤ maxLen ∧ cur.toList.take (K * sz) = xs := by
  rcases h.2 with ⟨_, h0⟩ | ⟨g, c, cur, h1, h2, h3, h4, h5, h6, h7⟩
  · omega
  · cases h1
    have B : Bl w g cur E := h3
    refine ⟨g, cur, rfl, h2, fun j u hj => ?_, h3, h6, h4, h5, h7⟩
    rw [← h7] at hj
    have hlt := (List.getElem?_eq_some_iff.1 hj).1
    rw [List.length_take] at hlt
    rw [List.getElem?_take_of_lt (by omega)] at hj
    exact B.cell (by simpa using hj)
end
end Go.Proofs.YtcnjlbjpeklgkaaGreatDoor
namespace Go.Proofs.YtcnjlbjpeklgkaaGreatDoor
open Go.RowKit
set_option linter.unusedVariables false
set_option linter.unusedSimpArgs false

/-- as Q; by a goto to label l: J l -/
def jumpQ (J : Nat → Act → World → Prop) (Q : Exit → Act → World → Prop) : Exit → Act → World → Prop
  | .goto l, a, w => J l a w
  | e, a, w => Q e a w
section
variable {P : Program} {a : Act} {w : World} {Q : Exit → Act → World → Prop}
@[go_sem] theorem jumpQ_ret (J : Nat → Act → World → Prop) : jumpQ J Q .ret a w = Q .ret a w := rfl
@[go_sem] theorem jumpQ_normal (J : Nat → Act → World → Prop) : jumpQ J Q .normal a w = Q .normal a w := rfl
@[go_sem] theorem jumpQ_panic (J : Nat → Act → World → Prop) (c : List PanicEntry) : jumpQ J Q (.panic c) a w = Q (.panic c) a w := rfl
theorem scope_many {c : Code} (J : Nat → Nat → Act → World → Prop) (rest : Nat → Code) (hf : ∀ n l a w, J n l a w → findLabel c l = some (rest l))
    (first : c.wp P (jumpQ (fun l a w => ∃ n, J n l a w) Q) a w)
    (pass : ∀ n l a w, J n l a w → (rest l).wp P (jumpQ (fun l' a' w' => ∃ n', n' < n ∧ J n' l' a' w') Q) a w) : (Code.scope c).wp P Q a w := by
  intro b k cs
  have hg : ∀ l r, findLabel c l = some r → gotoIn l (.inScope c :: k) = some (.code r :: .inScope c :: k) := fun l r h => by simp [gotoIn, h]
  have key : ∀ n l a w, J n l a w → ∃ e a' w', Q e a' w' ∧ Arrives P (lone (b.at a (.code (rest l) :: .inScope c :: k)) cs w) b k cs e a' w' := by
    intro n
    induction n using Nat.strongRecOn with
    | _ n ih =>
      intro l a w hJ
      obtain ⟨e, a₁, w₁, hq, harr⟩ := pass n l a w hJ b (.inScope c :: k) cs
      cases e with
      | normal => exact ⟨.normal, a₁, w₁, hq, Steps.trans harr (.one step_inScope)⟩
      | exit id => exact ⟨.exit id, a₁, w₁, hq, fun k' hk => harr k' (by simp [exitTo, hk])⟩
      | goto l' =>
        obtain ⟨n', hlt, hJ'⟩ := hq
        obtain ⟨e₂, a₂, w₂, hq₂, harr₂⟩ := ih n' hlt l' a₁ w₁ hJ'
        exact ⟨e₂, a₂, w₂, hq₂, .of_steps (harr _ (hg _ _ (hf _ _ _ _ hJ'))) harr₂⟩
      | ret => exact ⟨_, a₁, w₁, hq, harr⟩
      | panic ch => exact ⟨_, a₁, w₁, hq, harr⟩
      | outgrown => exact ⟨_, a₁, w₁, hq, harr⟩
  obtain ⟨e, a₁, w₁, hq, harr⟩ := first b (.inScope c :: k) cs
  cases e with
  | normal => exact ⟨.normal, a₁, w₁, hq, .head step_scope (Steps.trans harr (.one step_inScope))⟩
  | exit id => exact ⟨.exit id, a₁, w₁, hq, fun k' hk => .head step_scope (harr k' (by simp [exitTo, hk]))⟩
  | goto l' =>
    obtain ⟨n, hJ'⟩ := hq
    obtain ⟨e₂, a₂, w₂, hq₂, harr₂⟩ := key n l' a₁ w₁ hJ'
    exact ⟨e₂, a₂, w₂, hq₂, .of_steps (.head step_scope (harr _ (hg _ _ (hf _ _ _ _ hJ')))) harr₂⟩
  | ret => exact ⟨_, a₁, w₁, hq, .of_steps (.one step_scope) harr⟩
  | panic ch => exact ⟨_, a₁, w₁, hq, .of_steps (.one step_scope) harr⟩
  | outgrown => exact ⟨_, a₁, w₁, hq, .of_steps (.one step_scope) harr⟩
/-- four labels -/
theorem scope_four {c r0 r1 r2 r3 : Code} (J : Nat → Nat → Act → World → Prop) (h0 : findLabel c 0 = some (.seq .skip r0)) (h1 : findLabel c 1 = some (.seq .skip r1)) (h2 : findLabel c 2 = some (.seq .skip r2)) (h3 : findLabel c 3 = some (.seq .skip r3))
    (hl : ∀ n l a w, J n l a w → l < 4)
    (first : (∀ n a w, J n 2 a w → r2.wp P (jumpQ (fun l a w => ∃ n, J n l a w) Q) a w) → c.wp P (jumpQ (fun l a w => ∃ n, J n l a w) Q) a w)
    (p0 : ∀ n a w, J n 0 a w → r0.wp P (jumpQ (fun l' a' w' => ∃ n', n' < n ∧ J n' l' a' w') Q) a w)
    (p1 : ∀ n a w, J n 1 a w → r1.wp P (jumpQ (fun l' a' w' => ∃ n', n' < n ∧ J n' l' a' w') Q) a w)
    (p2 : ∀ n a w, J n 2 a w → r2.wp P (jumpQ (fun l' a' w' => ∃ n', n' < n ∧ J n' l' a' w') Q) a w)
    (p3 : ∀ n a w, J n 3 a w → r3.wp P (jumpQ (fun l' a' w' => ∃ n', n' < n ∧ J n' l' a' w') Q) a w) : (Code.scope c).wp P Q a w := by
  refine scope_many J (fun l => .seq .skip (match l with | 0 => r0 | 1 => r1 | 2 => r2 | _ => r3)) ?_ (first fun n a w h => wp_mono (p2 n a w h) fun e a' w' he => ?_) ?_
  rotate_left
  · cases e with
    | goto l => obtain ⟨n', _, h'⟩ := he; exact ⟨n', h'⟩
    | normal => exact he
    | exit id => exact he
    | ret => exact he
    | panic ch => exact he
    | outgrown => exact he
  rotate_left
  · intro n l a w hJ
    have := hl n l a w hJ
    match l, this with
    | 0, _ => exact h0
    | 1, _ => exact h1
    | 2, _ => exact h2
    | 3, _ => exact h3
  · intro n l a w hJ
    have := hl n l a w hJ
    match l, this with
    | 0, _ => exact wp_seq (wp_skip (p0 n a w hJ))
    | 1, _ => exact wp_seq (wp_skip (p1 n a w hJ))
    | 2, _ => exact wp_seq (wp_skip (p2 n a w hJ))
    | 3, _ => exact wp_seq (wp_skip (p3 n a w hJ))
end
/-- an append whose run is known -/
theorem wpList_appS {P : Program} {w w' : World} {ops : Array Oper} {rest : List Oper} {o : Oper} {a : Act} {Q : Exit → Act → World → Prop} {sv xv v : Value}
    (hg : o.guard = none) (s x : Operand) (t t' : TypeId) (hop : o.op = Op.call { callee := Callee.builtin Builtin.append, args := #[s, x], argTypes := #[t, t'] }) (hs : a.eval s = sv) (hx : a.eval x = xv) (hrun : (Builtin.append_ #[t, t'] o.type #[sv, xv]).run P w = .ok v w')
    (hK : wpList P ops Q rest (a.put o.dst v) w') : wpList P ops Q (o :: rest) a w := by
  refine wpList_plain hg fun K hK' => ?_
  unfold Oper.wp
  simp [execOp, hop, resolve, invoke, builtin, hs, hx, hrun, Result.andThen]
  exact hK' _ _ hK
/-- the same in a region that draws its order -/
theorem app_stepS (w : World) {o : Oper} {a : Act} {K : Act → World → Prop} {Q : Exit → Act → World → Prop} (d s : Operand) (t t' : TypeId)
    (ho : o.op = .call { callee := .builtin .append, args := #[d, s], argTypes := #[t, t'] }) (v u : Value) (hd : a.eval d = v) (hs : a.eval s = u) {v' : Value} {w' : World}
    (hr : (Builtin.append_ #[t, t'] o.type #[v, u]).run Tryz.prog w = .ok v' w') (h : K (a.put o.dst v') w') : o.wp Tryz.prog a w K Q := by
  unfold Oper.wp execOp
  simp only [ho, resolve, invoke, builtin, Sem.run_bind, Sem.run_pure, Result.andThen_ok, List.map_toArray, List.map_cons, List.map_nil, hd, hs, hr]
  exact h
/-- a list of strings in a row of its own -/
def Sts (w : World) (base : Nat) (v : Value) (l : List ByteArray) : Prop := w.ownsRow base 9 1 v l.length (l.map Value.string)
theorem info_str : (Tryz.prog.info? 9).map (fun i => (i.zero, i.size, i.bytes)) = some (some (.string ⟨#[]⟩), 1, 16) := by kernel_rfl
theorem sts_nil (w : World) (base : Nat) : Sts w base (.slice none 0 0) [] := World.ownsRow_nil _ _ _ 1
theorem Sts.fx {w w' : World} {base : Nat} {v : Value} {l : List ByteArray} {S : Nat → Prop} (h : Sts w base v l) (x : Fx S w w') (hS : ∀ k, base ≤ k → ¬ S k) : Sts w' base v l := own_fx h x fun k hk => hS k (own_ge h hk).1
theorem Sts.out {w w' : World} {base : Nat} {v : Value} {l : List ByteArray} (h : Sts w base v l) (x : Out 0 0 w w') : Sts w' base v l := own_fx h (Fx.of_out (S := fun _ => False) x) fun _ _ q => q
/-- a block that holds no strings may change -/
theorem Sts.iter {w : World} {base k : Nat} {v : Value} {l : List ByteArray} {s : ByteArray} {pos : Nat} (h : Sts w base v l) (hk : w.heap[k]? = some (.stringIter s pos)) (p2 : Nat) : Sts (w.iterAt k s p2) base v l := by
  refine own_fx h (S := fun j => j = k) ⟨rfl, rfl, rfl, by rw [Lib.iterAt_size]; exact Nat.le_refl _, fun j _ h2 => Lib.iterAt_other w k j s p2 h2⟩ ?_
  rintro g hg rfl
  rcases h.2 with ⟨rfl, _⟩ | ⟨g', c, cur, rfl, _, h3, _⟩
  · cases hg
  · cases hg
    rw [hk] at h3
    cases h3
/-- one string more -/
theorem sts_app {w : World} {base n cap : Nat} {ta : Option Addr} {l : List ByteArray} (h : Sts w base (.slice ta n cap) l) (hb : base ≤ w.heap.size) (x : ByteArray) (hn : l.length ≤ 1900000) :
    ∃ a' cap' w', (Builtin.append_ #[48, 48] 48 #[.slice ta n cap, .slice (some ⟨w.heap.size, 0, none⟩) 1 1]).run Tryz.prog (w.alloc (.cells #[.string x] 9)) = .ok (.slice a' (n + 1) cap') w' ∧ Sts w' base (.slice a' (n + 1) cap') (l ++ [x]) ∧ ∀ w0, Out 0 0 w0 w → w0.heap.size ≤ base → Out 0 0 w0 w' := by
  have hln : l.length = n := by
    rcases h.2 with ⟨e, h0⟩ | ⟨g, c, cur, e, _⟩
    · cases e; omega
    · cases e; rfl
  have h1 : (w.alloc (.cells #[.string x] 9)).ownsRow base 9 1 (.slice ta n cap) n (l.map Value.string) := by
    have := Sts.out h ((Out.refl 0 0 w).alloc (.cells #[.string x] 9))
    unfold Sts at this
    rwa [hln] at this
  have hc := (Bl.new w #[.string x] 9).cell (i := 0) rfl
  obtain ⟨a', cap', w', hr, h2, h3, h4⟩ := app_at (T := 48) Tryz.underlying48 info_str rfl (by decide) (by decide) h1 (by rw [size_alloc]; omega) (m := 1) (c := 1) (ys := [.string x]) (sa := some ⟨w.heap.size, 0, none⟩) (.inr ⟨_, _, rfl, by
    intro j u hj
    match j, hj with
    | 0, hj => cases hj; exact hc⟩) rfl (by intro u hu; simp at hu; subst hu; rfl) (by omega) (by omega) 48
  refine ⟨a', cap', w', hr, ?_, fun w0 o hw0 => ?_⟩
  · unfold Sts
    rw [List.map_append, List.length_append, hln]
    exact h2
  · refine (o.alloc _).past (lo := base) (hi := w'.heap.size + base + 1) ⟨h3.1, h3.2.1, h3.2.2.1, h3.size, fun k k1 k2 => ?_⟩ hw0
    rcases Nat.lt_or_ge k base with q | q
    · exact h3.2.2.2.2 k k1 fun e => by have := (own_ge h1 e).1; omega
    · have := h3.size
      omega
end Go.Proofs.YtcnjlbjpeklgkaaGreatDoor
