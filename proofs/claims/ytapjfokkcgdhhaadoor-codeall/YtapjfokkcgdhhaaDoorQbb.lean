import Derived.Test.YtapjfokkcgdhhaaDoorQba
import Derived.Test.YtapjfokkcgdhhaaDoorQao
import Derived.Deep.Cut
namespace Go.Proofs.YtapjfokkcgdhhaaDoor
open Go.RowKit
set_option linter.unusedVariables false
set_option linter.unusedSimpArgs false

theorem ofInt_natX (b : Int) : (BitVec.ofInt 64 b).toNat = (b % 18446744073709551616).toNat := by
  rw [BitVec.toNat_ofInt]; rfl
theorem and_1X (b : Int) : bits .and .i64 b 1 = b % 2 := by
  have hm : (BitVec.ofInt 64 1).toNat = 2 ^ 1 - 1 := by decide
  have h : (BitVec.ofInt 64 b &&& BitVec.ofInt 64 1).toNat = (b % 18446744073709551616).toNat % 2 ^ 1 := by
    rw [BitVec.toNat_and, hm, Nat.and_two_pow_sub_one_eq_mod, ofInt_natX]
  have e : bits .and .i64 b 1 = IntKind.wrap .i64 ((BitVec.ofInt 64 b &&& BitVec.ofInt 64 1).toNat : Nat) := rfl
  rw [e, h]
  simp [IntKind.wrap, IntKind.signed, IntKind.bits]
  omega
theorem and_1Y (i : Nat) : ∃ y : Int, bits .and .i64 (i : Int) 1 = y ∧ (0 ≤ y ∧ y ≤ 255) ∧ IntKind.u8.wrap y = y := by
  refine ⟨_, and_1X _, by omega, ?_⟩
  simp [IntKind.wrap, IntKind.signed, IntKind.bits]
  omega
theorem str_789 (t : List Int) : strOfNums t ++ (⟨#[7, 8, 9]⟩ : ByteArray) = strOfNums (t ++ [7, 8, 9]) := by
  have h : ∀ a b : ByteArray, a.data = b.data → a = b := fun a b h => by cases a; cases b; simpa using h
  apply h
  rw [ByteArray.data_append]
  unfold strOfNums
  simp
theorem add_789 (t : List Int) (ht : t.length ≤ 300000) (W : World) : (Op.stringOp .add (strOfNums t) ⟨#[7, 8, 9]⟩).run Tryd.prog W = .ok (.string (strOfNums (t ++ [7, 8, 9]))) W := by
  have h3 : (⟨#[7, 8, 9]⟩ : ByteArray).size = 3 := rfl
  have h' : ¬ ((9223372036854775807 : Int) < ((strOfNums t).size : Int) + ((⟨#[7, 8, 9]⟩ : ByteArray).size : Int)) := by rw [strOfNums_size, h3]; omega
  rw [← str_789]
  simp [Op.stringOp, h']
def KX (n : Nat) (ra : Option Addr) (rk : Nat) (wa : Option Addr) (wk : Nat) (rvs : List Value) (Ps Qs : List (Int × (Option Addr × Nat) × (Option Addr × Nat) × List Value × List Value × List (List Int) × List (Int × Int × Int × List (Int × Int)))) : Prop := (∀ k, RB rvs k → ¬ RB (tvs Ps) k) ∧ ∀ k, ((Value.slice ra n rk).ownBlock = some k ∨ (Value.slice wa n wk).ownBlock = some k) → ¬ TB Ps k ∧ ¬ TB Qs k
/-- all that is kept -/
def KP (w : World) (lo bk n np : Nat) : Prop := ∃ ra rk wa wk rvs wvs ls pa pk sa sk Ps Qs, KR (.slice pa np pk) (.slice sa np sk) w lo bk n n ra rk wa wk rvs wvs ls ls ∧ KQ w lo pa np pk sa np sk Ps Qs ∧ KX n ra rk wa wk rvs Ps Qs ∧ ∀ l ∈ ls, l.length ≤ 65536
theorem KP.quiet {w w' : World} {lo bk n np : Nat} (h : KP w lo bk n np) (o : Out 0 0 w w') : KP w' lo bk n np := by
  obtain ⟨ra, rk, wa, wk, rvs, wvs, ls, pa, pk, sa, sk, Ps, Qs, h1, h2, h3⟩ := h
  exact ⟨ra, rk, wa, wk, rvs, wvs, ls, pa, pk, sa, sk, Ps, Qs, h1.quiet o, h2.quiet o, h3⟩
theorem kp_start {w : World} {bk : Nat} (h : Bl w bk #[.slice none 0 0, .slice none 0 0, .slice none 0 0, .slice none 0 0] 28) : KP w (bk + 1) bk 0 0 :=
  ⟨none, 0, none, 0, [], [], [], none, 0, none, 0, [], [], ⟨h, ⟨World.ownsRow_nil _ _ _ 1, ⟨rfl, fun j v t q => by simp at q⟩, fun i j a b k hij q => by simp at q⟩, World.ownsRow_nil _ _ _ 1, ⟨rfl, fun j v t q => by simp at q⟩, (fun k hk => by cases hk), Nat.lt_succ_self _⟩, ⟨World.ownsRow_nil _ _ _ 3, World.ownsRow_nil _ _ _ 3, (fun k hk => by cases hk), (fun i p hp => by cases hp), (fun i p hp => by cases hp), (fun i p q hp => by cases hp), (fun i j a b k hij q => by cases q), (fun i j a b k hij q => by cases q), (fun i j a b k hij q => by cases q), (fun i j a b k hij q => by cases q)⟩, ⟨(fun k ⟨j, v, q, _⟩ => by cases q), fun k hk => by rcases hk with hk | hk <;> cases hk⟩, fun l hl => by cases hl⟩
theorem tb_app {Ps : List (Int × (Option Addr × Nat) × (Option Addr × Nat) × List Value × List Value × List (List Int) × List (Int × Int × Int × List (Int × Int)))} {p : (Int × (Option Addr × Nat) × (Option Addr × Nat) × List Value × List Value × List (List Int) × List (Int × Int × Int × List (Int × Int)))} {k : Nat} (h : TB (Ps ++ [p]) k) : TB Ps k ∨ (gT p).ownBlock = some k := by
  obtain ⟨i, q, h1, h2⟩ := h
  rw [List.getElem?_append] at h1
  split at h1
  · exact .inl ⟨i, q, h1, h2⟩
  · have := List.mem_of_getElem? h1
    simp at this
    subst this
    exact .inr h2
/-- rows and programs that were kept, and a program more -/
theorem KX.push {n N : Nat} {ra : Option Addr} {rk : Nat} {wa : Option Addr} {wk : Nat} {rvs wvs : List Value} {Ps Qs : List (Int × (Option Addr × Nat) × (Option Addr × Nat) × List Value × List Value × List (List Int) × List (Int × Int × Int × List (Int × Int)))} {p q : (Int × (Option Addr × Nat) × (Option Addr × Nat) × List Value × List Value × List (List Int) × List (Int × Int × Int × List (Int × Int)))} {bk : Nat} (h : KX n ra rk wa wk rvs Ps Qs) (hN : ∀ k, KB bk n ra rk wa wk rvs wvs k → k < N) (hp : ∀ k, PB p k → N ≤ k) (hq : ∀ k, PB q k → N ≤ k) : KX n ra rk wa wk rvs (Ps ++ [p]) (Qs ++ [q]) := by
  refine ⟨fun k hk hk' => ?_, fun k hk => ?_⟩
  · unfold tvs at hk'
    rw [List.flatMap_append, List.flatMap_singleton] at hk'
    obtain ⟨v, h1, h2⟩ := rb_mem.1 hk'
    rcases List.mem_append.1 h1 with h1 | h1
    · exact h.1 k hk (rb_mem.2 ⟨v, h1, h2⟩)
    · have h3 := hp k (.inr (.inr (.inl (rb_mem.2 ⟨v, h1, h2⟩))))
      have h4 := hN k (.inr (.inr (.inr (.inl hk))))
      omega
  · have h4 : k < N := by
      rcases hk with hk | hk
      · exact hN k (.inr (.inl hk))
      · exact hN k (.inr (.inr (.inl hk)))
    constructor
    · intro e
      rcases tb_app e with e | e
      · exact (h.2 k hk).1 e
      · have := hp k (.inl e); omega
    · intro e
      rcases tb_app e with e | e
      · exact (h.2 k hk).2 e
      · have := hq k (.inl e); omega
end Go.Proofs.YtapjfokkcgdhhaaDoor
namespace Go.Proofs.YtapjfokkcgdhhaaDoor
open Go.RowKit
set_option linter.unusedVariables false
set_option linter.unusedSimpArgs false

theorem m789 : Byt [7, 8, 9] := by intro x hx; simp at hx; omega
theorem byt_app {a b : List Int} (ha : Byt a) (hb : Byt b) : Byt (a ++ b) := fun x hx => by
  rcases List.mem_append.1 hx with h | h
  · exact ha x h
  · exact hb x h
theorem byt_set {a : List Int} {i : Nat} {y : Int} (ha : Byt a) (hy : 0 ≤ y ∧ y ≤ 255) : Byt (a.set i y) := fun x hx => by
  rcases List.mem_or_eq_of_mem_set hx with h | rfl
  · exact ha x h
  · exact hy
/-- a lent row: its first places are bytes -/
theorem own_front {w : World} {base g n L c : Nat} {t : List Int} (h : w.ownsRow base 5 1 (.slice (some ⟨g, 0, none⟩) L c) L (bvs (t ++ [7, 8, 9]))) (hB : Byt t) (ht : t.length = n) (hL : n + 3 = L) : ByIn w w.heap.size (some ⟨g, 0, none⟩) t ∧ n ≤ c ∧ BytesAt w (some ⟨g, 0, none⟩) (t ++ [7, 8, 9]) := by
  subst hL
  rw [bvs_app] at h
  have h2 := own_part h (by rw [bvs_len]; omega)
  refine ⟨ByIn.own hB h2 (fun q hq => (own_ge h2 hq).2), ?_, ?_⟩
  · have := own_cap h; omega
  · rw [← bvs_app] at h
    exact (ByIn.own (hi := w.heap.size) (byt_app hB m789) h (fun q hq => (own_ge h hq).2)).bytes
theorem dif_of {n : Nat} (h : n < 4) : decide ((4 : Int) < (n : Int)) = false := by simp; omega
set_option maxRecDepth 100000 in
set_option maxHeartbeats 4000000 in
theorem reads_any {w : World} {B lo bk n np : Nat} (hT : Ty w) (hB : B ≤ w.heap.size) (ba : Option Addr) (bs : List Int) (nb cb : Nat) (hin : ByIn w B ba bs) (hnb : bs.length = nb) (hcb : nb ≤ cb) (hmax : nb ≤ 300000) (hlo : lo ≤ w.heap.size) (hnp : np ≤ 1000 ∧ B ≤ bk ∧ 1 ≤ B) (hKP : KP w lo bk n np) :
    Calls Tryd.prog 6 #[.slice ba nb cb, .pointer (some ⟨bk, 0, none⟩)] w fun e w' => e = .returned (.bool true) ∧ Fx (fun k => lo ≤ k ∨ k = bk) w w' ∧ KP w' lo bk n (np + 1) := by
  obtain ⟨ra, rk, wa, wk, rvs, wvs, ls, pa, pk, sa, sk, Ps, Qs, hK, hQ, hX, hls⟩ := hKP
  obtain ⟨a1, p1, w1, hr1, g1, o1⟩ := cp_at (w := w) (c := cb) Tryd.underlying22 info_u8 rfl (by decide) (by decide) (by_src hin hnb) (by rw [bvs_len, hnb, Nat.mul_one]) bvs_one (by omega) 22
  obtain ⟨X1, hX1⟩ : ∃ X, w1.alloc (.cells #[.int .u8 7, .int .u8 8, .int .u8 9] 5) = X := ⟨_, rfl⟩
  obtain ⟨t1, ht1⟩ : ∃ t, w1.heap.size = t := ⟨_, rfl⟩
  have oX1 : Out 0 0 w1 X1 := by rw [← hX1]; exact (Out.refl 0 0 w1).alloc _
  have bX1 : Bl X1 t1 #[.int .u8 7, .int .u8 8, .int .u8 9] 5 := by rw [← hX1, ← ht1]; exact Bl.new _ _ _
  have oA := o1.trans oX1
  obtain ⟨g, c2, w2, hr2, q1, q2, q3⟩ := mk_apR (m := 3) (c := 3) (zs := [.int .u8 7, .int .u8 8, .int .u8 9]) Tryd.underlying22 info_u8 rfl (by decide) (by decide) (own_fx (S := fun _ => False) g1 (Fx.of_out oX1) (fun _ _ q => q)) oA.size bX1 rfl (by intro u hu; simp at hu; rcases hu with rfl | rfl | rfl <;> rfl) (by omega) (by decide) (by decide) 22
  obtain ⟨L, hL⟩ : ∃ L, nb + 3 = L := ⟨_, rfl⟩
  rw [hL] at hr2 q1
  have ow2 : Out 0 0 w w2 := out_fx oA q2 (fun k hk => (own_ge g1 hk).1)
  have hown2 : w2.ownsRow w.heap.size 5 1 (.slice (some ⟨g, 0, none⟩) L c2) L (bvs (bs ++ [7, 8, 9])) := by rw [bvs_app]; exact q1
  have hBt := hin.1
  obtain ⟨f1, f2, f3⟩ := own_front hown2 hBt hnb hL
  have hge : w.heap.size ≤ g ∧ g < w2.heap.size := own_ge hown2 rfl
  have hsl := slice_to2 (T := 22) und_bs elem_bs info_u8 g L c2 nb f2
  have HRd := hid_mk (read_ans (w := w2) (hT.out ow2 (.inr rfl)) (Nat.le_refl _) f1 hnb f2)
  have HR1 := hid_mk hr1
  have HR2 := hid_mk hr2
  have H0 := hid_mk (And.intro hT (And.intro hB (And.intro hin (And.intro hnb (And.intro hcb (And.intro hmax (And.intro hlo (And.intro hnp (And.intro hK (And.intro hQ (And.intro hX hls)))))))))))
  have H2 := hid_mk (And.intro ow2 (And.intro hown2 (And.intro hge hL)))
  clear hT hB hin hnb hcb hmax hlo hnp hK hQ hX hls hr1 g1 o1 oX1 bX1 oA hr2 q1 q2 q3 ow2 hown2 hBt f1 f2 f3 hge hL
  go_enter Tryd.func6, Tryd.ntmps6
  go_upto_region 2 with (first | (at_builtin; refine app_st rfl _ _ _ _ rfl rfl rfl HR1.out ?_) | (at_builtin; refine app_st rfl _ _ _ _ rfl rfl rfl HR2.out ?_))
  clear HR1 HR2 hX1 ht1
  go_wp2_with fail
  refine HRd.out.mono ?_
  clear HRd
  rintro e w3 ⟨o3, p, rfl, hgp, hpw, hok, hap⟩
  obtain ⟨zP, zq, ze, hz⟩ : ∃ a b c, rdV nb bs = (a, b, c) := ⟨_, _, _, rfl⟩
  rw [hz] at hgp ⊢
  obtain ⟨x, hx⟩ : ∃ x, gX p = x := ⟨_, rfl⟩
  obtain ⟨ta, nt, tc, hgT, hnt, hta⟩ : ∃ ta nt tc, gT p = .slice ta nt tc ∧ (gTs p).length = nt ∧ p.2.1.1 = ta := ⟨_, _, _, rfl, rfl, rfl⟩
  obtain ⟨fa, nf, fc, hgF, hnf, hfa⟩ : ∃ fa nf fc, gF p = .slice fa nf fc ∧ (gFs p).length = nf ∧ p.2.2.1.1 = fa := ⟨_, _, _, rfl, rfl, rfl⟩
  rw [hx, hgT, hgF]
  dsimp only at hgp ⊢
  obtain ⟨b6, hb6⟩ : ∃ b, w3.heap.size = b := ⟨_, rfl⟩
  obtain ⟨W3, hW3⟩ : ∃ W, w3.alloc (.cells #[.int .i64 x, .slice ta nt tc, .slice fa nf fc] 35) = W := ⟨_, rfl⟩
  have oW3 : Out 0 0 w3 W3 := by rw [← hW3]; exact (Out.refl 0 0 w3).alloc _
  have B6 : Bl W3 b6 #[.int .i64 x, .slice ta nt tc, .slice fa nf fc] 35 := by rw [← hW3, ← hb6]; exact Bl.new _ _ _
  obtain ⟨hT, hB, hin, hnb, hcb, hmax, hlo, hnp, hK, hQ, hX, hls⟩ := H0.out
  have ow3 := (H2.out.1.trans o3).trans oW3
  have HRr := hid_mk (rread_ans (w := W3) (Nat.le_trans hB ow3.size) (hin.kept (Lo.of_out ow3) (Nat.le_refl _)) hnb hcb)
  have HZ := hid_mk hz
  have H3 := hid_mk (And.intro ow3 (And.intro (o3.trans oW3) (And.intro hgp (And.intro (hpw.quiet oW3) (And.intro hok (And.intro (hap rfl) (And.intro B6 (And.intro (by rw [← hb6]; exact o3.size : w2.heap.size ≤ b6) (And.intro hx (And.intro hgT (And.intro hgF (And.intro hnt (And.intro hnf (And.intro hta hfa))))))))))))))
  clear o3 hgp hpw hok hap hz hx hgT hnt hta hgF hnf hfa oW3 B6 hT hB hin hnb hcb hmax hlo hnp hK hQ hX hls ow3 hsl
  go_wp2_with fail
  (try rw [hW3])
  (try rw [hb6])
  clear hW3 hb6
  refine HRr.out.mono ?_
  clear HRr
  rintro e w4 ⟨o4, q, rfl, hgq, hqw, hokq, -⟩
  rw [HZ.out] at hgq ⊢
  obtain ⟨y, hy⟩ : ∃ y, gX q = y := ⟨_, rfl⟩
  obtain ⟨ua, nu, uc, hhT, hnu, hua⟩ : ∃ ta nt tc, gT q = .slice ta nt tc ∧ (gTs q).length = nt ∧ q.2.1.1 = ta := ⟨_, _, _, rfl, rfl, rfl⟩
  obtain ⟨va, nv, vc, hhF, hnv, hva⟩ : ∃ fa nf fc, gF q = .slice fa nf fc ∧ (gFs q).length = nf ∧ q.2.2.1.1 = fa := ⟨_, _, _, rfl, rfl, rfl⟩
  rw [hy, hhT, hhF]
  dsimp only at hgq ⊢
  obtain ⟨b9, hb9⟩ : ∃ b, w4.heap.size = b := ⟨_, rfl⟩
  obtain ⟨W4, hW4⟩ : ∃ W, w4.alloc (.cells #[.int .i64 y, .slice ua nu uc, .slice va nv vc] 35) = W := ⟨_, rfl⟩
  have oW4 : Out 0 0 w4 W4 := by rw [← hW4]; exact (Out.refl 0 0 w4).alloc _
  have B9 : Bl W4 b9 #[.int .i64 y, .slice ua nu uc, .slice va nv vc] 35 := by rw [← hW4, ← hb9]; exact Bl.new _ _ _
  obtain ⟨ow3, ow23, hgp, hpw, hok, hap, B6, hb6, hx, hgT, hgF, hnt, hnf, hta, hfa⟩ := H3.out
  have o34 := o4.trans oW4
  have ow4 := ow3.trans o34
  have hpw4 := hpw.quiet o34
  have hqw4 := hqw.quiet oW4
  have hpq : gP p = gP q := hgp.trans hgq.symm
  obtain ⟨hT, hB, hin, hnb, hcb, hmax, hlo, hnp, hK, hQ, hX, hls⟩ := H0.out
  have HSm := hid_mk (same_any (w := W4) (B := W4.heap.size) x y (gTs p) (gTs q) (gFs p) (gFs q) ta ua fa va nt nu nf nv tc uc fc vc hnt hnu hnf hnv (by rw [← hta]; exact hpw4.tx) (by rw [← hua]; exact hqw4.tx) (by rw [← hfa]; exact hpw4.fn) (by rw [← hva]; exact hqw4.fn) ⟨by have := hok.1; omega, by have := hok.2.1; omega, fun f hf => by have := hok.2.2.2 f hf; omega⟩)
  have HEq : Hid ((x, gTs p, gFs p) = (y, gTs q, gFs q)) := hid_mk (by rw [← hx, ← hy]; exact hpq)
  have B64 := B6.kept o34 (.inr (Nat.zero_le _))
  have k0 := B64.cell (i := 0) rfl
  have k1 := B64.cell (i := 1) rfl
  have k2 := B64.cell (i := 2) rfl
  have j0 := B9.cell (i := 0) rfl
  have j1 := B9.cell (i := 1) rfl
  have j2 := B9.cell (i := 2) rfl
  have H4 := hid_mk (And.intro ow4 (And.intro (ow23.trans o34) (And.intro hpw4 (And.intro hqw4 (And.intro hpq (And.intro hok (And.intro hap (And.intro B64 (And.intro B9 (And.intro hb6 (And.intro (by rw [← hb9]; exact o4.size : W3.heap.size ≤ b9) (And.intro (⟨hx, hgT, hgF⟩ : gX p = x ∧ gT p = .slice ta nt tc ∧ gF p = .slice fa nf fc) (And.intro (⟨hy, hhT, hhF⟩ : gX q = y ∧ gT q = .slice ua nu uc ∧ gF q = .slice va nv vc) (And.intro ow3.size B6.lt))))))))))))))
  clear ow3 ow23 hgp hpw hok hap B6 hb6 hx hgT hgF hnt hnf hta hfa o4 hgq hqw hokq hy hhT hnu hua hhF hnv hva oW4 B9 o34 ow4 hpw4 hqw4 hpq hT hB hin hnb hcb hmax hlo hnp hK hQ hX hls B64 H3
  go_wp2_with fail
  (try rw [hW4])
  (try rw [hb9])
  clear hW4 hb9
  refine HSm.out.mono ?_
  clear HSm
  rintro e w5 ⟨⟨bb, rfl, hbb⟩, o5⟩
  obtain rfl : bb = true := hbb.2 HEq.out
  obtain ⟨hT, hB, hin, hnb, hcb, hmax, hlo, hnp, hK, hQ, hX, hls⟩ := H0.out
  obtain ⟨ow2, hown2, hge, hL⟩ := H2.out
  obtain ⟨ow4, ow24, hpw4, hqw4, hpq, hok, hap, B6, B9, hb6, hb9, ⟨hx, hgT, hgF⟩, ⟨hy, hhT, hhF⟩, hs3, hl6⟩ := H4.out
  have ow5 := ow4.trans o5
  have o25 := ow24.trans o5
  have hown5 := own_fx (S := fun _ => False) hown2 (Fx.of_out o25) (fun _ _ q => q)
  obtain ⟨st, hst⟩ : ∃ st, strOfNums (bs ++ [7, 8, 9]) = st := ⟨_, rfl⟩
  have e1 := conv_bytes (w := w5) (c := c2) (n := L) (own_front hown5 hin.1 hnb hL).2.2 (by rw [List.length_append, hnb]; exact hL)
  have e2 := conv_bytes (w := w5) (c := cb) (hin.kept (C := B) (Lo.of_out ow5) (Nat.le_refl _)).bytes hnb
  have e3 := add_789 bs (by omega)
  rw [hst] at e1 e3
  obtain ⟨sb, hsb⟩ : ∃ sb, strOfNums bs = sb := ⟨_, rfl⟩
  rw [hsb] at e2 e3
  have B65 := B6.kept o5 (.inr (Nat.zero_le _))
  have B95 := B9.kept o5 (.inr (Nat.zero_le _))
  have hsz : w.heap.size ≤ w2.heap.size := ow2.size
  have HPr := hid_mk (kprog_any (w := w5) (N := w2.heap.size) x y ta fa ua va nt tc nf fc nu uc nv vc hx hgT hgF hy hhT hhF (Nat.le_trans hlo ow5.size) hnp.1 (hK.quiet ow5) (hQ.quiet ow5) ((hpw4.quiet o5).low (Nat.le_trans hlo hsz)) hok hap ((hqw4.quiet o5).low (Nat.le_trans hlo hs3)) hpq (fun k hk => Nat.lt_of_lt_of_le (hQ.qb (.inl hk)).2 hsz) (fun k hk => (hpw4.ty hk).1))
  replace k0 := B65.cell (i := 0) rfl
  replace k1 := B65.cell (i := 1) rfl
  replace k2 := B65.cell (i := 2) rfl
  replace j0 := B95.cell (i := 0) rfl
  replace j1 := B95.cell (i := 1) rfl
  replace j2 := B95.cell (i := 2) rfl
  have hKX := hX.push (N := w.heap.size) (bk := bk) (wvs := wvs) (p := p) (q := q) (fun k hk => (hK.kb hk).1) (fun k hk => Nat.le_trans hsz (hpw4.ty hk).1) (fun k hk => Nat.le_trans hs3 (hqw4.ty hk).1)
  have H5 := hid_mk (And.intro ow5 (And.intro o25 (And.intro hown5 (And.intro B65 (And.intro B95 (And.intro hb6 (And.intro hb9 (And.intro hs3 (And.intro hl6 (And.intro hKX (And.intro (fun k hk => (hpw4.ty hk).1 : ∀ k, PB p k → w2.heap.size ≤ k) (fun k hk => (hqw4.ty hk).1 : ∀ k, PB q k → W3.heap.size ≤ k))))))))))))
  clear hbb o5 hT hB hin hnb hcb hmax hlo hnp hK hQ hX hls ow2 hown2 hge hL ow4 ow24 hpw4 hqw4 hpq hok hap B6 B9 hb6 hb9 hx hgT hgF hy hhT hhF hs3 hl6 ow5 o25 hown5 hst hsb B65 B95 hsz hKX H4 HEq
  go_wp2_with fail
  refine HPr.out.mono ?_
  clear HPr e1 e2 e3 k0 k1 k2 j0 j1 j2
  rintro e w6 ⟨rfl, x6, pa', pk', sa', sk', hK6, hQ6, fP, fS⟩
  obtain ⟨hT, hB, hin, hnb, hcb, hmax, hlo, hnp, hK, hQ, hX, hls⟩ := H0.out
  obtain ⟨ow2, hown2, hge, hL⟩ := H2.out
  obtain ⟨ow5, o25, hown5, B65, B95, hb6, hb9, hs3, hl6, hKX, hpB, hqB⟩ := H5.out
  have hSlt : ∀ k, (k = bk ∨ (Value.slice pa np pk).ownBlock = some k ∨ (Value.slice sa np sk).ownBlock = some k) → k < w.heap.size ∧ (lo ≤ k ∨ k = bk) := by
    intro k hk
    rcases hk with rfl | hk | hk
    · exact ⟨hK.1.lt, .inr rfl⟩
    · have := own_ge hQ.1 hk; exact ⟨this.2, .inl this.1⟩
    · have := own_ge hQ.2.1 hk; exact ⟨this.2, .inl this.1⟩
  have hown6 := own_fx hown5 x6 (fun k hk e => by cases hk; have := (hSlt g e).1; omega)
  have hbl := hK.2.2.2.2.2
  have B66 := B65.fx x6 (fun e => by have := (hSlt _ e).1; have := ow2.size; omega)
  have B96 := B95.fx x6 (fun e => by have := (hSlt _ e).1; omega)
  have X6 : Fx (fun k => lo ≤ k ∨ k = bk) w w6 := (Fx.of_out ow5).trans (x6.wide fun k _ hk => (hSlt k hk).2)
  have L6 : Lo B w w6 := (Fx.of_out ow5).trans (x6.wide fun k _ hk => by have := (hSlt k hk).2; omega)
  have hl9 : b9 < w5.heap.size := B95.lt
  have hfar : ∀ k, (k = g ∨ k = b6 ∨ k = b9) → w.heap.size ≤ k ∧ k < w5.heap.size ∧ ¬ PB p k ∧ ¬ PB q k := by
    intro k hk
    have h1 := ow2.size
    have h2 := B65.lt
    have h3 := o25.size
    have hty : ∀ {cs : Array Value} {r : (Int × (Option Addr × Nat) × (Option Addr × Nat) × List Value × List Value × List (List Int) × List (Int × Int × Int × List (Int × Int)))}, Bl w6 k cs 35 → (∃ (i : Nat), (Ps ++ [p])[i]? = some r ∨ (Qs ++ [q])[i]? = some r) → ¬ PB r k := by
      intro cs r hb ⟨i, hr⟩ hpb
      have hw : PW w6 lo r := by
        rcases hr with hr | hr
        · exact (hQ6.2.2.2.1 i r hr).1
        · exact hQ6.2.2.2.2.1 i r hr
      obtain ⟨-, -, cs2, E, b1, b2⟩ := hw.ty hpb
      have hb' : w6.heap[k]? = some (.cells cs 35 (0, 0)) := hb
      have b1' : w6.heap[k]? = some (.cells cs2 E (0, 0)) := b1
      rw [hb'] at b1'
      cases b1'
      rcases b2 with ⟨-, e⟩ | ⟨-, e⟩ | ⟨-, e⟩ | ⟨-, e⟩ <;> exact absurd e (by decide)
    have hlp : (Ps ++ [p])[np]? = some p := by rw [List.getElem?_append_right (by have := hQ.len; omega), hQ.len.1, Nat.sub_self]; rfl
    have hlq : (Qs ++ [q])[np]? = some q := by rw [List.getElem?_append_right (by have := hQ.len; omega), hQ.len.2, Nat.sub_self]; rfl
    rcases hk with rfl | rfl | rfl
    · exact ⟨hge.1, by omega, fun h => by have := hpB _ h; omega, fun h => by have := hqB _ h; omega⟩
    · exact ⟨by omega, h2, hty B66 ⟨np, .inl hlp⟩, hty B66 ⟨np, .inr hlq⟩⟩
    · exact ⟨by omega, hl9, hty B96 ⟨np, .inl hlp⟩, hty B96 ⟨np, .inr hlq⟩⟩
  have HFin : Hid (∀ w', Fx (fun k => k = g ∨ k = b6 ∨ k = b9) w6 w' → Fx (fun k => lo ≤ k ∨ k = bk) w w' ∧ KP w' lo bk n (np + 1)) := hid_mk (by
    intro w' x
    refine ⟨X6.trans (x.wide fun k _ hk => .inl (Nat.le_trans hlo (hfar k hk).1)), ra, rk, wa, wk, rvs, wvs, ls, pa', pk', sa', sk', Ps ++ [p], Qs ++ [q], hK6.fxB x (fun k hk e => ?_), hQ6.fx x (fun k hk e => ?_) (fun k hk e => ?_) (fun k hk e => ?_) (fun k hk e => ?_), hKX, hls⟩
    · have := (hK.kb hk).1; have := (hfar k e).1; omega
    · rcases fP k hk with h | h
      · have := (own_ge hQ.1 h).2; have := (hfar k e).1; omega
      · have := (hfar k e).2.1; omega
    · rcases fS k hk with h | h
      · have := (own_ge hQ.2.1 h).2; have := (hfar k e).1; omega
      · have := (hfar k e).2.1; omega
    · rcases qb_app hk with h | h
      · have := (hQ.qb (.inl h)).2; have := (hfar k e).1; omega
      · exact (hfar k e).2.2.1 h
    · rcases qb_app hk with h | h
      · have := (hQ.qb (.inr h)).2; have := (hfar k e).1; omega
      · exact (hfar k e).2.2.2 h)
  have H6 : Hid (w6.ownsRow w.heap.size 5 1 (.slice (some ⟨g, 0, none⟩) L c2) L (bvs (bs ++ [7, 8, 9])) ∧ Bl w6 b6 #[.int .i64 x, .slice ta nt tc, .slice fa nf fc] 35 ∧ Bl w6 b9 #[.int .i64 y, .slice ua nu uc, .slice va nv vc] 35 ∧ Ty w6 ∧ Byt bs ∧ bs.length = nb ∧ nb + 3 = L ∧ nb ≤ 300000 ∧ g ≠ b6 ∧ g ≠ b9 ∧ b6 ≠ b9 ∧ 1 ≤ g) := hid_mk ⟨hown6, B66, B96, hT.lo L6 hnp.2.2, hin.1, hnb, hL, hmax, by have := hge.2; omega, by have := hge.2; omega, by omega, by have := hge.1; have := hT.lt; omega⟩
  clear x6 hK6 hQ6 fP fS hT hB hin hnb hcb hmax hlo hnp hK hQ hX hls ow2 hown2 hge hL ow5 o25 hown5 B65 B95 hb6 hb9 hs3 hl6 hKX hpB hqB hSlt hown6 hbl B66 B96 X6 L6 hl9 hfar H0 H2 H5
  go_wp2
  go_loopw [12] (fun iv W => ∃ (i : Nat) (t : List Int), iv = .int .i64 i ∧ 4 ≤ i ∧ (i ≤ nb ∨ i = 4) ∧ Byt t ∧ t.length = nb ∧ W.ownsRow w.heap.size 5 1 (.slice (some ⟨g, 0, none⟩) L c2) L (bvs (t ++ [7, 8, 9])) ∧ Fx (fun k => k = g) w6 W) (fun iv _ => nb - (intOf iv).toNat)
  case atStart => exact ⟨4, bs, rfl, Nat.le_refl _, .inr rfl, H6.out.2.2.2.2.1, H6.out.2.2.2.2.2.1, H6.out.1, Fx.refl _ _⟩
  case round =>
    obtain ⟨i, t, rfl, h4, hi, hBt, htl, hown, hFx⟩ := hrel
    by_cases hgo : i < nb
    · obtain ⟨l1, l2⟩ := lt_d hgo
      obtain ⟨y8, hy1, hy2, hy3⟩ := and_1Y i
      obtain ⟨u, hu⟩ : ∃ u, (bvs (t ++ [7, 8, 9]))[i]? = some u := ⟨_, List.getElem?_eq_getElem (by rw [bvs_len, List.length_append]; omega)⟩
      have s0 := own_at hown hu
      have z0 := own_frozen hown i
      have hL := H6.out.2.2.2.2.2.2.1
      have lmi : (i : Int) < (L : Int) := by omega
      have o6 := own_put hown i (.int .u8 y8)
      have e6 : (bvs (t ++ [7, 8, 9])).set i (.int .u8 y8) = bvs (t.set i y8 ++ [7, 8, 9]) := by
        rw [show t.set i y8 ++ [7, 8, 9] = (t ++ [7, 8, 9]).set i y8 by rw [List.set_append_left _ _ (by omega)]]
        unfold bvs
        rw [List.map_set]
      rw [e6] at o6
      have HE4 := hid_mk h4
      have HE := hid_mk (And.intro hgo (And.intro H6.out.2.2.2.2.2.2.2.1 (And.intro (byt_set (i := i) hBt hy2) (And.intro (by rw [List.length_set]; exact htl : (t.set i y8).length = nb) (And.intro o6 (hFx.set (p := ⟨g, i, none⟩) (.inl rfl) (.int .u8 y8)))))))
      clear h4 hi hBt htl hown hFx hgo hu hL o6 e6 hy2
      go_wp2
      exact ⟨⟨i + 1, _, up_V HE.out.1 (by have := HE.out; omega), by have := HE4.out; omega, .inl HE.out.1, HE.out.2.2⟩, by rw [up_W HE.out.1 (by have := HE.out; omega)]; exact ms_N HE.out.1⟩
    · have l1 : decide ((i : Int) < (nb : Int)) = false := by simp; omega
      have l2 : decide (i < nb) = false := by simp; omega
      obtain ⟨-, B6, B9, hT6, -, -, hL, hmax, hn1, hn2, hn3, hg0⟩ := H6.out
      have B61 := B6.fx hFx (fun e => hn1 e.symm)
      have B91 := B9.fx hFx (fun e => hn2 e.symm)
      obtain ⟨f1, f2, f3⟩ := own_front hown hBt htl hL
      have hsl := slice_to2 (T := 22) und_bs elem_bs info_u8 g L c2 nb f2
      have hT1 : Ty wr := hT6.lo (B := 1) (hFx.wide fun k _ hk => by subst hk; exact hg0) (Nat.le_refl _)
      have HRd := hid_mk (read_ans (w := wr) hT1 (Nat.le_refl _) f1 htl f2)
      have H7 := hid_mk (And.intro hBt (And.intro htl (And.intro hown (And.intro hFx (And.intro B61 B91)))))
      clear h4 hi hBt htl hown hFx hgo B6 B9 hT6 hL hmax hn1 hn2 hn3 hg0 B61 B91 f1 f2 f3 hT1
      go_wp2_with fail
      refine HRd.out.mono ?_
      clear HRd
      rintro e w8 ⟨o8, p2, rfl, hgp, hpw, hok, -⟩
      obtain ⟨zP2, zq2, ze2, hz⟩ : ∃ a b c, rdV nb t = (a, b, c) := ⟨_, _, _, rfl⟩
      rw [hz] at hgp ⊢
      obtain ⟨x2, hx⟩ : ∃ x, gX p2 = x := ⟨_, rfl⟩
      obtain ⟨ta2, nt2, tc2, hgT, hnt, hta⟩ : ∃ ta nt tc, gT p2 = .slice ta nt tc ∧ (gTs p2).length = nt ∧ p2.2.1.1 = ta := ⟨_, _, _, rfl, rfl, rfl⟩
      obtain ⟨fa2, nf2, fc2, hgF, hnf, hfa⟩ : ∃ fa nf fc, gF p2 = .slice fa nf fc ∧ (gFs p2).length = nf ∧ p2.2.2.1.1 = fa := ⟨_, _, _, rfl, rfl, rfl⟩
      rw [hx, hgT, hgF]
      dsimp only at hgp ⊢
      obtain ⟨hBt, htl, hown, hFx, B61, B91⟩ := H7.out
      have B68 := B61.kept o8 (.inr (Nat.zero_le _))
      have B98 := B91.kept o8 (.inr (Nat.zero_le _))
      have y0 := B68.cell (i := 0) rfl
      have y1 := B68.cell (i := 1) rfl
      have y2 := B68.cell (i := 2) rfl
      have z0 := B68.frozen 0
      have z1 := B68.frozen 1
      have z2 := B68.frozen 2
      have Bp := ((B68.set 0 (.int .i64 x2)).set 1 (.slice ta2 nt2 tc2)).set 2 (.slice fa2 nf2 fc2)
      obtain ⟨W8, hW8⟩ : ∃ W, ((w8.setCell ⟨b6, 0, none⟩ (.int .i64 x2)).setCell ⟨b6, 1, none⟩ (.slice ta2 nt2 tc2)).setCell ⟨b6, 2, none⟩ (.slice fa2 nf2 fc2) = W := ⟨_, rfl⟩
      have xs8 : Fx (fun k => k = b6) w8 W8 := by rw [← hW8]; exact (((Fx.refl (fun k => k = b6) w8).set (p := ⟨b6, 0, none⟩) (.inl rfl) _).set (p := ⟨b6, 1, none⟩) (.inl rfl) _).set (p := ⟨b6, 2, none⟩) (.inl rfl) _
      rw [hW8] at Bp
      have Bp' : Bl W8 b6 #[.int .i64 x2, .slice ta2 nt2 tc2, .slice fa2 nf2 fc2] 35 := Bp
      obtain ⟨-, -, -, -, -, -, hL, hmax, hn1, hn2, hn3, -⟩ := H6.out
      have own8 := own_fx (own_fx (S := fun _ => False) hown (Fx.of_out o8) (fun _ _ q => q)) xs8 (fun k hk e => by cases hk; exact hn1 e)
      obtain ⟨f1, f2, f3⟩ := own_front own8 hBt htl hL
      have hsl := slice_to2 (T := 22) und_bs elem_bs info_u8 g L c2 nb f2
      have hl6 := B61.lt
      have hpw8 : PW W8 wr.heap.size p2 := hpw.fx xs8 (fun k hk e => by have := (hpw.ty hk).1; omega)
      have B98' := B98.fx xs8 (fun e => hn3 e.symm)
      obtain ⟨a9, c9, w9, hr9, g9, o9⟩ := cp_at (w := W8) (c := c2) Tryd.underlying22 info_u8 rfl (by decide) (by decide) (by_src f1 htl) (by rw [bvs_len, htl, Nat.mul_one]) bvs_one (by omega) 22
      have HR9 := hid_mk hr9
      have i9 := own_by (w := W8) hBt g9
      have HRr := hid_mk (rread_ans (w := w9) (Nat.le_refl _) i9.1 htl i9.2)
      have HZ2 := hid_mk hz
      have H8 := hid_mk (And.intro hgp (And.intro (hpw8.quiet o9) (And.intro hok (And.intro (Bp'.kept o9 (.inr (Nat.zero_le _))) (And.intro (B98'.kept o9 (.inr (Nat.zero_le _))) (And.intro ((((hFx.wide fun k _ hk => .inl hk : Fx (fun k => k = g ∨ k = b6 ∨ k = b9) w6 wr).trans (Fx.of_out o8)).trans (xs8.wide fun k _ hk => .inr (.inl hk))).trans (Fx.of_out o9)) (And.intro hx (And.intro hgT (And.intro hgF (And.intro hnt (And.intro hnf (And.intro hta hfa))))))))))))
      clear o8 hgp hpw hok hz hx hgT hnt hta hgF hnf hfa hBt htl hown hFx B61 B91 B68 B98 Bp Bp' xs8 hL hmax hn1 hn2 hn3 own8 f1 f2 f3 hl6 hpw8 B98' hr9 g9 o9 i9 H7
      go_upto_region 12 with fail
      (try rw [hW8])
      clear hW8 y0 y1 y2 z0 z1 z2
      go_wp2_with (first | (at_builtin; refine app_st rfl _ _ _ _ rfl rfl rfl HR9.out ?_) | fail)
      refine HRr.out.mono ?_
      clear HRr HR9
      rintro e w10 ⟨o10, q2, rfl, hgq, hqw, hokq, -⟩
      rw [HZ2.out] at hgq ⊢
      obtain ⟨y2, hy⟩ : ∃ y, gX q2 = y := ⟨_, rfl⟩
      obtain ⟨ua2, nu2, uc2, hhT, hnu, hua⟩ : ∃ ta nt tc, gT q2 = .slice ta nt tc ∧ (gTs q2).length = nt ∧ q2.2.1.1 = ta := ⟨_, _, _, rfl, rfl, rfl⟩
      obtain ⟨va2, nv2, vc2, hhF, hnv, hva⟩ : ∃ fa nf fc, gF q2 = .slice fa nf fc ∧ (gFs q2).length = nf ∧ q2.2.2.1.1 = fa := ⟨_, _, _, rfl, rfl, rfl⟩
      rw [hy, hhT, hhF]
      dsimp only at hgq ⊢
      obtain ⟨hgp, hpw, hok, B6, B9, xF, hx, hgT, hgF, hnt, hnf, hta, hfa⟩ := H8.out
      obtain ⟨-, -, -, -, -, -, hL, hmax, hn1, hn2, hn3, -⟩ := H6.out
      have B60 := B6.kept o10 (.inr (Nat.zero_le _))
      have B90 := B9.kept o10 (.inr (Nat.zero_le _))
      have c0 := B90.cell (i := 0) rfl
      have c1 := B90.cell (i := 1) rfl
      have c3 := B90.cell (i := 2) rfl
      have z0 := B90.frozen 0
      have z1 := B90.frozen 1
      have z2 := B90.frozen 2
      have Bq := ((B90.set 0 (.int .i64 y2)).set 1 (.slice ua2 nu2 uc2)).set 2 (.slice va2 nv2 vc2)
      obtain ⟨W10, hW10⟩ : ∃ W, ((w10.setCell ⟨b9, 0, none⟩ (.int .i64 y2)).setCell ⟨b9, 1, none⟩ (.slice ua2 nu2 uc2)).setCell ⟨b9, 2, none⟩ (.slice va2 nv2 vc2) = W := ⟨_, rfl⟩
      have xs10 : Fx (fun k => k = b9) w10 W10 := by rw [← hW10]; exact (((Fx.refl (fun k => k = b9) w10).set (p := ⟨b9, 0, none⟩) (.inl rfl) _).set (p := ⟨b9, 1, none⟩) (.inl rfl) _).set (p := ⟨b9, 2, none⟩) (.inl rfl) _
      rw [hW10] at Bq
      have Bq' : Bl W10 b9 #[.int .i64 y2, .slice ua2 nu2 uc2, .slice va2 nv2 vc2] 35 := Bq
      have B6' := B60.fx xs10 hn3
      have hpt9 : ∀ k, k = b9 → ∃ cs, Bl w10 k cs 35 := fun k hk => by subst hk; exact ⟨_, B90⟩
      have hpw10 := pw_pt (hpw.quiet o10) xs10 hpt9
      have hqw10 := pw_pt hqw xs10 hpt9
      have hpq : gP p2 = gP q2 := hgp.trans hgq.symm
      have k0 := B6'.cell (i := 0) rfl
      have k1 := B6'.cell (i := 1) rfl
      have k2 := B6'.cell (i := 2) rfl
      have j0 := Bq'.cell (i := 0) rfl
      have j1 := Bq'.cell (i := 1) rfl
      have j2 := Bq'.cell (i := 2) rfl
      have HSm := hid_mk (same_any (w := W10) (B := W10.heap.size) x2 y2 (gTs p2) (gTs q2) (gFs p2) (gFs q2) ta2 ua2 fa2 va2 nt2 nu2 nf2 nv2 tc2 uc2 fc2 vc2 hnt hnu hnf hnv (by rw [← hta]; exact hpw10.tx) (by rw [← hua]; exact hqw10.tx) (by rw [← hfa]; exact hpw10.fn) (by rw [← hva]; exact hqw10.fn) ⟨by have := hok.1; omega, by have := hok.2.1; omega, fun f hf => by have := hok.2.2.2 f hf; omega⟩)
      have HEq : Hid ((x2, gTs p2, gFs p2) = (y2, gTs q2, gFs q2)) := hid_mk (by rw [← hx, ← hy]; exact hpq)
      have HXF := hid_mk ((xF.trans (Fx.of_out o10)).trans (xs10.wide fun k _ hk => .inr (.inr hk)))
      clear hgp hpw hok B6 B9 xF hx hgT hgF hnt hnf hta hfa hL hmax hn1 hn2 hn3 o10 hgq hqw hokq hy hhT hnu hua hhF hnv hva B60 B90 Bq Bq' xs10 B6' hpt9 hpw10 hqw10 hpq H8 H6
      go_upto_region 13 with fail
      (try rw [hW10])
      clear hW10 c0 c1 c3 z0 z1 z2
      go_wp2_with (go_at_call 13; refine HSm.out.mono ?_; rintro e w11 ⟨⟨bb, rfl, hbb⟩, o11⟩; obtain rfl : bb = true := hbb.2 HEq.out; have HO11 := hid_mk o11; clear hbb o11 HEq)
      go_ret
      exact ⟨rfl, HFin.out _ (HXF.out.trans (Fx.of_out HO11.out))⟩
end Go.Proofs.YtapjfokkcgdhhaaDoor
