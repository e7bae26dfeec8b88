import Derived.Test.YtkghabmgofgclaaDoorQbg
import Derived.Test.YtkghabmgofgclaaDoorQbd
import Derived.Test.YtkghabmgofgclaaDoorQaq
namespace Go.Proofs.YtkghabmgofgclaaDoor
open Go.RowKit
set_option linter.unusedVariables false
set_option linter.unusedSimpArgs false

theorem kc_start {w : World} {bk : Nat} (h : Bl w bk #[.slice none 0 0, .slice none 0 0] 46) : KC w (bk + 1) bk none 0 none 0 [] [] :=
  ⟨h, World.ownsRow_nil _ _ _ 2, World.ownsRow_nil _ _ _ 2, (fun A hA => by cases hA), (fun A hA => by cases hA), (fun i j A B k hij q => by simp at q), (fun k hk => by cases hk), Nat.lt_succ_self _⟩
set_option maxRecDepth 100000 in
set_option maxHeartbeats 4000000 in
theorem checktells_any {w : World} (hT : Ty w) (x : Int) (ts : List (List Int)) (fs : List (Int × Int × Int × List (Int × Int))) (ta fa : Option Addr) (nt tc nf fc : Nat) (hnt : ts.length = nt) (hnf : fs.length = nf) (hts : TxIn w w.heap.size ta ts) (hfs : FnIn w w.heap.size fa fs) (hM : ∀ f ∈ fs, MI f.2.2.2) (h1 : Lim nt) (h2 : Lim nf) (h3 : ∀ t ∈ ts, Lim t.length) (h4 : ∀ f ∈ fs, Lim f.2.2.2.length) :
    Calls Tryd.prog 6 #[.agg #[.int .i64 x, .slice ta nt tc, .slice fa nf fc]] w fun e w' => e = .returned (.bool true) ∧ Out 0 0 w w' := by
  obtain ⟨b, hb⟩ : ∃ b, w.heap.size = b := ⟨_, rfl⟩
  have oV : Out 0 0 w (w.alloc (.cells #[.int .i64 x, .slice ta nt tc, .slice fa nf fc] 25)) := (Out.refl 0 0 w).alloc _
  have bV := Bl.new w #[.int .i64 x, .slice ta nt tc, .slice fa nf fc] 25
  rw [hb] at bV
  obtain ⟨V, hV⟩ : ∃ V, w.alloc (.cells #[.int .i64 x, .slice ta nt tc, .slice fa nf fc] 25) = V := ⟨_, rfl⟩
  rw [hV] at oV bV
  have k0 := bV.cell (i := 0) rfl
  have k1 := bV.cell (i := 1) rfl
  have k2 := bV.cell (i := 2) rfl
  have HFt := hid_mk (fitsW_any (w := V) x ts fs ta fa nt nf tc fc hnt hnf (hts.kept (Lo.of_out oV) (Nat.le_refl _)) (hfs.kept (Lo.of_out oV) (Nat.le_refl _)) h1 h2 h3 h4)
  have HH := hid_mk (And.intro hnt (And.intro hnf (And.intro hts (And.intro hfs (And.intro hM hT)))))
  have HV : Hid (Out 0 0 w V ∧ Bl V b #[.int .i64 x, .slice ta nt tc, .slice fa nf fc] 25 ∧ w.heap.size = b) := hid_mk ⟨oV, bV, hb⟩
  clear hnt hnf hts hfs hM hT h1 h2 h3 h4 oV bV
  go_enter Tryd.func6, Tryd.ntmps6
  go_wp2_with fail
  (try rw [hV])
  (try rw [hb])
  clear hV hb
  refine HFt.out.mono ?_
  clear HFt
  rintro e w1 ⟨⟨fb, rfl, hfb⟩, o1⟩
  have HO1 := hid_mk (HV.out.1.trans o1)
  have HB1 := hid_mk (HV.out.2.1.kept o1 (.inr (Nat.zero_le _)))
  cases fb with
  | false =>
    clear hfb o1 k0 k1 k2
    go_wp2_with (go_at_call 14; refine (alive_any (HH.out.2.2.2.2.2.out HO1.out (.inr rfl))).mono ?_; rintro e w2 ⟨rfl, o2⟩; have HO2 := hid_mk (HO1.out.trans o2); clear o2)
    go_ret
    exact ⟨rfl, HO2.out⟩
  | true =>
    obtain ⟨p1, p2, p3⟩ := hfb rfl
    obtain ⟨hnt, hnf, hts, hfs, hM, hT⟩ := HH.out
    have HP : Hid (PlQ ts fs) := hid_mk ⟨by rw [hnt, hnf]; omega, fun f hf => by have := p2 f hf; omega, fun t ht => by have := p3 t ht; omega, hM⟩
    obtain ⟨bk, hbk⟩ : ∃ bk, w1.heap.size = bk := ⟨_, rfl⟩
    obtain ⟨W1, hW1⟩ : ∃ W1, w1.alloc (.cells #[.slice none 0 0, .slice none 0 0] 46) = W1 := ⟨_, rfl⟩
    have oK : Out 0 0 w1 W1 := by rw [← hW1]; exact (Out.refl 0 0 w1).alloc _
    have bK : Bl W1 bk #[.slice none 0 0, .slice none 0 0] 46 := by rw [← hW1, ← hbk]; exact Bl.new _ _ _
    have oW := HO1.out.trans oK
    have HAl := hid_mk (alive_any (w := W1) (hT.out oW (.inr rfl)))
    have HK1 := hid_mk (And.intro (kc_start bK) (And.intro oW (And.intro bK.lt (by rw [← hbk]; exact HO1.out.size : w.heap.size ≤ bk))))
    have HBp := hid_mk (HB1.out.kept oK (.inr (Nat.zero_le _)))
    clear hfb o1 p1 p2 p3 hnt hnf hts hfs hM hT oK bK oW k0 k1 k2
    go_wp2_with fail
    (try rw [hW1])
    (try rw [hbk])
    clear hW1 hbk
    refine HAl.out.mono ?_
    clear HAl
    rintro e w2 ⟨rfl, o2⟩
    obtain ⟨hnt, hnf, hts, hfs, hM, hT⟩ := HH.out
    have ow2 := HK1.out.2.1.trans o2
    have bp := HBp.out.kept o2 (.inr (Nat.zero_le _))
    have k0 := bp.cell (i := 0) rfl
    have k1 := bp.cell (i := 1) rfl
    have k2 := bp.cell (i := 2) rfl
    have hlo2 : bk + 1 ≤ w2.heap.size := by have := HK1.out.2.2.1; have := o2.size; omega
    have HWs := hid_mk (told_any (w := w2) (B := w.heap.size) (hT.out ow2 (.inr rfl)) ow2.size x ts fs ta fa nt tc nf fc hnt hnf (hts.kept (Lo.of_out ow2) (Nat.le_refl _)) (hfs.kept (Lo.of_out ow2) (Nat.le_refl _)) HP.out hlo2 ⟨by simp, by simp, HK1.out.2.2.2, hT.lt⟩ (HK1.out.1.quiet o2))
    have HS2 : Hid (bk + 1 ≤ w2.heap.size ∧ Out 0 0 w w2 ∧ w.heap.size ≤ bk) := hid_mk ⟨hlo2, ow2, HK1.out.2.2.2⟩
    clear hnt hnf hts hfs hM hT ow2 bp hlo2 o2
    go_wp2_with fail
    refine HWs.out.mono ?_
    clear HWs k0 k1 k2
    rintro e w3 ⟨rfl, x3, ra, rk, wa, wk, A, B, hK3, hS, hD⟩
    have HAp := hid_mk (apart19_any (w := w3) (Nat.le_trans HS2.out.1 x3.size) (by simp) (by simp) hK3 (by
      intro j A' B' q1 q2
      cases j with
      | zero => simp at q1 q2; subst q1 q2; exact ⟨hS, hD⟩
      | succ j => simp at q1))
    have HX3 := hid_mk x3
    clear hK3 hS hD x3
    go_wp2_with (go_at_call 16; refine HAp.out.mono ?_; rintro e w4 ⟨rfl, x4⟩; have HX4 := hid_mk x4; clear x4)
    go_ret
    refine ⟨rfl, out_fx (out_fx HS2.out.2.1 HX3.out (fun k hk => ?_)) HX4.out (fun k hk => ?_)⟩
    · have := HS2.out.2.2; omega
    · have := HS2.out.2.2; omega
end Go.Proofs.YtkghabmgofgclaaDoor
