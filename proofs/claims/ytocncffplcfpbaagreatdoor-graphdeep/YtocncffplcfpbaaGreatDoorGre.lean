/- graph: filled, rooted where they hold -/
import Derived.Test.YtocncffplcfpbaaGreatDoorGrd
namespace Go.Proofs.YtocncffplcfpbaaGreatDoor
open Go.RowKit
set_option linter.unusedVariables false
set_option linter.unusedSimpArgs false

/-- a list of values that lies somewhere -/
def VsAt (w : World) (a : Option Addr) (l : List (Int × Int)) : Prop := l = [] ∨ ∃ g off, a = some ⟨g, off, none⟩ ∧ ∀ (j : Nat) v, l[j]? = some v → w.cell? ⟨g, off + j * 2, none⟩ = some (.int .i64 v.1) ∧ w.cell? ⟨g, off + j * 2 + 1, none⟩ = some (.int .i64 v.2)
theorem VsAt.fx {S : Nat → Prop} {w w' : World} {a : Option Addr} {l : List (Int × Int)} (h : VsAt w a l) (x : Fx S w w') (hS : ∀ q, a = some q → ¬ S q.block) : VsAt w' a l := by
  rcases h with h | ⟨g, off, rfl, h⟩
  · exact .inl h
  · exact .inr ⟨g, off, rfl, fun j v q => ⟨x.cell (h j v q).1 (hS _ rfl), x.cell (h j v q).2 (hS _ rfl)⟩⟩
theorem VsAt.quiet {w w' : World} {a : Option Addr} {l : List (Int × Int)} (h : VsAt w a l) (x : Out 0 0 w w') : VsAt w' a l := h.fx (Fx.of_out (S := fun _ => False) x) (fun _ _ q => q)
theorem VsAt.at {w : World} {a : Option Addr} {l : List (Int × Int)} (h : VsAt w a l) {i : Nat} {v : Int × Int} (hv : l[i]? = some v) : ∃ g off, a = some ⟨g, off, none⟩ ∧ w.cell? ⟨g, off + i * 2, none⟩ = some (.int .i64 v.1) ∧ w.cell? ⟨g, off + i * 2 + 1, none⟩ = some (.int .i64 v.2) := by
  rcases h with h | ⟨g, off, rfl, h⟩
  · rw [h] at hv; simp at hv
  · exact ⟨g, off, rfl, h i v hv⟩
theorem up_w {h K : Nat} (hh : h < K) (hK : K ≤ 1000000) : wrap64 ((h : Int) + 1) = ((h + 1 : Nat) : Int) := by unfold wrap64; omega
theorem up_v {h K : Nat} (hh : h < K) (hK : K ≤ 1000000) : Value.int .i64 (wrap64 ((h : Int) + 1)) = .int .i64 ((h + 1 : Nat) : Int) := by rw [up_w hh hK]
theorem ms_n {k n : Nat} (h : k < n) : n - (intOf (.int .i64 ((k + 1 : Nat) : Int))).toNat < n - (intOf (.int .i64 (k : Int))).toNat := by simp [intOf]; omega
theorem lt_d {m n : Nat} (h : m < n) : decide ((m : Int) < (n : Int)) = true ∧ decide (m < n) = true := ⟨by simp; omega, by simpa using h⟩
set_option maxHeartbeats 4000000 in
theorem filled_yes {W : World} {h m : Nat} {la : Int} {f : Int → Option Value} {kd : Int → Int} (H : HP W h m la f) (hK : Kd W f kd) (id : Int) (K : Int) (ra fa ea : Option Addr) (nr rc nf fc ec n : Nat) (l : List (Int × Int)) (hl : l.length = nf) (hn : nf ≤ 1000000) (hf : VsAt W fa l)
    (hi : f id = some (.pointer (some ⟨n, 0, none⟩))) (hk : kd id = K) (h7 : (K == 7) = false) (h11 : (K == 11) = false) (hp : ∀ v ∈ l, plB kd v.1 v.2 = true) :
    Calls Tryz.prog 20 #[.pointer (some ⟨h, 0, none⟩), .agg #[.int .i64 id, .int .i64 K, .slice ra nr rc, .slice fa nf fc, .slice ea 0 ec]] W fun e w' => e = .returned (.bool true) ∧ Out 0 0 W w' := by
  obtain ⟨W1, hW1⟩ : ∃ W1, W.alloc (.cells #[.int .i64 id, .int .i64 K, .slice ra nr rc, .slice fa nf fc, .slice ea 0 ec] 32) = W1 := ⟨_, rfl⟩
  obtain ⟨g, hg0⟩ : ∃ g, W.heap.size = g := ⟨_, rfl⟩
  have o1 : Out 0 0 W W1 := hW1 ▸ (Out.refl _ _ _).alloc _
  have V0 : Bl W1 g #[.int .i64 id, .int .i64 K, .slice ra nr rc, .slice fa nf fc, .slice ea 0 ec] 32 := by rw [← hW1, ← hg0]; exact Bl.new _ _ _
  have H1 := H.quiet (o1.drew)
  have K1 := hK.quiet (o1.drew)
  have hc : W1.drew.cell? ⟨n, 0, none⟩ = some (.int .i64 K) := by
    rcases K1 id with ⟨q, _⟩ | ⟨b, q1, q2⟩
    · rw [hi] at q; cases q
    · rw [hi] at q1; cases q1; rw [hk] at q2; exact q2
  have c0 := V0.cell (i := 0) rfl
  have c3 := V0.cell (i := 3) rfl
  have c4 := V0.cell (i := 4) rfl
  have x4 := (H.quiet o1).1.cell (i := 0) rfl
  have lk := mp_look false Tryz.underlying57 Tryz.underlying3 (zero_np _) H1.2 id
  rw [if_neg (by simp), hi] at lk
  simp only [Option.getD_some] at lk
  have HV := hid_mk (hf.quiet (o1.drew))
  have HH := hid_mk (And.intro H1 (And.intro K1 (And.intro hc (And.intro hl (And.intro hn (And.intro h7 (And.intro h11 (And.intro hp (And.intro o1.drew (V0.kept ((Out.refl 0 0 W1).drew) (.inr (Nat.zero_le _))))))))))))
  clear H hK hf hi hk hp h7 h11 hl hn V0 H1 K1 hc
  go_enter Tryz.func20, Tryz.ntmps20
  go_upto_region 1 with fail
  (try rw [hW1]); (try rw [hg0])
  clear hW1 hg0 o1
  go_region
  clear lk x4 c0
  have HO0 : Hid (Out 0 0 W1.drew W1.drew) := hid_mk (Out.refl 0 0 _)
  obtain ⟨V, hV⟩ : ∃ V, W1.drew = V := ⟨_, rfl⟩
  rw [hV] at HV HH HO0 ⊢
  have c3 := HH.out.2.2.2.2.2.2.2.2.2.cell (i := 3) rfl
  go_wp2_with fail
  clear hV
  go_loopw [20] (fun c wr => ∃ i : Nat, c = .int .i64 i ∧ i ≤ nf ∧ Out 0 0 V wr) (fun c _ => nf - (intOf c).toNat)
  case atStart => exact ⟨0, rfl, Nat.zero_le _, HO0.out⟩
  case round =>
    obtain ⟨i, rfl, him, hO⟩ := hrel
    by_cases hgo : i < nf
    · obtain ⟨l1, l2⟩ := lt_d hgo
      obtain ⟨H1, K1, hc, hl, hn, h7, h11, hp, oV, hB⟩ := HH.out
      obtain ⟨v, hv⟩ : ∃ v, l[i]? = some v := ⟨_, List.getElem?_eq_getElem (by omega)⟩
      obtain ⟨gf, off, rfl, d0, d1⟩ := HV.out.at hv
      replace d0 := hO.cell d0 (.inr (Nat.zero_le _))
      replace d1 := hO.cell d1 (.inr (Nat.zero_le _))
      have oA : Out 0 0 wr (wr.alloc (.cells #[.int .i64 v.1, .int .i64 v.2] 28)) := (Out.refl 0 0 _).alloc _
      have HM := hid_mk (may_plain (H1.quiet (hO.trans oA)) (K1.quiet (hO.trans oA)) K v.1 v.2 i ((hO.trans oA).cell hc (.inr (Nat.zero_le _))) h7 h11)
      rw [hp v (List.mem_of_getElem? hv)] at HM
      have HI := hid_mk (And.intro hgo (And.intro hn (hO.trans oA)))
      have lmi : (i : Int) < (nf : Int) := by omega
      clear H1 K1 hc hl hn h7 h11 hp oV hB hv him hgo hO oA
      go_wp2_with fail
      refine HM.out.mono ?_
      rintro e w2 ⟨rfl, o2⟩
      have HO2 := hid_mk (HI.out.2.2.trans o2)
      clear o2 HM d0 d1
      go_wp2
      exact ⟨⟨i + 1, up_v HI.out.1 HI.out.2.1, HI.out.1, HO2.out⟩, by rw [up_w HI.out.1 HI.out.2.1]; exact ms_n HI.out.1⟩
    · obtain rfl : nf = i := by omega
      have l1 : decide ((nf : Int) < (nf : Int)) = false := by simp
      have c4 := (HH.out.2.2.2.2.2.2.2.2.2.kept hO (.inr (Nat.zero_le _))).cell (i := 4) rfl
      have HO2 := hid_mk (HH.out.2.2.2.2.2.2.2.2.1.trans hO)
      clear hgo him hO HV HH HO0
      go_wp2_with fail
      go_loopw [35] (fun c wr' => c = .int .i64 0 ∧ wr' = wr) (fun _ _ => 0)
      case atStart => exact ⟨rfl, rfl⟩
      case round =>
        obtain ⟨rfl, rfl⟩ := hrel
        go_wp2_with fail
        go_ret
        exact ⟨rfl, HO2.out⟩
set_option maxHeartbeats 4000000 in
theorem rooted_yes {W : World} {h m : Nat} {la : Int} {f : Int → Option Value} {kd : Int → Int} (H : HP W h m la f) (hK : Kd W f kd) (fa : Option Addr) (nf fc : Nat) (l : List (Int × Int)) (hl : l.length = nf) (hn : nf ≤ 1000000) (hf : VsAt W fa l)
    (hp : ∀ v ∈ l, validB_v v.1 v.2 = true ∧ (v.1 = 2 → kd v.2 ≠ 0)) :
    Calls Tryz.prog 21 #[.pointer (some ⟨h, 0, none⟩), .slice fa nf fc] W fun e w' => e = .returned (.bool true) ∧ Out 0 0 W w' := by
  have HV := hid_mk hf
  have HH := hid_mk (And.intro H (And.intro hK (And.intro hl (And.intro hn hp))))
  clear H hK hf hp hl hn
  have HO0 : Hid (Out 0 0 W W) := hid_mk (Out.refl 0 0 _)
  go_enter Tryz.func21, Tryz.ntmps21
  go_wp2_with fail
  go_loopw [9] (fun c wr => ∃ i : Nat, c = .int .i64 i ∧ i ≤ nf ∧ Out 0 0 W wr) (fun c _ => nf - (intOf c).toNat)
  case atStart => exact ⟨0, rfl, Nat.zero_le _, HO0.out⟩
  case round =>
    obtain ⟨i, rfl, him, hO⟩ := hrel
    by_cases hgo : i < nf
    · obtain ⟨l1, l2⟩ := lt_d hgo
      obtain ⟨H1, K1, hl, hn, hp⟩ := HH.out
      obtain ⟨⟨k, x⟩, hv⟩ : ∃ v, l[i]? = some v := ⟨_, List.getElem?_eq_getElem (by omega)⟩
      obtain ⟨gf, off, rfl, d0, d1⟩ := HV.out.at hv
      replace d0 := hO.cell d0 (.inr (Nat.zero_le _))
      replace d1 := hO.cell d1 (.inr (Nat.zero_le _))
      obtain ⟨p1, p2⟩ := hp (k, x) (List.mem_of_getElem? hv)
      simp only at d0 d1 p1 p2
      have oA : Out 0 0 wr (wr.alloc (.cells #[.int .i64 k, .int .i64 x] 28)) := (Out.refl 0 0 _).alloc _
      obtain ⟨A, hA⟩ : ∃ A, wr.alloc (.cells #[.int .i64 k, .int .i64 x] 28) = A := ⟨_, rfl⟩
      have HVC : Hid (VC_v A wr.heap.size k x) := hid_mk (hA ▸ VC_v.new wr k x)
      rw [hA] at oA
      obtain ⟨y0, y1, y2, y3⟩ := HVC.out.facts
      have HM := hid_mk (node_at (H1.quiet (hO.trans oA)) k x)
      have HI := hid_mk (And.intro hgo (And.intro hn (hO.trans oA)))
      have lmi : (i : Int) < (nf : Int) := by omega
      have HP1 := hid_mk p1
      by_cases hk : k = 2
      · subst hk
        obtain ⟨b, hb⟩ : ∃ b, ndV f 2 x = .pointer (some ⟨b, 0, none⟩) := by
          unfold ndV
          rw [if_pos ⟨rfl, p1⟩]
          rcases K1 x with ⟨_, q⟩ | ⟨b, q, _⟩
          · exact absurd q (p2 rfl)
          · exact ⟨b, by rw [q]; rfl⟩
        rw [hb] at HM
        clear H1 K1 hl hn hp hv him hgo hO oA p1 p2 hb
        go_wp2_with fail
        (try rw [hA])
        refine HM.out.mono ?_
        rintro e w2 ⟨rfl, o2⟩
        obtain ⟨x0, x1, x2, x3⟩ := (VC_v.kept HVC.out o2.all).facts
        have HO2 := hid_mk (HI.out.2.2.trans o2)
        clear o2 HM d0 d1 hA HVC y0 y1 y2 y3
        go_wp2_with fail
        refine (valid_any_v 2 x _).mono ?_
        rintro e w3 ⟨rfl, hg⟩
        rw [HP1.out]
        have HO3 := hid_mk (HO2.out.trans (Out.of_below hg 0 0))
        clear hg HO2 x0 x1 x2 x3
        go_wp2
        exact ⟨⟨i + 1, up_v HI.out.1 HI.out.2.1, HI.out.1, HO3.out⟩, by rw [up_w HI.out.1 HI.out.2.1]; exact ms_n HI.out.1⟩
      · have hk' : (k == 2) = false := by simpa using hk
        clear H1 K1 hl hn hp hv him hgo hO oA p1 p2 HM
        go_wp2_with fail
        (try rw [hA])
        refine (valid_any_v k x _).mono ?_
        rintro e w3 ⟨rfl, hg⟩
        rw [HP1.out]
        have HO3 := hid_mk (HI.out.2.2.trans (Out.of_below hg 0 0))
        clear hg HVC d0 d1 hA y0 y1 y2 y3
        go_wp2
        exact ⟨⟨i + 1, up_v HI.out.1 HI.out.2.1, HI.out.1, HO3.out⟩, by rw [up_w HI.out.1 HI.out.2.1]; exact ms_n HI.out.1⟩
    · obtain rfl : nf = i := by omega
      have l1 : decide ((nf : Int) < (nf : Int)) = false := by simp
      have HO2 := hid_mk hO
      clear hgo him hO HV HH HO0
      go_wp2_with fail
      go_ret
      exact ⟨rfl, HO2.out⟩
end Go.Proofs.YtocncffplcfpbaaGreatDoor
