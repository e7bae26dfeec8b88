/- graph: reach, where the one root is a weak pair that holds no other node strongly -/
import Derived.Test.YtocncffplcfpbaaGreatDoorGrg
namespace Go.Proofs.YtocncffplcfpbaaGreatDoor
open Go.RowKit Go.MapKept
set_option linter.unusedVariables false
set_option linter.unusedSimpArgs false

set_option maxHeartbeats 4000000 in
theorem look_weak {W : World} {s n gf fc : Nat} {r : Value} {k x : Int} (hn : Bl W n (ndc 8 r (.slice (some ⟨gf, 0, none⟩) 2 fc)) 94) (hfc : 2 ≤ fc) (hk : k ≠ 2) (d0 : W.cell? ⟨gf, 2, none⟩ = some (.int .i64 k)) (d1 : W.cell? ⟨gf, 3, none⟩ = some (.int .i64 x)) :
    Calls Tryz.prog 32 #[.pointer (some ⟨s, 0, none⟩), .pointer (some ⟨n, 0, none⟩)] W fun e w' => e = .returned (.tuple #[]) ∧ Out 0 0 W w' := by
  have c0 := hn.cell (i := 0) rfl
  have c2 := hn.cell (i := 2) rfl
  have HM := hid_mk (meet_quiet (W := W) (s := s) (some ⟨gf, 2, none⟩) 1 (fc - 1) [(k, x)] rfl (by omega) (.inr ⟨gf, 2, rfl, fun j v q => by
    cases j with
    | zero => simp at q; subst q; exact ⟨d0, d1⟩
    | succ j => simp at q⟩) (fun v hv => by simp at hv; subst hv; exact hk))
  clear hn d0 d1 hk
  go_enter Tryz.func32, Tryz.ntmps32
  go_wp2_with fail
  refine HM.out.mono ?_
  rintro e w1 ⟨rfl, o1⟩
  have HO := hid_mk o1
  clear o1 HM c0 c2
  go_wp2_with fail
  exact bodyPost_end (results_none Tryz.results32 _ _ _) rfl ⟨rfl, HO.out⟩
theorem zero_vs (w : World) : (zeroValue 24).run Tryz.prog w = .ok (.slice none 0 0) w := by kernel_rfl
set_option maxRecDepth 100000 in
set_option maxHeartbeats 4000000 in
theorem reach_one {W : World} {h m : Nat} {la : Int} {f : Int → Option Value} (H : HP W h m la f) {n gf fc gr rc : Nat} {r : Value} {k x : Int} (hf1 : f 1 = some (.pointer (some ⟨n, 0, none⟩))) (hn : Bl W n (ndc 8 r (.slice (some ⟨gf, 0, none⟩) 2 fc)) 94) (hfc : 2 ≤ fc) (hk : k ≠ 2) (d0 : W.cell? ⟨gf, 2, none⟩ = some (.int .i64 k)) (d1 : W.cell? ⟨gf, 3, none⟩ = some (.int .i64 x)) (r0 : W.cell? ⟨gr, 0, none⟩ = some (.int .i64 2)) (r1 : W.cell? ⟨gr, 1, none⟩ = some (.int .i64 1)) :
    Calls Tryz.prog 14 #[.pointer (some ⟨h, 0, none⟩), .slice (some ⟨gr, 0, none⟩) 1 rc] W fun e w' => ∃ lm, e = .returned (.map (some lm)) ∧ Out 0 0 W w' ∧ W.heap.size ≤ lm ∧ MpAt w' lm (fun y => if y = 1 then some (.agg #[]) else none) := by
  obtain ⟨g, hg0⟩ : ∃ g, W.heap.size = g := ⟨_, rfl⟩
  have hmm := @run_makeMap Tryz.prog
  have HH := hid_mk (And.intro H (And.intro hf1 (And.intro hn (And.intro hfc (And.intro hk (And.intro d0 (And.intro d1 hg0)))))))
  have o1 : Out 0 0 W ((W.alloc (.map #[] 0)).alloc (.cells #[.map none, .slice none 0 0, .map (some g)] 78)) := ((Out.refl 0 0 W).alloc _).alloc _
  have b1 : Bl ((W.alloc (.map #[] 0)).alloc (.cells #[.map none, .slice none 0 0, .map (some g)] 78)) (g + 1) #[.map none, .slice none 0 0, .map (some g)] 78 := by
    have := Bl.new (W.alloc (.map #[] 0)) #[.map none, .slice none 0 0, .map (some g)] 78
    rwa [size_alloc, hg0] at this
  have m1 : MpAt ((W.alloc (.map #[] 0)).alloc (.cells #[.map none, .slice none 0 0, .map (some g)] 78)) g (fun _ => none) := by
    have := (mp_new W).kept ((Out.refl 0 0 _).alloc (.cells #[.map none, .slice none 0 0, .map (some g)] 78)) (.inr (Nat.zero_le _))
    rwa [hg0] at this
  have HM := hid_mk (meet_one b1 gr 0 rc 1 (o1.cell r0 (.inr (Nat.zero_le _))) (o1.cell r1 (.inr (Nat.zero_le _))))
  have H1 := hid_mk (And.intro o1 (And.intro m1 b1.lt))
  clear H hf1 hn hfc hk d0 d1 o1 b1 m1 r0 r1
  go_enter Tryz.func14, Tryz.ntmps14
  go_wp2_with fail
  obtain ⟨W1, hW1⟩ : ∃ W1, (W.alloc (.map #[] 0)).alloc (.cells #[.map none, .slice none 0 0, .map (some g)] 78) = W1 := ⟨_, rfl⟩
  rw [hW1] at HM H1 ⊢
  obtain ⟨s, hs⟩ : ∃ s, g + 1 = s := ⟨_, rfl⟩
  rw [hs] at HM ⊢
  replace H1 := hid_mk (And.intro H1.out hs)
  clear hW1 hs hg0 hmm
  refine HM.out.mono ?_
  rintro e w2 ⟨rfl, lm, b, c, f1, f2, f3, f4, f5, f6⟩
  have HT := hid_mk (take_one f5 f6)
  have H2 := hid_mk (And.intro f1 (And.intro f2 (And.intro f3 f4)))
  clear f1 f2 f3 f4 f5 f6 HM
  go_wp2_with fail
  refine HT.out.mono ?_
  rintro e w3 ⟨rfl, t1, t2⟩
  have HS : Hid (Fx (fun k => k = s) W1 w3 ∧ Bl w3 s #[.map (some lm), .slice (some ⟨b, 0, none⟩) 0 c, .map (some g)] 78 ∧ MpAt w3 lm (fun y => if y = 1 then some (.agg #[]) else none) ∧ s < lm) := by
    obtain ⟨f1, f2, f3, f4⟩ := H2.out
    have : s < W1.heap.size := H1.out.2 ▸ H1.out.1.2.2
    exact hid_mk ⟨f1.trans t1, t2, f4.fx t1 (by omega), by omega⟩
  clear HT H2 t1 t2
  go_wp2_with fail
  go_loopw [6, 7] (fun c d wr => (c = .int .i64 1 ∧ d = .bool true ∧ wr = w3) ∨ (c = .int .i64 0 ∧ d = .bool false ∧ Out 0 0 W wr ∧ W.heap.size ≤ lm ∧ MpAt wr lm (fun y => if y = 1 then some (.agg #[]) else none) ∧ wr.cell? ⟨s, 0, none⟩ = some (.map (some lm)))) (fun c _ _ => (intOf c).toNat)
  case atStart => exact .inl ⟨rfl, rfl, rfl⟩
  case round =>
    rcases hrel with ⟨rfl, rfl, rfl⟩ | ⟨rfl, rfl, q1, q2, q3, q4⟩
    · obtain ⟨H, hf1, hn, hfc, hk, d0, d1, hg0⟩ := HH.out
      obtain ⟨⟨o1, m1, hsl⟩, hs⟩ := H1.out
      obtain ⟨x1, b3, m3, hlm⟩ := HS.out
      have x3 : Fx (fun _ => False) W wr := (Fx.of_out o1).then x1 (fun k h1 h2 => by omega)
      have o3 : Out 0 0 W wr := x3.out (fun _ _ q => q)
      have H3 := H.quiet o3
      have e0 := H3.1.cell (i := 0) rfl
      have lk := mp_look false Tryz.underlying57 Tryz.underlying3 (zero_np _) H3.2 1
      rw [if_neg (by simp), hf1] at lk
      simp only [Option.getD_some] at lk
      have HL := hid_mk (look_weak (s := s) (hn.kept o3 (.inr (Nat.zero_le _))) hfc hk (o3.cell d0 (.inr (Nat.zero_le _))) (o3.cell d1 (.inr (Nat.zero_le _))))
      have HR := hid_mk (And.intro o3 (And.intro b3 (And.intro m3 (And.intro hlm (And.intro (m1.fx x1 (by omega)) (And.intro hg0 hs))))))
      clear H hf1 hn hfc hk d0 d1 hg0 o1 m1 hsl hs x1 b3 m3 hlm x3 o3 H3 HH H1 HS
      go_wp2_with fail
      refine HL.out.mono ?_
      rintro e w4 ⟨rfl, o4⟩
      obtain ⟨o3, b3, m3, hlm, m1, hg0, hs⟩ := HR.out
      have b4 := b3.kept o4 (.inr (Nat.zero_le _))
      have m4 := m1.kept o4 (.inr (Nat.zero_le _))
      have e2 := b4.cell (i := 2) rfl
      have lk2 := mp_look false Tryz.underlying74 Tryz.underlying3 (zero_vs _) m4 1
      rw [if_neg (by simp)] at lk2
      simp only [Option.getD_none] at lk2
      have HQ := hid_mk (meet_quiet (W := w4) (s := s) none 0 0 [] rfl (by omega) (.inl rfl) (fun v hv => by simp at hv))
      replace HR := hid_mk (And.intro (o3.trans o4) (And.intro b4 (And.intro (m3.kept o4 (.inr (Nat.zero_le _))) (And.intro hlm (And.intro m4 (And.intro hg0 hs))))))
      clear o3 b3 m3 hlm m1 hg0 hs o4 b4 m4 HL e0 lk
      go_wp2_with fail
      refine HQ.out.mono ?_
      rintro e w5 ⟨rfl, o5⟩
      obtain ⟨o3, b3, m3, hlm, m1, hg0, hs⟩ := HR.out
      have b4 := b3.kept o5 (.inr (Nat.zero_le _))
      have m4 := m1.kept o5 (.inr (Nat.zero_le _))
      obtain ⟨w6, dl, m6, o6⟩ := mp_del (ty := 0) Tryz.underlying74 Tryz.underlying3 m4 1
      have e3 := b4.cell (i := 2) rfl
      have b6 := b4.kept o6 (by omega)
      have HT := hid_mk (take_none (s := s) (b6.cell (i := 1) rfl))
      have e4 := b6.cell (i := 0) rfl
      replace HR : Hid (Out 0 0 W w6 ∧ W.heap.size ≤ lm ∧ MpAt w6 lm (fun y => if y = 1 then some (.agg #[]) else none) ∧ w6.cell? ⟨s, 0, none⟩ = some (.map (some lm))) := hid_mk ⟨(o3.trans o5).past o6 (by omega), by omega, (m3.kept o5 (.inr (Nat.zero_le _))).kept o6 (by omega), e4⟩
      clear o3 b3 m3 hlm m1 hg0 hs o5 b4 m4 HQ e2 lk2 m6 o6 b6 e4
      go_wp2_with fail
      refine calls_same HT.out ?_
      clear HT e3 dl
      go_wp2_with fail
      exact ⟨.inr ⟨rfl, rfl, HR.out⟩, by decide⟩
    · go_wp2_with fail
      go_ret
      exact ⟨lm, rfl, q1, q2, q3⟩
end Go.Proofs.YtocncffplcfpbaaGreatDoor
