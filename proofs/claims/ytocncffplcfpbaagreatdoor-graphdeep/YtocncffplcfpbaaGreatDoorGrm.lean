/- maps.Keys of a map with one key -/
import Derived.Test.YtocncffplcfpbaaGreatDoorGrr
namespace Go.Proofs.YtocncffplcfpbaaGreatDoor
open Go.RowKit Go.MapKept
set_option linter.unusedVariables false
set_option linter.unusedSimpArgs false

theorem hmf : ∀ (fn : Fn) (first cap : Array Value) (w : World), (Instr.makeFunc fn first cap).run Tryz.prog w = .ok (.func fn first cap) w := fun _ _ _ _ => rfl
theorem roundIn_wide {m : Nat} {P : Program} {l : Nat} {f : FuncId} {tmps : Array Value} {assign body : Code} {w : World} {R : Ending → World → Prop} (h : RoundIn Fence.wide 0 P l f tmps assign body w R) : RoundIn Fence.wide m P l f tmps assign body w R :=
  ⟨h.1, fun c cs _ => h.2 c cs (room_wide _)⟩
set_option maxHeartbeats 2000000 in
theorem keysN_any (m : Nat) (w : World) :
    Calls Tryz.prog 25 #[.map (some m)] w fun e w' => e = .returned (.func (.func 45) #[] #[.pointer (some ⟨w.heap.size, 0, none⟩)]) ∧ w' = w.alloc (.cells #[.map (some m)] 57) := by
  have h1 := hmf
  go_enter Tryz.func25, Tryz.ntmps25
  go_wp2
  go_ret
  exact ⟨rfl, rfl⟩
set_option maxRecDepth 100000 in
set_option maxHeartbeats 4000000 in
theorem keysN_one {W : World} {g m l : Nat} {f : Int → Option Value} {a0 : Int} {v0 : Value} (hg : Bl W g #[.map (some m)] 57) (hm : MpAt W m f) (hf : f a0 = some v0) (hf' : ∀ a v, f a = some v → a = a0) (S : Nat → Prop) (hS : ¬ S m) (hS2 : ∀ k, S k → k < W.heap.size) (J : World → Prop)
    (hy : ∀ W1, Out 0 0 W W1 → YieldAt Fence.wide 0 Tryz.prog l #[.int .i64 a0] W1 fun e w' => e = .returned (.bool true) ∧ Fx S W1 w' ∧ J w') :
    Calls Tryz.prog 45 #[.func (.yield l) #[] #[], .pointer (some ⟨g, 0, none⟩)] W fun e w' => (∃ v, e = .returned v) ∧ J w' := by
  have c0 := hg.cell (i := 0) rfl
  obtain ⟨w0, cnt0, hrg, hR0, o0⟩ := RG.start (P := Tryz.prog) hm Tryz.underlying57
  have HH := hid_mk (And.intro hf (And.intro hf' (And.intro hS (And.intro hS2 hy))))
  have H0 := hid_mk (And.intro hR0 o0)
  clear hg hm hf hf' hS hS2 hy hR0 o0
  refine (callsIn_wide (n := 0)).1 ?_
  refine callsIn_of_wp Tryz.func45 rfl trivial ?_ rfl
  simp only [Tryz.ntmps45, List.size_toArray, List.length_cons, List.length_nil, Nat.reduceAdd, Nat.reduceSub, Array.replicate_succ, Array.replicate_zero, List.push_toArray, List.append_toArray, List.nil_append, List.cons_append]
  gi_wp2_with fail
  obtain ⟨ri, hri⟩ : ∃ ri, W.heap.size = ri := ⟨_, rfl⟩
  rw [hri] at H0 ⊢
  replace H0 := hid_mk (And.intro H0.out hri)
  clear hri hrg c0
  gi_loopw [3] (fun _ wr => ∃ L cnt, RG wr m ri f L cnt ∧ ((L a0 = true ∧ Out 0 0 W wr) ∨ (L a0 = false ∧ J wr))) (fun _ wr => wr.rangeLeft m ri)
  case atStart => exact ⟨_, _, H0.out.1.1, .inl ⟨rfl, H0.out.1.2⟩⟩
  case round =>
    obtain ⟨L, cnt, hR, hc⟩ := hrel
    rcases hR.next (P := Tryz.prog) 0 with ⟨hD, hnx⟩ | ⟨a, v, w', cnt', ha, hLa, hnx, hR', hlt, xr, hen⟩
    · have hJ : J wr := by
        rcases hc with ⟨q1, q2⟩ | ⟨q1, q2⟩
        · have := hD a0 v0 HH.out.1
          rw [q1] at this
          cases this
        · exact q2
      have HJ := hid_mk hJ
      clear hJ hc hD hR
      gi_wp2
      exact bodyPost_end (results_none Tryz.results45 _ _ _) rfl ⟨⟨_, rfl⟩, HJ.out⟩
    · obtain ⟨hf, hf', hS, hS2, hy⟩ := HH.out
      obtain rfl := hf' a v ha
      have hO : Out 0 0 W wr := by
        rcases hc with ⟨q1, q2⟩ | ⟨q1, q2⟩
        · exact q2
        · rw [hLa] at q1; cases q1
      have hO' : Out 0 0 W w' := ((Fx.of_out (S := fun _ => False) hO).then xr (fun k h1 h2 => by have := H0.out.2; omega)).out (fun _ _ q => q)
      obtain ⟨fn, tmps, assign, body, hyr, hRd⟩ := hy w' hO'
      have HR := hid_mk (roundIn_wide (m := 0) hRd)
      have HN := hid_mk (And.intro hR' (And.intro hlt (And.intro hR.left (And.intro hS (And.intro hS2 H0.out.2)))))
      clear hf hf' hS hS2 hy hRd hR' hlt hR hc hO hO' xr hLa
      gi_wp2
      refine ⟨rfl, HR.out.mono ?_⟩
      clear HR hyr hen hnx
      rintro e w2 ⟨rfl, x2, hJ⟩
      have HJ : Hid (RG w2 m ri f (fun x => L x && x != a) cnt' ∧ J w2) := hid_mk ⟨HN.out.1.fx x2 HN.out.2.2.2.1 (fun q => by have := HN.out.2.2.2.2.1 _ q; have := HN.out.2.2.2.2.2; omega), hJ⟩
      clear x2 hJ
      gi_wp2
      exact ⟨⟨_, _, HJ.out.1, .inr ⟨by simp, HJ.out.2⟩⟩, by rw [HJ.out.1.left, HN.out.2.2.1]; exact HN.out.2.1⟩
set_option maxHeartbeats 2000000 in
theorem keysS_any (m : Nat) (w : World) :
    Calls Tryz.prog 13 #[.map (some m)] w fun e w' => e = .returned (.func (.func 29) #[] #[.pointer (some ⟨w.heap.size, 0, none⟩)]) ∧ w' = w.alloc (.cells #[.map (some m)] 51) := by
  have h1 := hmf
  go_enter Tryz.func13, Tryz.ntmps13
  go_wp2
  go_ret
  exact ⟨rfl, rfl⟩
set_option maxRecDepth 100000 in
set_option maxHeartbeats 4000000 in
theorem keysS_one {W : World} {g m l : Nat} {f : Int → Option Value} {a0 : Int} {v0 : Value} (hg : Bl W g #[.map (some m)] 51) (hm : MpAt W m f) (hf : f a0 = some v0) (hf' : ∀ a v, f a = some v → a = a0) (S : Nat → Prop) (hS : ¬ S m) (hS2 : ∀ k, S k → k < W.heap.size) (J : World → Prop)
    (hy : ∀ W1, Out 0 0 W W1 → YieldAt Fence.wide 0 Tryz.prog l #[.int .i64 a0] W1 fun e w' => e = .returned (.bool true) ∧ Fx S W1 w' ∧ J w') :
    Calls Tryz.prog 29 #[.func (.yield l) #[] #[], .pointer (some ⟨g, 0, none⟩)] W fun e w' => (∃ v, e = .returned v) ∧ J w' := by
  have c0 := hg.cell (i := 0) rfl
  obtain ⟨w0, cnt0, hrg, hR0, o0⟩ := RG.start (P := Tryz.prog) hm Tryz.underlying51
  have HH := hid_mk (And.intro hf (And.intro hf' (And.intro hS (And.intro hS2 hy))))
  have H0 := hid_mk (And.intro hR0 o0)
  clear hg hm hf hf' hS hS2 hy hR0 o0
  refine (callsIn_wide (n := 0)).1 ?_
  refine callsIn_of_wp Tryz.func29 rfl trivial ?_ rfl
  simp only [Tryz.ntmps29, List.size_toArray, List.length_cons, List.length_nil, Nat.reduceAdd, Nat.reduceSub, Array.replicate_succ, Array.replicate_zero, List.push_toArray, List.append_toArray, List.nil_append, List.cons_append]
  gi_wp2_with fail
  obtain ⟨ri, hri⟩ : ∃ ri, W.heap.size = ri := ⟨_, rfl⟩
  rw [hri] at H0 ⊢
  replace H0 := hid_mk (And.intro H0.out hri)
  clear hri hrg c0
  gi_loopw [3] (fun _ wr => ∃ L cnt, RG wr m ri f L cnt ∧ ((L a0 = true ∧ Out 0 0 W wr) ∨ (L a0 = false ∧ J wr))) (fun _ wr => wr.rangeLeft m ri)
  case atStart => exact ⟨_, _, H0.out.1.1, .inl ⟨rfl, H0.out.1.2⟩⟩
  case round =>
    obtain ⟨L, cnt, hR, hc⟩ := hrel
    rcases hR.next (P := Tryz.prog) 0 with ⟨hD, hnx⟩ | ⟨a, v, w', cnt', ha, hLa, hnx, hR', hlt, xr, hen⟩
    · have hJ : J wr := by
        rcases hc with ⟨q1, q2⟩ | ⟨q1, q2⟩
        · have := hD a0 v0 HH.out.1
          rw [q1] at this
          cases this
        · exact q2
      have HJ := hid_mk hJ
      clear hJ hc hD hR
      gi_wp2
      exact bodyPost_end (results_none Tryz.results29 _ _ _) rfl ⟨⟨_, rfl⟩, HJ.out⟩
    · obtain ⟨hf, hf', hS, hS2, hy⟩ := HH.out
      obtain rfl := hf' a v ha
      have hO : Out 0 0 W wr := by
        rcases hc with ⟨q1, q2⟩ | ⟨q1, q2⟩
        · exact q2
        · rw [hLa] at q1; cases q1
      have hO' : Out 0 0 W w' := ((Fx.of_out (S := fun _ => False) hO).then xr (fun k h1 h2 => by have := H0.out.2; omega)).out (fun _ _ q => q)
      obtain ⟨fn, tmps, assign, body, hyr, hRd⟩ := hy w' hO'
      have HR := hid_mk (roundIn_wide (m := 0) hRd)
      have HN := hid_mk (And.intro hR' (And.intro hlt (And.intro hR.left (And.intro hS (And.intro hS2 H0.out.2)))))
      clear hf hf' hS hS2 hy hRd hR' hlt hR hc hO hO' xr hLa
      gi_wp2
      refine ⟨rfl, HR.out.mono ?_⟩
      clear HR hyr hen hnx
      rintro e w2 ⟨rfl, x2, hJ⟩
      have HJ : Hid (RG w2 m ri f (fun x => L x && x != a) cnt' ∧ J w2) := hid_mk ⟨HN.out.1.fx x2 HN.out.2.2.2.1 (fun q => by have := HN.out.2.2.2.2.1 _ q; have := HN.out.2.2.2.2.2; omega), hJ⟩
      clear x2 hJ
      gi_wp2
      exact ⟨⟨_, _, HJ.out.1, .inr ⟨by simp, HJ.out.2⟩⟩, by rw [HJ.out.1.left, HN.out.2.2.1]; exact HN.out.2.1⟩
end Go.Proofs.YtocncffplcfpbaaGreatDoor
