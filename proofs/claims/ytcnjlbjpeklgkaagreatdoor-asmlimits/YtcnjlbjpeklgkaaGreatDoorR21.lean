import Derived.Test.YtcnjlbjpeklgkaaGreatDoorR20
import Derived.Defers
import Derived.Recover
import Derived.WalkSmall
namespace Go.Proofs.YtcnjlbjpeklgkaaGreatDoor
open Go.RowKit Go.MapKept
set_option linter.unusedVariables false
set_option linter.unusedSimpArgs false

section
variable {p bl bu B : Nat} {w w' w2 : World} {s : Low}
theorem AL.line (h : AL w p bl bu s) : w.cell? ⟨p, 6, none⟩ = some (.int .i64 (s.line : Int)) := by
  obtain ⟨ta, tc, fa, fc, nt, nf, vs, cs, ho⟩ := h.ao
  exact ho.2.1.cell rfl
theorem catchA_idle {a : Value} : CallsD Tryz.prog 61 #[a] .returning w fun e u' w' => e = .returned (.tuple #[]) ∧ u' = .returning ∧ w' = w := by
  refine callsD_of_wpS Tryz.func61 rfl fun c₀ cs hu => ?_
  apply wpS_seq
  apply wpS_region
  simp [wpOpsS, go_sem, recoverD, hu, Tryz.ntmps61, Exit.thenS]
  refine calls_same (acaught_nil w) ?_
  refine wpS_cond (t := false) (by simp [Act.eval, Array.replicate]) ?_
  simp only [Bool.false_eq_true, if_false]
  refine wpS_of_wp (wp_skip ?_)
  cases c₀
  simp_all [bodyPostS, results, Tryz.results61]
set_option maxHeartbeats 1000000 in
theorem catchA_stop (h : AL w p bl bu s) (hb : Bl w B #[.pointer (some ⟨p, 0, none⟩)] 113) : CallsD Tryz.prog 61 #[.pointer (some ⟨B, 0, none⟩)] (.panicking [giveUp]) w fun e u' w' => e = .returned (.tuple #[]) ∧ u' = .panicking [{ giveUp with recovered := true }] ∧ AL w' p bl bu { s with bad := blm s.bad s.line } ∧ Fr p bl bu w w' := by
  have no := hid_mk h
  have HB := hid_mk hb
  have HG := hid_mk (fun W (o : Out 0 0 w W) => blame_any (h.out o) s.line)
  have c6 : ∀ W, Out 0 0 w W → W.cell? ⟨p, 6, none⟩ = some (.int .i64 (s.line : Int)) ∧ W.cell? ⟨B, 0, none⟩ = some (.pointer (some ⟨p, 0, none⟩)) := fun W o => by
    obtain ⟨ta, tc, fa, fc, nt, nf, vs, cs, ho⟩ := (h.out o).ao
    exact ⟨ho.2.1.cell rfl, (hb.kept o (.inr (Nat.zero_le _))).cell rfl⟩
  have HC := hid_mk c6
  clear h hb c6
  refine callsD_of_wpS Tryz.func61 rfl fun c₀ cs hu => ?_
  apply wpS_seq
  apply wpS_region
  unfold giveUp at hu
  simp [wpOpsS, go_sem, recoverD, hu, Tryz.ntmps61, Exit.thenS]
  refine (acaught_wrong w).mono ?_
  rintro e' w1 ⟨rfl, o1⟩
  refine wpS_cond (t := true) (by simp [Act.eval, Array.replicate]) ?_
  simp only [if_true]
  refine wpS_of_wp ?_
  obtain ⟨d1, d2⟩ := HC.out _ o1
  have HO := hid_mk o1
  clear o1
  rw [show (#[Value.pointer (some { block := B, off := 0 })] ++ ((Array.replicate 8 undef).setIfInBounds 0 (Value.iface 153 (Value.agg #[]))).setIfInBounds 1 (Value.bool true)) = #[Value.pointer (some { block := B, off := 0 }), Value.iface 153 (Value.agg #[]), Value.bool true, undef, undef, undef, undef, undef, undef] from rfl]
  refine wp_region_held_drew (S := fun w' => w'.cell? ⟨p, 6, none⟩ = some (.int .i64 (s.line : Int)) ∧ w'.cell? ⟨B, 0, none⟩ = some (.pointer (some ⟨p, 0, none⟩))) (by kernel_rfl) ?hS1 (fun hHeld => ?rest1)
  case hS1 => exact ⟨d1, d2⟩
  refine tk 0 ?_
  refine tk 1 ?_
  refine tk 2 ?_
  refine tk 3 ?_
  refine tk 4 ?_
  refine wpAnyH_ready (rs := [5]) (by kernel_rfl) (by simp) ?_
  refine AllReadyH.cons rfl (fun KK hK => ?_) AllReadyH.nil
  simp only [xa, xb, xc]
  go_simp
  go_at_call 63
  refine (HG.out _ (HO.out.drew)).mono ?_
  rintro e w5 ⟨rfl, ha5, hf5⟩
  have hb5 := (no.out.out (HO.out.drew)).keep (HB.out.kept (HO.out.drew) (.inr (Nat.zero_le _))) (by decide) (by unfold OwnT; decide) hf5
  refine hK.out _ _ ?hS7 (fun hHeld2 => ?rest7)
  case hS7 => exact ⟨ha5.line, hb5.cell rfl⟩
  clear hK KK
  (try clear hHeld)
  have hHeld := hHeld2
  clear hHeld2
  (try simp only [Act.put, xa, xb, xc, xd, xe, xf])
  refine wpAnyH_done (by kernel_rfl) ?_ _
  have hfin := And.intro ha5 ((Fr.quiet (HO.out.drew)).trans hf5)
  cases c₀
  simp_all [bodyPostS, results, Tryz.results61, giveUp]
end
end Go.Proofs.YtcnjlbjpeklgkaaGreatDoor
