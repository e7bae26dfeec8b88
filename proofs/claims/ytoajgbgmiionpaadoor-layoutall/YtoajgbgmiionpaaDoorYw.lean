/- marked -/
import Derived.Test.YtoajgbgmiionpaaDoorYv
namespace Go.Proofs.YtoajgbgmiionpaaDoor
open Go.RowKit
set_option linter.unusedVariables false
set_option linter.unusedSimpArgs false

theorem list_frozen {w : World} {B : Nat} {v : Value} {l : List Nat} (h : ListIs w B v l) {g : Nat} (hg : v.ownBlock = some g) (i : Nat) : w.frozen? ⟨g, i, none⟩ = false := by
  rcases h.2 with ⟨e, _⟩ | ⟨g', cap, cur, e, _, hh, _⟩
  · rw [e] at hg; cases hg
  · rw [e] at hg; cases hg
    simp [World.frozen?, hh]
theorem list_set {w : World} {B : Nat} {v : Value} {l : List Nat} (h : ListIs w B v l) {g : Nat} (hg : v.ownBlock = some g) {i : Nat} (hi : i < l.length) (x : Nat) : ListIs (w.setCell ⟨g, i, none⟩ (.int .i64 (x : Nat))) B v (l.set i x) := by
  obtain ⟨h1, h2⟩ := h
  refine ⟨by simp [ints], ?_⟩
  rcases h2 with ⟨e, _⟩ | ⟨g', cap, cur, e, r1, hh, r2, r3, r4, r5⟩
  · rw [e] at hg; cases hg
  · rw [e] at hg; cases hg
    refine .inr ⟨g', cap, cur.setIfInBounds i (.int .i64 (x : Nat)), by rw [e, List.length_set], r1, ?_, by rw [List.length_set]; exact r2, r3, by simp [r4], ?_⟩
    · simp [World.setCell, Array.getElem?_modify, hh]
    · rw [List.length_set, Array.toList_setIfInBounds, List.take_set, r5]
      simp [ints]
theorem fill_set {m i : Nat} {c : List Nat} (h : i < c.length) : (List.replicate i m ++ c.drop i).set i m = List.replicate (i + 1) m ++ c.drop (i + 1) := by
  rw [List.set_append_right _ _ (by simp)]
  rw [List.length_replicate, Nat.sub_self, List.drop_eq_getElem_cons h, List.set_cons_zero, List.replicate_succ', List.append_assoc]
  rfl
theorem fill_len {m i : Nat} {c : List Nat} (h : i ≤ c.length) : (List.replicate i m ++ c.drop i).length = c.length := by
  simp; omega
set_option maxRecDepth 100000 in
set_option maxHeartbeats 4000000 in
theorem marked_any {B b : Nat} {vL vW : Value} {L Wr : List Value} {C : Nat → List Nat} {p : Nat} {u : Bool} {w : World} {l : Value} {c : List Nat} {vS vM : Value} {Ls : List Value} {Mk : List Nat} {col : Nat → Nat}
    (h : Keep B w b vL vW vS vM L Wr Ls Mk C col none p u) (hl : ListIs w B l c) (hc : ∀ x, l.ownBlock = some x → col x = 8) (hlen : Ls.length = Mk.length) (hK : Mk.length ≤ 6000) (hn : c.length ≤ 1024) :
    Calls Tryd.prog 16 #[.pointer (some ⟨b, 0, none⟩), l] w fun e w' => e = .returned (.tuple #[]) ∧ HoldEnd B b vL vW L Wr C p u (Mk.length + 18) col w w' := by
  obtain ⟨aM, capM, rfl⟩ := own_shape h.oM
  obtain ⟨_, _, _, c3, _⟩ := keep_cells h.hb
  obtain ⟨aF, capF, rfl⟩ := own_shape hl
  have HK := hid_mk h
  have HL := hid_mk hl
  have HC := hid_mk hc
  have HLn := hid_mk hlen
  have HM := hid_mk hK
  have HN := hid_mk hn
  obtain ⟨K, hKe⟩ : ∃ K, Mk.length = K := ⟨_, rfl⟩
  obtain ⟨m, hm⟩ : ∃ m : Nat, (1000000 : Int) + (K : Int) = (m : Int) := ⟨1000000 + K, by omega⟩
  have HKe := hid_mk hKe
  have Hm := hid_mk hm
  rw [hKe] at c3 HM ⊢
  have k6 : (K : Int) ≤ 6000 := by have := HM.out; omega
  obtain ⟨n, hne⟩ : ∃ n, c.length = n := ⟨_, rfl⟩
  have Hne := hid_mk hne
  rw [hne]
  have Hm3 : Hid (m ≤ 3000000) := by show m ≤ 3000000; have := HM.out; omega
  have m3 : (m : Int) ≤ 3000000 := by have := Hm3.out; omega
  clear h hl hc hlen hK hn hKe hne
  go_enter Tryd.func16, Tryd.ntmps16
  go_wp2_with fail
  go_loopw [5] (fun y wr => ∃ i : Nat, i ≤ n ∧ y = .int .i64 i ∧ Keep B wr b vL vW vS (.slice aM Mk.length capM) L Wr Ls Mk C col none p u ∧ ListIs wr B (.slice aF c.length capF) (List.replicate i m ++ c.drop i) ∧ Fix col col w wr) (fun y _ => n - (intOf y).toNat)
  case atStart => exact ⟨0, Nat.zero_le _, rfl, HK.out, HL.out, Fix.refl _ _⟩
  case round =>
    obtain ⟨i, i1, rfl, hk, hl, hb⟩ := hrel
    clear HL HK c3
    have HK := hid_mk hk
    have HL := hid_mk hl
    have HB := hid_mk hb
    have b0 : (0 : Int) ≤ (i : Int) := by omega
    by_cases hi : i < n
    · have hic : i < c.length := by rw [Hne.out]; exact hi
      have hlen' := fill_len (m := m) (c := c) (Nat.le_of_lt hic)
      obtain ⟨a', cap', e', hrow⟩ := list_shape hl
      rw [hlen'] at e'
      cases e'
      obtain ⟨g, rfl, go, gl, gc⟩ := hrow (by rw [hlen']; omega)
      have q1 := gc i (by rw [hlen']; exact hic)
      have q2 := list_frozen hl go i
      have hl2 := list_set hl go (i := i) (by rw [hlen']; exact hic) m
      rw [fill_set hic] at hl2
      have ch : Chg col (fun c => c = 8) wr (wr.setCell ⟨g, i, none⟩ (.int .i64 (m : Nat))) := (Chg.of_out (Out.refl 0 0 _) _ _).setCell (HC.out g rfl) _
      have HK2 := hid_mk (hk.chg ch (fun _ h => h))
      have HL2 := hid_mk hl2
      have HB2 := hid_mk (hb.trans (Fix.of ch (by decide) (fun _ _ h => h)))
      obtain ⟨y, hy⟩ : ∃ y : Nat, (List.replicate i m ++ c.drop i)[i]'(by rw [hlen']; exact hic) = y := ⟨_, rfl⟩
      rw [hy] at q1
      have b1 : (i : Int) < (n : Int) := by omega
      have b2 : (n : Int) ≤ 1024 := by have := HN.out; have := Hne.out; omega
      clear hl hk hb gc hrow hl2 ch hy hlen' hic go gl
      go_wp2
      go_roundw
      case rel => exact ⟨i + 1, by omega, by go_num, HK2.out, HL2.out, HB2.out⟩
      case measure => simp [intOf]; omega
    · have : i = n := by omega
      subst this
      have hl3 : ListIs wr B (.slice aF i capF) (List.replicate i m) := by
        have := hl
        rw [Hne.out, show c.drop i = [] from List.drop_eq_nil_of_le (by have := Hne.out; omega), List.append_nil] at this
        exact this
      have HS : Hid (HoldSt B b vL vW L Wr C p u m wr (.slice aF i capF) i vS (.slice aM Mk.length capM) Ls Mk col) := ⟨hk.opened _, hl3, by have := HC.out; rw [Hne.out] at this; exact this⟩
      have HH := hid_mk (hold_any HS.out HLn.out (by rw [HKe.out]; exact HM.out) (by have := HN.out; have := Hne.out; omega) Hm3.out)
      rw [HKe.out] at HH
      clear hl hk hb hl3 HS
      go_wp2_with (go_at_call 29; refine HH.out.mono ?_; rintro e w2 ⟨rfl, he⟩)
      obtain ⟨xS, xM, xLs, xMk, xcol, k1, k2, k3, k4⟩ := he
      exact bodyPost_end (results_none Tryd.results16 _ _ _) rfl ⟨rfl, xS, xM, xLs, xMk, xcol, k1, k2, k3, HB.out.trans k4⟩
end Go.Proofs.YtoajgbgmiionpaaDoor
