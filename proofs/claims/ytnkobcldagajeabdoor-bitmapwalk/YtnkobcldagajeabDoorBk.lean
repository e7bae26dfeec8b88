/- Reset, Copy, All -/
import Derived.Test.YtnkobcldagajeabDoorBf
import Derived.Lib.SliceRun
import Derived.Deep.AppendLies
import Derived.OwnWalk
namespace Go.Proofs.YtnkobcldagajeabDoor
open Go.RowKit
set_option linter.unusedVariables false
set_option linter.unusedSimpArgs false

theorem Row.fillAll {b k : Nat} {T : TypeId} (v : Value) (m : Nat) : ∀ (o : Nat) (w : World) (f : Nat → Value), Row w b T k f → Row (w.setCells b o (List.replicate m v)) b T k (fun i => if o ≤ i ∧ i < o + m then v else f i) := by
  induction m with
  | zero => intro o w f h; exact h.congr fun i hi => by rw [if_neg (by omega)]
  | succ m ih =>
    intro o w f h
    show Row ((w.setCell ⟨b, o, none⟩ v).setCells b (o + 1) (List.replicate m v)) b T k _
    refine (ih (o + 1) _ _ (h.set o v)).congr fun i hi => ?_
    by_cases h1 : i = o
    · subst h1; simp
    · by_cases h2 : o + 1 ≤ i ∧ i < o + 1 + m
      · rw [if_pos h2, if_pos (by omega)]
      · have h3 : ¬ (o ≤ i ∧ i < o + (m + 1)) := by omega
        simp only [if_neg h2, if_neg h3, if_neg h1]
theorem Out.setAll {b lo hi : Nat} (hb : lo ≤ b ∧ b < hi) (v : Value) (m : Nat) : ∀ (o : Nat) (a w : World), Out lo hi a w → Out lo hi a (w.setCells b o (List.replicate m v)) := by
  induction m with
  | zero => intro o a w h; exact h
  | succ m ih => intro o a w h; exact ih (o + 1) a _ (h.setCell (.inl hb) v)
theorem heap_setAll {b c : Nat} (h : c ≠ b) (v : Value) (m : Nat) : ∀ (o : Nat) (w : World), (w.setCells b o (List.replicate m v)).heap[c]? = w.heap[c]? := by
  induction m with
  | zero => intro o w; rfl
  | succ m ih => intro o w; exact (ih (o + 1) _).trans (Below.heap_setCell _ _ _ _ h)
theorem zero_u64 (w : World) : (zeroValue 43).run Tryd.prog w = .ok (.int .u64 0) w := by kernel_rfl
theorem reset_any {w : World} {lo hi b n : Nat} {S : Nat → Bool} (h : MapAt w lo hi b n S) :
    Calls Tryd.prog 22 #[.pointer (some ⟨b, 0, none⟩)] w fun e w' => e = .returned (.tuple #[]) ∧ MapAt w' lo hi b n (fun _ => false) ∧ Out lo hi w w' := by
  obtain ⟨bw, cap, hb, h1, h2, h3, h4, h5, h6, h7, h8, l1, l2, l3, hr⟩ := h
  have c1 : w.cell? ⟨b, 1, none⟩ = some (.slice (some ⟨bw, 0, none⟩) (nw n) cap) := by simp [World.cell?, hb]
  have hO : Out lo hi w (w.setCells bw 0 (List.replicate (nw n) (.int .u64 0))) := Out.setAll ⟨l1, l2⟩ _ _ _ _ _ (Out.refl _ _ _)
  have HF : Hid (MapAt (w.setCells bw 0 (List.replicate (nw n) (.int .u64 0))) lo hi b n (fun _ => false)) := by
    refine ⟨bw, cap, by rw [heap_setAll (Ne.symm l3)]; exact hb, h1, h2, Nat.le_trans h3 hO.size, h4, h5, h6, fun _ _ => rfl, h8.kept hO (.inl h4), l1, l2, l3, (Row.fillAll _ _ _ _ _ hr).congr fun i hi => ?_⟩
    rw [if_pos (by omega), pk_none_all]; rfl
  have HO := hid_mk hO
  by_cases hn : 0 < nw n
  · have hcl : ∀ ty, (Builtin.clear_ #[45] ty #[.slice (some ⟨bw, 0, none⟩) (nw n) cap]).run Tryd.prog w = .ok (.tuple #[]) (w.setCells bw 0 (List.replicate (nw n) (.int .u64 0))) :=
      fun ty => Lib.run_clear_slice w 45 43 ty (.int .u64 0) Tryd.underlying45 zero_u64 rfl rfl bw 0 (nw n) cap hn (fun j hj => by rw [Nat.zero_add, hr.cell hj]; rfl) (fun j hj => hr.frozen _)
    clear hb hr h7 h8 hO
    go_enter Tryd.func22, Tryd.ntmps22
    go_wp2_with (simp only [hcl])
    exact bodyPost_end (results_none Tryd.results22 _ _ _) rfl ⟨rfl, HF.out, HO.out⟩
  · have h0 : nw n = 0 := by omega
    rw [h0] at HF HO c1
    have hcl : ∀ ty, (Builtin.clear_ #[45] ty #[.slice (some ⟨bw, 0, none⟩) 0 cap]).run Tryd.prog w = .ok (.tuple #[]) w := fun ty => by
      simp [Builtin.clear_, run_underlying Tryd.underlying45]
    clear hb hr h7 h8 hO
    go_enter Tryd.func22, Tryd.ntmps22
    go_wp2_with (simp only [hcl])
    exact bodyPost_end (results_none Tryd.results22 _ _ _) rfl ⟨rfl, HF.out, HO.out⟩
set_option maxHeartbeats 1000000 in
theorem clone_any {w : World} {bw k cap : Nat} {f : Nat → Value} (hr : Row w bw 43 k f) (h1 : ∀ i, (f i).oneCell' = true) (hk : k ≤ 4096) :
    Calls Tryd.prog 34 #[.slice (some ⟨bw, 0, none⟩) k cap] w fun e w' => ∃ g cap', e = .returned (.slice (some ⟨g, 0, none⟩) k cap') ∧ k ≤ cap' ∧ w.heap.size ≤ g ∧ g < w'.heap.size ∧ Row w' g 43 k f ∧ Out 0 0 w w' := by
  obtain ⟨i0, hi, hz0, hz1, hz2⟩ := info_parts info_u64
  have heq := fun w => Lib.run_eql_slice_nil (P := Tryd.prog) w 45 43 (some ⟨bw, 0, none⟩) k cap 0 0 Tryd.underlying45
  simp at heq
  have hown : (w.alloc (.cells #[] 43)).ownsRow w.heap.size 43 1 (.slice (some ⟨w.heap.size, 0, none⟩) 0 0) 0 [] :=
    ⟨rfl, .inr ⟨w.heap.size, 0, #[], rfl, Nat.le_refl _, heap_alloc_new _ _, Nat.le_refl _, Nat.zero_le _, rfl, rfl⟩⟩
  have hnews : ∀ j u, ((List.range k).map f)[j]? = some u → (w.alloc (.cells #[] 43)).cell? ((⟨bw, 0, none⟩ : Addr).add j) = some u := by
    intro j u hj
    have hjk : j < k := by
      have := (List.getElem?_eq_some_iff.1 hj).1
      simpa using this
    simp [hjk] at hj
    subst hj
    have := (Row.kept hr ((Out.refl 0 0 w).alloc (.cells #[] 43)) (.inr (Nat.zero_le _))).cell hjk
    have e : (⟨bw, 0, none⟩ : Addr).add j = ⟨bw, j, none⟩ := by
      by_cases h0 : j = 0
      · subst h0; rfl
      · simp [Addr.add, h0]
    rw [e]; exact this
  have hone : ∀ u ∈ (List.range k).map f, u.oneCell' = true := by
    intro u hu
    simp at hu
    obtain ⟨i, _, rfl⟩ := hu
    exact h1 i
  have HOW := hid_mk hown
  have HNE := hid_mk hnews
  have HON := hid_mk hone
  clear hown hnews hone hr h1
  go_enter Tryd.func34, Tryd.ntmps34
  go_wp2_with (at_builtin; refine wpList_append_own _ rfl _ _ 45 rfl w.heap.size 43 i0 (.int .u64 0) 1 8 Tryd.underlying45 hi hz0 hz1 hz2 rfl (by decide) (.slice (some ⟨w.heap.size, 0, none⟩) 0 0) 0 [] rfl HOW.out ⟨bw, 0, none⟩ k cap ((List.range k).map f) rfl (by simp) HNE.out HON.out (by unfold maxLen; omega) (by omega) (by simp) ?_; intro v' w1 hown' hgrow hnil)
  obtain ⟨hlen, hcase⟩ := hown'
  rcases hcase with ⟨hv, _⟩ | ⟨g, cap', cur, rfl, hg1, hg2, hg3, hg4, hg5, hg6⟩
  · exact absurd (hnil.1 hv).1 (by simp)
  have hO : Out 0 0 w w1 := by
    have h0 : Out 0 0 w (w.alloc (.cells #[] 43)) := (Out.refl _ _ _).alloc _
    exact ⟨hgrow.os.trans h0.1, hgrow.tape.trans h0.2.1, hgrow.output.trans h0.2.2.1, Nat.le_trans h0.size hgrow.size, fun j h1 h2 => (hgrow.block j (Nat.lt_of_lt_of_le h1 h0.size) (by simp [Value.ownBlock]; omega)).trans (h0.block h1 h2)⟩
  have hR : Row w1 g 43 k f := by
    refine ⟨cur, hg2, by omega, fun i hik => ?_⟩
    have e : (cur.toList.take ((0 + k) * 1))[i]? = ([] ++ (List.range k).map f)[i]? := by rw [hg6]
    simp [hik] at e
    simpa using e
  have HR := hid_mk hR
  have HO := hid_mk hO
  have HG := hid_mk (heap_lt hg2)
  clear hg2 hg6 hgrow hnil hR hO hlen
  go_wp2
  go_ret
  exact ⟨g, cap', by simp, by omega, hg1, HG.out, HR.out, HO.out⟩
set_option maxHeartbeats 1000000 in
theorem copy_any {w : World} {lo hi b n : Nat} {S : Nat → Bool} (h : MapAt w lo hi b n S) :
    Calls Tryd.prog 21 #[.pointer (some ⟨b, 0, none⟩)] w fun e w' => ∃ b', e = .returned (.pointer (some ⟨b', 0, none⟩)) ∧ MapAt w' w.heap.size w'.heap.size b' n S ∧ Out 0 0 w w' := by
  obtain ⟨bw, cap, hb, h1, h2, h3, h4, h5, h6, h7, h8, l1, l2, l3, hr⟩ := h
  have c0 : w.cell? ⟨b, 0, none⟩ = some (.int .i64 n) := by simp [World.cell?, hb]
  have c1 : w.cell? ⟨b, 1, none⟩ = some (.slice (some ⟨bw, 0, none⟩) (nw n) cap) := by simp [World.cell?, hb]
  have HC := hid_mk (fun (w' : World) (hr : Row w' bw 43 (nw n) (fun i => .int .u64 (pk S i))) => clone_any (cap := cap) hr (fun _ => rfl) (by unfold nw; omega))
  have HB := hid_mk (heap_lt hb)
  have HR := hid_mk hr
  have H5 := hid_mk h5
  have H7 := hid_mk h7
  have H8 := hid_mk h8
  have HL : Hid (b < w.heap.size ∧ 0 < w.heap.size) := by show _ ∧ _; omega
  clear hb h1 h2 h3 h4 h5 h6 h7 h8 l1 l2 l3 hr
  go_enter Tryd.func21, Tryd.ntmps21
  go_wp2_with fail
  go_region_held3 (fun w' => w'.cell? ⟨b, 0, none⟩ = some (.int .i64 n) ∧ w'.cell? ⟨b, 1, none⟩ = some (.slice (some ⟨bw, 0, none⟩) (nw n) cap)) (first | go_keep | (refine ⟨?_, ?_⟩ <;> exact hOO.cell (by assumption) (.inr (Nat.zero_le _))))
    (first | (go_at_call 34; refine (HC.out _ (by exact HR.out)).mono ?_; rintro e w2 ⟨g, cap2, rfl, k1, k2, k3, k4, hOO⟩))
  all_goals (try go_wp2)
  all_goals go_ret
  have hO2 : Out 0 0 w (w2.alloc (.cells #[.int .i64 n, .slice (some ⟨g, 0, none⟩) (nw n) cap2] 47)) := Out.alloc (show Out 0 0 w w2 from hOO) _
  have hz : w.heap.size ≤ g := k2
  have hz2 : w.heap.size ≤ w2.heap.size := hOO.size
  exact ⟨w2.heap.size, rfl, ⟨g, cap2, heap_alloc_new _ _, hz2, by simp, Nat.le_refl _, HL.out.2, H5.out, k1, H7.out, H8.out.kept hO2 (.inr (Nat.le_refl _)), hz, by simp; omega, by omega, k4.kept ((Out.refl 0 0 w2).alloc _) (.inr (Nat.zero_le _))⟩, hO2⟩
/-- an All of the map b: the block that holds its pointer -/
def AllAt (w : World) (lo hi g b : Nat) : Prop := lo ≤ g ∧ g < hi ∧ hi ≤ w.heap.size ∧ Box w g 24 (.pointer (some ⟨b, 0, none⟩))
theorem AllAt.kept {w w' : World} {lo hi g b lo' hi' : Nat} (h : AllAt w lo hi g b) (o : Out lo' hi' w w') (hd : hi ≤ lo' ∨ hi' ≤ lo) : AllAt w' lo hi g b :=
  ⟨h.1, h.2.1, Nat.le_trans h.2.2.1 o.size, h.2.2.2.kept o (by have := h.1; have := h.2.1; omega)⟩
theorem all_any (b : Nat) (w : World) :
    Calls Tryd.prog 16 #[.pointer (some ⟨b, 0, none⟩)] w fun e w' => e = .returned (.func (.func 33) #[] #[.pointer (some ⟨w.heap.size, 0, none⟩)]) ∧ w' = w.alloc (.cells #[.pointer (some ⟨b, 0, none⟩)] 24) := by
  go_enter Tryd.func16, Tryd.ntmps16
  go_wp2
  go_ret
  exact ⟨rfl, rfl⟩
end Go.Proofs.YtnkobcldagajeabDoor
