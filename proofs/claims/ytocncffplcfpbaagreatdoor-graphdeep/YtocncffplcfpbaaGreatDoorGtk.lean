/- maps.Keys of any map; slices.AppendSeq, Collect, Sorted of what it hands out -/
import Derived.Test.YtocncffplcfpbaaGreatDoorGro
import Derived.Test.YtocncffplcfpbaaGreatDoorGte
import Derived.Test.YtocncffplcfpbaaGreatDoorGtso
import Derived.Sort.OwnSortedInts
namespace Go.Proofs.YtocncffplcfpbaaGreatDoor
open Go.RowKit Go.MapKept
attribute [local go_sem] Oper.semAt_some
set_option linter.unusedVariables false
set_option linter.unusedSimpArgs false

/-- the keys that were handed out: each once, all of them in the map -/
def KsOf (f : Int → Option Value) (ks : List Int) : Prop := ks.Nodup ∧ ∀ a ∈ ks, f a ≠ none
set_option maxRecDepth 100000 in
set_option maxHeartbeats 4000000 in
theorem keysN_gen {W : World} {g m l : Nat} {f : Int → Option Value} (hg : Bl W g #[.map (some m)] 57) (hm : MpAt W m f) (S : Nat → Prop) (hS : ¬ S m) (hS2 : ¬ S W.heap.size) (J : List Int → World → Prop)
    (hJ0 : ∀ w', Out 0 0 W w' → W.heap.size < w'.heap.size → J [] w') (hJs : ∀ ks w w', Fx (fun k => k = W.heap.size) w w' → J ks w → J ks w')
    (hy : ∀ ks a W1, KsOf f (ks ++ [a]) → J ks W1 → YieldAt Fence.wide 0 Tryz.prog l #[.int .i64 a] W1 fun e w' => e = .returned (.bool true) ∧ Fx S W1 w' ∧ J (ks ++ [a]) w') :
    Calls Tryz.prog 45 #[.func (.yield l) #[] #[], .pointer (some ⟨g, 0, none⟩)] W fun e w' => (∃ v, e = .returned v) ∧ ∃ ks, KsOf f ks ∧ (∀ a, f a ≠ none → a ∈ ks) ∧ J ks w' := by
  have c0 := hg.cell (i := 0) rfl
  obtain ⟨w0, cnt0, hrg, hR0, o0⟩ := RG.start (P := Tryz.prog) hm Tryz.underlying57
  have HH := hid_mk (And.intro hS (And.intro hS2 (And.intro hJs hy)))
  have hlt := hR0.lt
  have H0 := hid_mk (And.intro hR0 (And.intro o0 (hJ0 w0 o0 hlt)))
  clear hg hm hS hS2 hy hJs hJ0 hR0 o0 hlt
  refine (callsIn_wide (n := 0)).1 ?_
  refine callsIn_of_wp Tryz.func45 rfl trivial ?_ rfl
  simp only [Tryz.ntmps45, List.size_toArray, List.length_cons, List.length_nil, Nat.reduceAdd, Nat.reduceSub, Array.replicate_succ, Array.replicate_zero, List.push_toArray, List.append_toArray, List.nil_append, List.cons_append]
  gi_wp2_with fail
  obtain ⟨ri, hri⟩ : ∃ ri, W.heap.size = ri := ⟨_, rfl⟩
  rw [hri] at H0 ⊢
  replace H0 := hid_mk (And.intro H0.out hri)
  clear hri hrg c0
  gi_loopw [3] (fun _ wr => ∃ L cnt ks, RG wr m ri f L cnt ∧ KsOf f ks ∧ (∀ a, f a ≠ none → (L a = true ↔ a ∉ ks)) ∧ J ks wr) (fun _ wr => wr.rangeLeft m ri)
  case atStart => exact ⟨_, _, [], H0.out.1.1, ⟨List.nodup_nil, by simp⟩, by simp, H0.out.1.2.2⟩
  case round =>
    obtain ⟨L, cnt, ks, hR, hks, hL, hJ⟩ := hrel
    rcases hR.next (P := Tryz.prog) 0 with ⟨hD, hnx⟩ | ⟨a, v, w', cnt', ha, hLa, hnx, hR', hlt, xr, hen⟩
    · have HJ : Hid (∃ ks, KsOf f ks ∧ (∀ a, f a ≠ none → a ∈ ks) ∧ J ks wr) := by
        refine hid_mk ⟨ks, hks, fun a ha => ?_, hJ⟩
        obtain ⟨v, hv⟩ := Option.ne_none_iff_exists'.1 ha
        by_cases q : a ∈ ks
        · exact q
        · have := (hL a ha).2 q
          rw [hD a v hv] at this
          cases this
      clear hJ hks hL hD hR
      gi_wp2
      exact bodyPost_end (results_none Tryz.results45 _ _ _) rfl ⟨⟨_, rfl⟩, HJ.out⟩
    · obtain ⟨hS, hS2, hJs, hy⟩ := HH.out
      have hfa : f a ≠ none := by rw [ha]; simp
      have hna : a ∉ ks := (hL a hfa).1 hLa
      have hks' : KsOf f (ks ++ [a]) := ⟨List.nodup_append.2 ⟨hks.1, by simp, fun x hx y hy2 => by simp at hy2; subst hy2; rintro rfl; exact hna hx⟩, fun x hx => by rw [List.mem_append] at hx; rcases hx with hx | hx; exact hks.2 x hx; simp at hx; subst hx; exact hfa⟩
      have hJ' : J ks w' := hJs ks wr w' (by rw [H0.out.2]; exact xr) hJ
      obtain ⟨fn, tmps, assign, body, hyr, hRd⟩ := hy ks a w' hks' hJ'
      have HR := hid_mk (roundIn_wide (m := 0) hRd)
      have hL' : ∀ b, f b ≠ none → ((L b && b != a) = true ↔ b ∉ ks ++ [a]) := by
        intro b hb
        have := hL b hb
        by_cases hba : b = a
        · subst hba; simp
        · simp [hba, this]
      have HN := hid_mk (And.intro hR' (And.intro hlt (And.intro hR.left (And.intro hS (And.intro hS2 (And.intro H0.out.2 (And.intro hks' hL')))))))
      clear hS hS2 hy hJs hRd hR' hlt hR hJ hJ' xr hLa hfa hna hks' hks hL hL' ha
      gi_wp2
      refine ⟨rfl, HR.out.mono ?_⟩
      clear HR hyr hen hnx
      rintro e w2 ⟨rfl, x2, hJ⟩
      have HJ : Hid (RG w2 m ri f (fun x => L x && x != a) cnt' ∧ J (ks ++ [a]) w2) := hid_mk ⟨HN.out.1.fx x2 HN.out.2.2.2.1 (fun q => HN.out.2.2.2.2.1 (by rw [HN.out.2.2.2.2.2.1]; exact q)), hJ⟩
      clear x2 hJ
      gi_wp2
      exact ⟨⟨_, _, _, HJ.out.1, HN.out.2.2.2.2.2.2.1, HN.out.2.2.2.2.2.2.2, HJ.out.2⟩, by rw [HJ.out.1.left, HN.out.2.2.1]; exact HN.out.2.1⟩
set_option maxRecDepth 100000 in
set_option maxHeartbeats 4000000 in
theorem keysS_gen {W : World} {g m l : Nat} {f : Int → Option Value} (hg : Bl W g #[.map (some m)] 51) (hm : MpAt W m f) (S : Nat → Prop) (hS : ¬ S m) (hS2 : ¬ S W.heap.size) (J : List Int → World → Prop)
    (hJ0 : ∀ w', Out 0 0 W w' → W.heap.size < w'.heap.size → J [] w') (hJs : ∀ ks w w', Fx (fun k => k = W.heap.size) w w' → J ks w → J ks w')
    (hy : ∀ ks a W1, KsOf f (ks ++ [a]) → J ks W1 → YieldAt Fence.wide 0 Tryz.prog l #[.int .i64 a] W1 fun e w' => e = .returned (.bool true) ∧ Fx S W1 w' ∧ J (ks ++ [a]) w') :
    Calls Tryz.prog 29 #[.func (.yield l) #[] #[], .pointer (some ⟨g, 0, none⟩)] W fun e w' => (∃ v, e = .returned v) ∧ ∃ ks, KsOf f ks ∧ (∀ a, f a ≠ none → a ∈ ks) ∧ J ks w' := by
  have c0 := hg.cell (i := 0) rfl
  obtain ⟨w0, cnt0, hrg, hR0, o0⟩ := RG.start (P := Tryz.prog) hm Tryz.underlying51
  have HH := hid_mk (And.intro hS (And.intro hS2 (And.intro hJs hy)))
  have hlt := hR0.lt
  have H0 := hid_mk (And.intro hR0 (And.intro o0 (hJ0 w0 o0 hlt)))
  clear hg hm hS hS2 hy hJs hJ0 hR0 o0 hlt
  refine (callsIn_wide (n := 0)).1 ?_
  refine callsIn_of_wp Tryz.func29 rfl trivial ?_ rfl
  simp only [Tryz.ntmps29, List.size_toArray, List.length_cons, List.length_nil, Nat.reduceAdd, Nat.reduceSub, Array.replicate_succ, Array.replicate_zero, List.push_toArray, List.append_toArray, List.nil_append, List.cons_append]
  gi_wp2_with fail
  obtain ⟨ri, hri⟩ : ∃ ri, W.heap.size = ri := ⟨_, rfl⟩
  rw [hri] at H0 ⊢
  replace H0 := hid_mk (And.intro H0.out hri)
  clear hri hrg c0
  gi_loopw [3] (fun _ wr => ∃ L cnt ks, RG wr m ri f L cnt ∧ KsOf f ks ∧ (∀ a, f a ≠ none → (L a = true ↔ a ∉ ks)) ∧ J ks wr) (fun _ wr => wr.rangeLeft m ri)
  case atStart => exact ⟨_, _, [], H0.out.1.1, ⟨List.nodup_nil, by simp⟩, by simp, H0.out.1.2.2⟩
  case round =>
    obtain ⟨L, cnt, ks, hR, hks, hL, hJ⟩ := hrel
    rcases hR.next (P := Tryz.prog) 0 with ⟨hD, hnx⟩ | ⟨a, v, w', cnt', ha, hLa, hnx, hR', hlt, xr, hen⟩
    · have HJ : Hid (∃ ks, KsOf f ks ∧ (∀ a, f a ≠ none → a ∈ ks) ∧ J ks wr) := by
        refine hid_mk ⟨ks, hks, fun a ha => ?_, hJ⟩
        obtain ⟨v, hv⟩ := Option.ne_none_iff_exists'.1 ha
        by_cases q : a ∈ ks
        · exact q
        · have := (hL a ha).2 q
          rw [hD a v hv] at this
          cases this
      clear hJ hks hL hD hR
      gi_wp2
      exact bodyPost_end (results_none Tryz.results29 _ _ _) rfl ⟨⟨_, rfl⟩, HJ.out⟩
    · obtain ⟨hS, hS2, hJs, hy⟩ := HH.out
      have hfa : f a ≠ none := by rw [ha]; simp
      have hna : a ∉ ks := (hL a hfa).1 hLa
      have hks' : KsOf f (ks ++ [a]) := ⟨List.nodup_append.2 ⟨hks.1, by simp, fun x hx y hy2 => by simp at hy2; subst hy2; rintro rfl; exact hna hx⟩, fun x hx => by rw [List.mem_append] at hx; rcases hx with hx | hx; exact hks.2 x hx; simp at hx; subst hx; exact hfa⟩
      have hJ' : J ks w' := hJs ks wr w' (by rw [H0.out.2]; exact xr) hJ
      obtain ⟨fn, tmps, assign, body, hyr, hRd⟩ := hy ks a w' hks' hJ'
      have HR := hid_mk (roundIn_wide (m := 0) hRd)
      have hL' : ∀ b, f b ≠ none → ((L b && b != a) = true ↔ b ∉ ks ++ [a]) := by
        intro b hb
        have := hL b hb
        by_cases hba : b = a
        · subst hba; simp
        · simp [hba, this]
      have HN := hid_mk (And.intro hR' (And.intro hlt (And.intro hR.left (And.intro hS (And.intro hS2 (And.intro H0.out.2 (And.intro hks' hL')))))))
      clear hS hS2 hy hJs hRd hR' hlt hR hJ hJ' xr hLa hfa hna hks' hks hL hL' ha
      gi_wp2
      refine ⟨rfl, HR.out.mono ?_⟩
      clear HR hyr hen hnx
      rintro e w2 ⟨rfl, x2, hJ⟩
      have HJ : Hid (RG w2 m ri f (fun x => L x && x != a) cnt' ∧ J (ks ++ [a]) w2) := hid_mk ⟨HN.out.1.fx x2 HN.out.2.2.2.1 (fun q => HN.out.2.2.2.2.1 (by rw [HN.out.2.2.2.2.2.1]; exact q)), hJ⟩
      clear x2 hJ
      gi_wp2
      exact ⟨⟨_, _, _, HJ.out.1, HN.out.2.2.2.2.2.2.1, HN.out.2.2.2.2.2.2.2, HJ.out.2⟩, by rw [HJ.out.1.left, HN.out.2.2.1]; exact HN.out.2.1⟩
end Go.Proofs.YtocncffplcfpbaaGreatDoor
namespace Go.Proofs.YtocncffplcfpbaaGreatDoor
open Go.RowKit Go.MapKept
attribute [local go_sem] Oper.semAt_some
set_option linter.unusedVariables false
set_option linter.unusedSimpArgs false

/-- an append whose run is known, in a fence -/
theorem wpListIn_app {F : Fence} {n : Nat} {P : Program} {w w' : World} {ops : Array Oper} {rest : List Oper} {o : Oper} {a : Act} {Q : Exit → Act → World → Prop} {sv xv v : Value}
    (hg : o.guard = none) (s x : Operand) (t : TypeId) (hop : o.op = Op.call { callee := Callee.builtin Builtin.append, args := #[s, x], argTypes := #[t, t] }) (hs : a.eval s = sv) (hx : a.eval x = xv) (hrun : (Builtin.append_ #[t, t] o.type #[sv, xv]).run P w = .ok v w')
    (hK : wpListIn F n P ops Q rest (a.put o.dst v) w') : wpListIn F n P ops Q (o :: rest) a w := by
  refine wpListIn_plain hg fun K hK' => ?_
  unfold Oper.wpIn
  refine ⟨?_, ?_⟩
  · simp [Oper.about, hop, resolve, Target.leads, Sem.run_pure]
  · rw [Oper.semAt_plain F _ _ (by rw [hop]; intro c hc'; cases hc')]
    simp [execOp, hop, resolve, invoke, builtin, hs, hx, hrun, Result.andThen]
    exact hK' _ _ hK
/-- an iterator that hands out the keys of f, each once, in any order -/
def GenI (W : World) (gf g : Nat) (f : Int → Option Value) : Prop := (∀ args w, (callFunc gf args).run Tryz.prog w = .ok (.enter gf args) w) ∧ ∀ (W1 : World) (l : Nat) (S : Nat → Prop) (J : List Int → World → Prop), Out 0 0 W W1 → (∀ k, S k → W.heap.size ≤ k ∧ k ≠ W1.heap.size) →
  (∀ w', Out 0 0 W1 w' → W1.heap.size < w'.heap.size → J [] w') → (∀ ks w w', Fx (fun k => k = W1.heap.size) w w' → J ks w → J ks w') →
  (∀ ks a W2, KsOf f (ks ++ [a]) → J ks W2 → YieldAt Fence.wide 0 Tryz.prog l #[.int .i64 a] W2 fun e w' => e = .returned (.bool true) ∧ Fx S W2 w' ∧ J (ks ++ [a]) w') →
  Calls Tryz.prog gf (#[.func (.yield l) #[] #[]] ++ #[.pointer (some ⟨g, 0, none⟩)]) W1 fun e w' => (∃ v, e = .returned v) ∧ ∃ ks, KsOf f ks ∧ (∀ a, f a ≠ none → a ∈ ks) ∧ J ks w'
theorem genN {W : World} {g m : Nat} {f : Int → Option Value} (hg : Bl W g #[.map (some m)] 57) (hm : MpAt W m f) : GenI W 45 g f :=
  ⟨enters_of Tryz.func45 (by kernel_rfl) rfl, fun W1 l S J o hS h0 hs hy => keysN_gen (hg.kept o (.inr (Nat.zero_le _))) (hm.kept o (.inr (Nat.zero_le _))) S (fun q => by have := (hS _ q).1; have := hm.lt; omega) (fun q => (hS _ q).2 rfl) J h0 hs hy⟩
theorem genS {W : World} {g m : Nat} {f : Int → Option Value} (hg : Bl W g #[.map (some m)] 51) (hm : MpAt W m f) : GenI W 29 g f :=
  ⟨enters_of Tryz.func29 (by kernel_rfl) rfl, fun W1 l S J o hS h0 hs hy => keysS_gen (hg.kept o (.inr (Nat.zero_le _))) (hm.kept o (.inr (Nat.zero_le _))) S (fun q => by have := (hS _ q).1; have := hm.lt; omega) (fun q => (hS _ q).2 rfl) J h0 hs hy⟩
/-- no row of one's own lies where something else stands -/
theorem own_off {w : World} {E : TypeId} {base sz n k : Nat} {v : Value} {xs : List Value} {o : Obj} (h : w.ownsRow base E sz v n xs) (hk : w.heap[k]? = some o) (ho : ∀ cs, o ≠ .cells cs E (0, 0)) : v.ownBlock ≠ some k := by
  intro e
  rcases h.2 with ⟨rfl, _⟩ | ⟨g, c, cur, rfl, _, h3, _⟩
  · cases e
  · have : g = k := Option.some.inj e
    subst this
    rw [h3] at hk
    cases hk
    exact ho _ rfl
/-- what the loop holds behind its rounds -/
def ASg (W w : World) (s D ri : Nat) (rec : LoopState → Option Code → Loop) (ks : List Int) : Prop := Fx (fun k => W.heap.size ≤ k) W w ∧ w.heap[D]? = some (.deferred (some [])) ∧ w.heap[D + 1]? = some (.loop (rec .ready none)) ∧ ri < w.heap.size ∧ ∃ a c, Bl w s #[.slice a ks.length c] 29 ∧ w.ownsRow W.heap.size 3 1 (.slice a ks.length c) ks.length (iws ks) ∧ (Value.slice a ks.length c).ownBlock ≠ some ri
def AqQ (W : World) (f : Int → Option Value) (e : Ending) (w' : World) : Prop := ∃ ks a c, e = .returned (.slice a ks.length c) ∧ KsOf f ks ∧ (∀ a, f a ≠ none → a ∈ ks) ∧ Out 0 0 W w' ∧ w'.ownsRow W.heap.size 3 1 (.slice a ks.length c) ks.length (iws ks)
set_option maxRecDepth 100000 in
set_option maxHeartbeats 4000000 in
theorem appseq_gen {W : World} {gf g n : Nat} {f : Int → Option Value} (h : GenI W gf g f) (hd : ∀ a, f a ≠ none → 1 ≤ a ∧ a ≤ n) (hn : n ≤ 1000000) :
    Calls Tryz.prog 50 #[.slice none 0 0, .func (.func gf) #[] #[.pointer (some ⟨g, 0, none⟩)]] W (AqQ W f) := by
  have eg := h.1
  have HH := hid_mk (And.intro h.2 (And.intro hd hn))
  clear h hd hn
  refine (callsIn_wide (n := 0)).1 ?_
  refine callsIn_of_wp_marks Tryz.func50 rfl trivial ?_ rfl
  simp only [Tryz.ntmps50, List.size_toArray, List.length_cons, List.length_nil, Nat.reduceAdd, Nat.reduceSub, Array.replicate_succ, Array.replicate_zero, List.push_toArray, List.append_toArray, List.nil_append, List.cons_append]
  gi_wp2_with fail
  refine wpIn_named (fun W1 hW1 => ?_)
  obtain ⟨s, hs⟩ : ∃ s, W.heap.size = s := ⟨_, rfl⟩
  have o1 : Out 0 0 W W1 := by rw [hW1]; exact (Out.refl 0 0 W).alloc _
  have b1 : Bl W1 s #[.slice none 0 0] 29 := by rw [hW1, ← hs]; exact Bl.new _ _ _
  have hs1 : W1.heap.size = s + 1 := by rw [hW1, size_alloc, hs]
  rw [hs]
  have H1 := hid_mk (And.intro o1 (And.intro b1 (And.intro hs1 hs)))
  clear hW1 o1 b1 hs1 hs
  refine range_any (gf := gf) (lb := #[.pointer (some ⟨g, 0, none⟩)]) rfl eg (fun w => ∃ rec ks, KsOf f ks ∧ (∀ a, f a ≠ none → a ∈ ks) ∧ ASg W w s W1.heap.size (W1.heap.size + 2) rec ks) (fun _ _ => False) ?H ?done (fun _ _ _ h _ _ => h.elim)
  case H =>
    intro rec hrec W6 hW6
    obtain ⟨o1, b1, hs1, hs⟩ := H1.out
    have o6 : Out 0 0 W1 W6 := by rw [hW6]; exact ((Out.refl _ _ _).alloc _).alloc _
    have d6 : W6.heap[W1.heap.size]? = some (.deferred (some [])) := by rw [hW6, heap_alloc_old _ _ (by rw [size_alloc]; omega)]; exact heap_alloc_new _ _
    have l6 : W6.heap[W1.heap.size + 1]? = some (.loop (rec .ready none)) := by rw [hW6, ← size_alloc W1 (.deferred (some []))]; exact heap_alloc_new _ _
    have s6 : W6.heap.size = W1.heap.size + 2 := by rw [hW6, size_alloc, size_alloc]
    refine (HH.out.1 W6 (W1.heap.size + 1) (fun k => W.heap.size ≤ k ∧ k ≠ W6.heap.size) (fun ks w => ASg W w s W1.heap.size (W1.heap.size + 2) rec ks) (o1.trans o6) (fun k hk => hk) ?_ ?_ ?_).mono ?_
    · intro w' o2 hlt
      refine ⟨Fx.of_out ((o1.trans o6).trans o2), o2.heap d6 (.inr (Nat.zero_le _)), o2.heap l6 (.inr (Nat.zero_le _)), by omega, none, 0, (b1.kept o6 (.inr (Nat.zero_le _))).kept o2 (.inr (Nat.zero_le _)), ⟨rfl, .inl ⟨rfl, rfl⟩⟩, by simp [Value.ownBlock]⟩
    · intro ks w w' x hJ
      rw [s6] at x
      obtain ⟨j1, j2, j3, j4, a, c, j5, j6, j7⟩ := hJ
      exact ⟨j1.trans (x.wide (fun k _ e => by omega)), x.heap j2 (by omega), x.heap j3 (by omega), Nat.lt_of_lt_of_le j4 x.size, a, c, j5.fx x (by omega), own_fx j6 x (fun g hg e => j7 (e ▸ hg)), j7⟩
    · intro ks ky W2 hks hJ
      obtain ⟨x2, d2, l2, r2, a, c, b2, c2, n2⟩ := hJ
      have hkl : ks.length ≤ 1000000 := by
        have := nodup_le n (ks ++ [ky]) hks.1 (fun y hy => HH.out.2.1 y (hks.2 y hy))
        simp at this
        have := HH.out.2.2
        omega
      have HB := hid_mk (And.intro d2 (And.intro l2 (And.intro b2 (And.intro x2 (And.intro hs1 (And.intro hs (And.intro s6 (And.intro r2 (And.intro c2 (And.intro n2 hkl))))))))))
      refine round_any hrec l2 rfl ?_
      clear o1 b1 hs1 hs o6 d6 l6 s6 d2 b2 x2 r2 c2 n2 hkl H1 HH hW6 hks
      gi_wp2
      refine ⟨HB.out.2.1, ?_⟩
      intro W3 o3 l3
      obtain ⟨d2, -, b2, x2, hs1, hs, s6, r2, c2, n2, hkl⟩ := HB.out
      have x3 : Fx (fun k => k = W1.heap.size + 1) W2 W3 := ⟨o3.1, o3.2.1, o3.2.2.1, o3.size, fun k h1 h2 => o3.block h1 (by omega)⟩
      have b3 := b2.fx x3 (by omega)
      have ow3 := own_fx c2 x3 (fun g hg e => own_off c2 l2 (by simp) (e ▸ hg))
      have hB3 : W.heap.size ≤ W3.heap.size := Nat.le_trans x2.size x3.size
      obtain ⟨a', cap', Z, q1, q2, q3, q4⟩ := app_num ow3 hB3 hkl ky
      have c3 := b3.cell (i := 0) rfl
      have bZ := b3.fx q3 (fun e => own_ot ow3 b3 (by decide) e)
      have c8 := bZ.cell (i := 0) rfl
      have z8 := bZ.frozen 0
      have hdn := own_off c2 d2 (by simp)
      have hln := own_off c2 l2 (by simp)
      have HL3 := hid_mk (And.intro l3 (And.intro x3 (And.intro q2 (And.intro q3 (And.intro bZ (And.intro hdn hln))))))
      have HQ := hid_mk q1
      have hnew : Hid ((Value.slice a' (ks.length + 1) cap').ownBlock ≠ some (W1.heap.size + 2)) := by
        have hr3 : W1.heap.size + 2 < W3.heap.size := Nat.lt_of_lt_of_le r2 x3.size
        rcases q4 with q4 | q4
        · rw [q4]; exact hid_mk n2
        · rw [q4]; exact hid_mk (fun e => by have := Option.some.inj e; omega)
      clear o3 l3 b3 l2 d2 b2 x2 hs1 hs s6 r2 c2 n2 hkl x3 ow3 hB3 q1 q2 q3 bZ hdn hln
      gi_wp2_with (gi_at_builtin; refine wpListIn_app rfl _ _ 29 rfl rfl rfl HQ.out ?_)
      obtain ⟨l3, x3, q2, q3, bZ, hdn, hln⟩ := HL3.out
      obtain ⟨d2, l2, b2, x2, hs1, hs, s6, r2, c2, n2, hkl⟩ := HB.out
      obtain ⟨Y, hY⟩ : ∃ Y, Z.setCell ⟨s, 0, none⟩ (.slice a' (ks.length + 1) cap') = Y := ⟨_, rfl⟩
      rw [hY]
      have xY : Fx (fun k => k = s) Z Y := hY ▸ Fx.set (S := fun k => k = s) (Fx.refl _ Z) (p := ⟨s, 0, none⟩) (.inl rfl) _
      have bY : Bl Y s #[.slice a' (ks.length + 1) cap'] 29 := hY ▸ bZ.set 0 _
      have oY := own_fx q2 xY (fun g hg e => own_ot q2 bZ (by decide) (e ▸ hg))
      refine ⟨xY.heap (q3.heap l3 hln) (by omega), fun W' o4 l4 => ⟨rfl, ?_, ?_⟩⟩
      all_goals
        have x4 : Fx (fun k => k = W1.heap.size + 1) Y W' := ⟨o4.1, o4.2.1, o4.2.2.1, o4.size, fun k h1 h2 => o4.block h1 (by omega)⟩
        have hl2 := heap_lt l2
      · refine ((((x3.wide (fun k _ e => ?_)).trans (q3.wide (fun k _ e => ?_))).trans (xY.wide (fun k _ e => ?_))).trans (x4.wide (fun k _ e => ?_)))
        · rw [s6]; omega
        · rw [s6]; exact ⟨(own_ge c2 e).1, fun e2 => n2 (e2 ▸ e)⟩
        · rw [s6]; omega
        · rw [s6]; omega
      · have d3 := x3.heap d2 (by omega)
        have d4 := xY.heap (q3.heap d3 hdn) (by omega)
        have d5 := x4.heap d4 (by omega)
        refine ⟨(((x2.trans (x3.wide (fun k _ e => by omega))).trans (q3.wide (fun k _ e => (own_ge c2 e).1))).trans (xY.wide (fun k _ e => by omega))).trans (x4.wide (fun k _ e => by omega)), d5, l4, ?_, a', cap', ?_, ?_, ?_⟩
        · have := x3.size; have := q3.size; have := xY.size; have := x4.size; omega
        · rw [List.length_append]; exact bY.fx x4 (by omega)
        · rw [List.length_append]; exact own_fx oY x4 (fun g hg e => own_off oY (xY.heap (q3.heap l3 hln) (by omega)) (by simp) (e ▸ hg))
        · rw [List.length_append]; exact hnew.out
    · rintro e w ⟨he, ks, hks, hall, hJ⟩
      exact ⟨he, hJ.2.1, .inl ⟨⟨rec, ks, hks, hall, hJ⟩, hJ.2.2.1⟩⟩
  case done =>
    intro W6 W7 hJ o7 d7
    obtain ⟨rec, ks, hks, hall, x6, d6, l6, r6, a, c, b6, c6, hb⟩ := hJ
    obtain ⟨o1, b1, hs1, hs⟩ := H1.out
    have b7 := b6.kept o7 (by omega)
    have x67 : Fx (fun k => k = W1.heap.size + 1) W6 W7 := ⟨o7.1, o7.2.1, o7.2.2.1, o7.size, fun k h1 h2 => o7.block h1 (by omega)⟩
    have c7 := own_fx c6 x67 (fun g hg e => own_off c6 l6 (by simp) (e ▸ hg))
    have x7 : Fx (fun k => W.heap.size ≤ k) W W7 := x6.trans (x67.wide (fun k _ e => by omega))
    have e0 := b7.cell (i := 0) rfl
    have HE := hid_mk (And.intro c7 (And.intro x7 (And.intro d7 (And.intro hks (And.intro hall (And.intro hs1 hs))))))
    clear x6 d6 l6 b6 c6 hb o1 b1 hs1 hs b7 c7 x7 d7 o7 H1 HH x67 hks hall r6
    gi_wp2
    obtain ⟨c7, x7, d7, hks, hall, hs1, hs⟩ := HE.out
    have xd : Fx (fun k => k = W1.heap.size) W7 (W7.putObj W1.heap.size (.deferred none)) := ⟨rfl, rfl, rfl, by simp, fun k h1 h2 => World.putObj_heap_other (by omega)⟩
    have x8 : Fx (fun k => W.heap.size ≤ k) W (W7.putObj W1.heap.size (.deferred none)) := x7.trans (xd.wide (fun k _ e => by omega))
    refine ⟨by simp, .inl ⟨_, _, rfl, run_takeDeferred d7, ?_⟩⟩
    exact ⟨_, results_tmp Tryz.results50 _ _ _, ks, a, c, rfl, hks, hall, x8.out (fun k h1 h2 => by omega), own_fx c7 xd (fun g hg e => own_off c7 d7 (by simp) (e ▸ hg))⟩
/-- the keys, sorted -/
def srt (ks : List Int) : List Int := ks.mergeSort fun x y => decide (x ≤ y)
theorem srt_perm (ks : List Int) : (srt ks).Perm ks := List.mergeSort_perm _ _
theorem srt_len (ks : List Int) : (srt ks).length = ks.length := (srt_perm ks).length_eq
theorem srt_up (ks : List Int) : (srt ks).Pairwise (fun x y => x ≤ y) := by
  have := List.pairwise_mergeSort (le := fun x y : Int => decide (x ≤ y)) (fun a b c h1 h2 => by simp at *; omega) (fun a b => by simp; omega) ks
  exact this.imp (fun h => by simpa using h)
def SoQ (W : World) (f : Int → Option Value) (e : Ending) (w' : World) : Prop := ∃ ks a c, e = .returned (.slice a ks.length c) ∧ ks.Nodup ∧ (∀ a, a ∈ ks ↔ f a ≠ none) ∧ ks.Pairwise (fun x y => x ≤ y) ∧ Out 0 0 W w' ∧ w'.ownsRow W.heap.size 3 1 (.slice a ks.length c) ks.length (iws ks)
theorem collectInt_gen {W : World} {gf g n : Nat} {f : Int → Option Value} (h : GenI W gf g f) (hd : ∀ a, f a ≠ none → 1 ≤ a ∧ a ≤ n) (hn : n ≤ 1000000) : Calls Tryz.prog 27 #[.func (.func gf) #[] #[.pointer (some ⟨g, 0, none⟩)]] W (AqQ W f) := by
  have H := hid_mk (appseq_gen h hd hn)
  clear h hd
  go_enter Tryz.func27, Tryz.ntmps27
  go_wp2_with fail
  refine H.out.mono ?_
  rintro e w1 ⟨ks, a, c, rfl, hQ⟩
  clear H
  go_wp2_with fail
  go_ret
  exact ⟨ks, a, c, rfl, hQ⟩
/-- slices.Sort of a row of one's own -/
theorem sort_own {w : World} {B n c : Nat} {a : Option Addr} {ks : List Int} (h : w.ownsRow B 3 1 (.slice a n c) n (iws ks)) (hn0 : 0 < n) (hn : n ≤ 1000000) (hkn : ks.length = n) : Calls Tryz.prog 28 #[.slice a n c] w fun e w' => e = .returned (.tuple #[]) ∧ w'.ownsRow B 3 1 (.slice a n c) n (iws (srt ks)) ∧ Fx (fun k => (Value.slice a n c).ownBlock = some k) w w' := by
  subst hkn
  obtain ⟨g, cur, rfl, hB, hc, hb, hs, hle, hcm, htk⟩ := own_cellsX h hn0
  rw [Nat.mul_one] at htk
  refine (Tryz.slices_Sort_int g 0 c ks w (Go.holds_of_blockI hb htk) hb.lt (by omega)).mono ?_
  rintro e w' ⟨rfl, n0, os, rfl⟩
  refine ⟨rfl, Go.ownsRow_sortedI (srt_len ks) hB hb hle hcm hs, ?_⟩
  have := Go.grownBy_sortedI (w := w) (g := g) (n := n0) (os := os) (srt ks).toArray
  exact ⟨this.os, this.tape, this.output, this.size, fun k h1 h2 => this.block k h1 (fun e => h2 e.symm)⟩
set_option maxHeartbeats 1000000 in
theorem sorted_gen {W : World} {gf g n : Nat} {f : Int → Option Value} (h : GenI W gf g f) (hd : ∀ a, f a ≠ none → 1 ≤ a ∧ a ≤ n) (hn : n ≤ 1000000) (hne : ∃ a, f a ≠ none) : Calls Tryz.prog 12 #[.func (.func gf) #[] #[.pointer (some ⟨g, 0, none⟩)]] W (SoQ W f) := by
  have H := hid_mk (collectInt_gen h hd hn)
  have HD := hid_mk (And.intro hd (And.intro hn hne))
  clear h hd hn hne
  go_enter Tryz.func12, Tryz.ntmps12
  go_wp2_with fail
  refine H.out.mono ?_
  rintro e w1 ⟨ks, a, c, rfl, hks, hall, ho, ow⟩
  obtain ⟨hd, hn, a0, ha0⟩ := HD.out
  have hpos : 0 < ks.length := List.length_pos_of_mem (hall a0 ha0)
  have hlen : ks.length ≤ 1000000 := by
    have := nodup_le n ks hks.1 (fun y hy => hd y (hks.2 y hy))
    omega
  obtain ⟨k, hk⟩ : ∃ k, ks.length = k := ⟨_, rfl⟩
  rw [hk] at ow
  have HS := hid_mk (sort_own ow (by omega) (by omega) hk)
  have HQ := hid_mk (And.intro hks (And.intro hall (And.intro ho (And.intro ow hk))))
  rw [hk]
  clear H hks hall ho ow hd ha0 hpos hlen hk
  go_wp2_with fail
  refine HS.out.mono ?_
  rintro e w2 ⟨rfl, ow2, x2⟩
  have HE : Hid (SoQ W f (.returned (.slice a k c)) w2) := by
    obtain ⟨hks, hall, ho, ow, hk⟩ := HQ.out
    refine hid_mk ⟨srt ks, a, c, by rw [srt_len, hk], (srt_perm ks).nodup_iff.2 hks.1, fun x => ⟨fun q => hks.2 x ((srt_perm ks).mem_iff.1 q), fun q => (srt_perm ks).mem_iff.2 (hall x q)⟩, srt_up ks, ?_, by rw [srt_len, hk]; exact ow2⟩
    exact ((Fx.of_out (S := fun k => W.heap.size ≤ k) ho).trans (x2.wide (fun k _ e => (own_ge ow e).1))).out (fun k h1 h2 => by omega)
  clear HS HQ ow2 x2
  go_wp2_with fail
  go_ret
  exact HE.out
end Go.Proofs.YtocncffplcfpbaaGreatDoor
