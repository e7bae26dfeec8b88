import Derived.Test.YtcnjlbjpeklgkaaGreatDoorR23
import Derived.Test.YtcnjlbjpeklgkaaGreatDoorR03
import Derived.RangeFuncNested
import Derived.RangeFuncBound
import Derived.RangeFuncCalls
import Derived.RangeFuncLeaves
import Derived.Shelf.Abstract
import Derived.Shelf.RegionOpen
import Derived.OwnWalkIn
import Derived.TacticsInMore
import Derived.LoopNIn
import Derived.LoopIn
namespace Go.Proofs.YtcnjlbjpeklgkaaGreatDoor
open Go.RowKit
set_option linter.unusedVariables false
set_option linter.unusedSimpArgs false

theorem plo_how {w : List Int} (h : opF w ≠ 0) : plO (opF w) = true ↔ howF (opF w) ≠ 0 := by
  have := (op_back h).2
  have key : ∀ k : Fin 76, (1 ≤ k.val ∧ k.val ≤ 22 ∨ 30 ≤ k.val ∧ k.val ≤ 75) → (plO (k.val : Int) = true ↔ howF (k.val : Int) ≠ 0) := by decide +kernel
  have := key ⟨(opF w).toNat, by omega⟩ (by simp only; omega)
  have e2 : (((opF w).toNat : Nat) : Int) = opF w := by omega
  simpa only [e2] using this
/-- the least line that is wrong, from the heads -/
theorem least_of {m : MkF} {s : Low} {k b : Nat} (h : Rel m s k) (hb : LeastU b s.bad s.U) : IsLeast b m.bad (opn m.lab m.use) := by
  obtain ⟨h1, h2, h3⟩ := hb
  rw [h.bad] at h1 h3
  have hd : ∀ l ∈ opn m.lab m.use, ∃ t : ByteArray, ∃ x r, s.U (bt t) = x :: r ∧ x.1 ≤ l := by
    intro l hl
    obtain ⟨n, i, hi⟩ := opn_pnd.1 hl
    have hi2 := hi
    unfold pnd at hi2
    split at hi2
    · simp at hi2
    · obtain ⟨u, hu, e⟩ := List.mem_map.1 hi2
      obtain ⟨hu1, hu2⟩ := List.mem_filter.1 hu
      have hn : u.2.2 = n := by simpa using hu2
      obtain ⟨t, ht⟩ := (h.rng u hu1).2.2.2
      rw [← hn, ht] at hi
      have hU := h.U (bt t)
      have hp : (pnd m.lab m.use (bt t)).Pairwise (fun a b => a.1 ≤ b.1) := by
        unfold pnd
        split
        · exact List.Pairwise.nil
        · rw [List.pairwise_map]
          exact (h.lin.filter _).imp fun q => q
      cases hx : pnd m.lab m.use (bt t) with
      | nil => rw [hx] at hi; simp at hi
      | cons x r =>
        rw [hx] at hi hp hU
        refine ⟨t, x, r, hU, ?_⟩
        rcases List.mem_cons.1 hi with e | e
        · rw [← e]; exact Nat.le_refl _
        · exact (List.pairwise_cons.1 hp).1 _ e
  refine ⟨fun q => ?_, fun q => h1 q, fun l hl => ?_, ?_⟩
  · rcases h3 with e | ⟨t, x, r, hx, e⟩
    · rw [e]; exact q.1
    · exfalso
      have : x.1 ∈ opn m.lab m.use := opn_pnd.2 ⟨bt t, x.2, by rw [← h.U, hx]; exact List.mem_cons_self ..⟩
      rw [q.2] at this
      simp at this
  · obtain ⟨t, x, r, hx, hl2⟩ := hd l hl
    have := h2 t x r hx
    omega
  · rcases h3 with e | ⟨t, x, r, hx, e⟩
    · exact .inl e
    · exact .inr (by rw [e]; exact opn_pnd.2 ⟨bt t, x.2, by rw [← h.U, hx]; exact List.mem_cons_self ..⟩)
theorem Rel.func {m : MkF} {s : Low} {k b : Nat} (h : Rel m s k) (hb : LeastU b s.bad s.U) (n1 n2 n3 : Int) : Rel { m.ends with fn := m.ends.fn ++ [(n1, n2, n3, [])], began := true, inside := true } { s with L := fun _ => none, U := fun _ => [], bad := b, fs := s.fs ++ [(n1, n2, n3, [])] } k := by
  obtain ⟨b2, he, hl⟩ := ends_eq m (fun u hu => (h.rng u hu).2.1)
  have hbb : b = b2 := (least_of h hb).one hl
  subst hbb
  rw [he]
  exact { gl := h.gl, tx := h.tx
          fs := by show s.fs ++ _ = _; rw [h.fs]; rfl
          L := fun t => rfl
          U := fun t => by simp [pnd]
          beg := by simp
          ins := by simp
          non := fun q => by simp at q
          idx := List.Pairwise.nil, lin := List.Pairwise.nil
          rng := fun u hu => by simp at hu
          line := h.line, bad := rfl }
theorem Rel.glob {m : MkF} {s : Low} {k : Nat} (h : Rel m s k) (n : Int) : Rel { m with gl := n, began := true } { s with gl := n, hg := true } k :=
  { gl := rfl, tx := h.tx, fs := h.fs, L := h.L, U := h.U, beg := by simp, ins := h.ins, non := h.non, idx := h.idx, lin := h.lin, rng := h.rng, line := h.line, bad := h.bad }
theorem Rel.text {m : MkF} {s : Low} {k : Nat} (h : Rel m s k) (b : List Int) : Rel { m with tx := m.tx ++ [b], began := true } { s with tx := s.tx ++ [b] } k :=
  { gl := h.gl, tx := by show s.tx ++ _ = _; rw [h.tx], fs := h.fs, L := h.L, U := h.U, beg := by simp, ins := h.ins, non := h.non, idx := h.idx, lin := h.lin, rng := h.rng, line := h.line, bad := h.bad }
theorem addI_ne {fs : List FnF} (h : fs ≠ []) (x : InF) : addI fs x ≠ [] ∧ lenI (addI fs x) = lenI fs + 1 := by
  obtain ⟨gs, f, rfl⟩ := snoc_of h
  rw [add_cons, len_cons, len_cons]
  simp
/-- an instruction with a number -/
theorem Rel.num {m : MkF} {s : Low} {k : Nat} (h : Rel m s k) (hne : m.fn ≠ []) (x : InF) : Rel { m with fn := addI m.fn x } { s with fs := addI s.fs x } k :=
  { gl := h.gl, tx := h.tx
    fs := by show addI s.fs x = _; rw [rsv_add _ _ _ hne (fun u hu => (h.rng u hu).1), h.fs]
    L := h.L, U := h.U
    beg := by
      have hs : s.fs ≠ [] := by rw [h.fs]; exact (rsv_ne _ _ hne).1
      rw [h.beg]
      simp only
      constructor
      · intro q; exact absurd q.2.2 hs
      · intro q; exact absurd q.2.2 (addI_ne hs x).1
    ins := by rw [h.ins]; simp [hne, (addI_ne hne x).1]
    non := fun q => absurd q (addI_ne hne x).1
    idx := h.idx, lin := h.lin
    rng := fun u hu => ⟨by rw [(addI_ne hne x).2]; have := (h.rng u hu).1; omega, (h.rng u hu).2⟩
    line := h.line, bad := h.bad }
/-- a jump with a name -/
theorem Rel.jump {m : MkF} {s : Low} {k : Nat} (h : Rel m s k) (hk : k ≠ 0) (hne : m.fn ≠ []) (op : Int) {nm : List Int} (hnm : ∃ b : ByteArray, nm = bt b) :
    (∀ v, s.L nm = some v → Rel { m with fn := addI m.fn (op, 0), use := m.use ++ [(lenI m.fn, k, nm)] } { s with fs := addI s.fs (op, v) } k) ∧
    (s.L nm = none → Rel { m with fn := addI m.fn (op, 0), use := m.use ++ [(lenI m.fn, k, nm)] } { s with fs := addI s.fs (op, 0), U := addU s.U nm (s.line, lenI s.fs) } k) := by
  have hs : s.fs ≠ [] := by rw [h.fs]; exact (rsv_ne _ _ hne).1
  have hL := h.L nm
  have hidx : (m.use ++ [(lenI m.fn, k, nm)]).Pairwise (fun u v => u.1 < v.1) := List.pairwise_append.2 ⟨h.idx, List.pairwise_singleton _ _, fun u hu v hv => by
    obtain rfl : v = _ := by simpa using hv
    exact (h.rng u hu).1⟩
  have hlin : (m.use ++ [(lenI m.fn, k, nm)]).Pairwise (fun u v => u.2.1 ≤ v.2.1) := List.pairwise_append.2 ⟨h.lin, List.pairwise_singleton _ _, fun u hu v hv => by
    obtain rfl : v = _ := by simpa using hv
    exact (h.rng u hu).2.2.1⟩
  have hrng : ∀ u ∈ m.use ++ [(lenI m.fn, k, nm)], u.1 < lenI (addI m.fn (op, 0)) ∧ u.2.1 ≠ 0 ∧ u.2.1 ≤ k ∧ ∃ b : ByteArray, u.2.2 = bt b := fun u hu => by
    rw [(addI_ne hne (op, 0)).2]
    rcases List.mem_append.1 hu with hu | hu
    · have := h.rng u hu
      exact ⟨by omega, this.2⟩
    · obtain rfl : u = _ := by simpa using hu
      exact ⟨Nat.lt_succ_self _, hk, Nat.le_refl _, hnm⟩
  have hbeg : ∀ x, m.began = false ↔ (s.hg = false ∧ s.tx = [] ∧ addI s.fs x = []) := fun x => by
    rw [h.beg]
    constructor
    · intro q; exact absurd q.2.2 hs
    · intro q; exact absurd q.2.2 (addI_ne hs x).1
  have hins : m.inside = false ↔ addI m.fn (op, 0) = [] := by rw [h.ins]; simp [hne, (addI_ne hne (op, 0)).1]
  refine ⟨fun v hv => ?_, fun hv => ?_⟩
  · rw [hv] at hL
    obtain ⟨l, hl, rfl⟩ : ∃ l, m.lab.find? (fun l => l.1 == nm) = some l ∧ l.2 = v := by
      cases hf : m.lab.find? (fun l => l.1 == nm) with
      | none => rw [hf] at hL; cases hL
      | some l => rw [hf] at hL; exact ⟨l, rfl, (Option.some.inj hL).symm⟩
    exact { gl := h.gl, tx := h.tx
            fs := by show addI s.fs _ = _; rw [rsv_met hne (fun u hu => (h.rng u hu).1) hl, h.fs]
            L := h.L
            U := fun t => by
              show s.U t = _
              rw [h.U]
              unfold pnd
              by_cases e : t = nm
              · subst e; rw [hl]; simp
              · have : (nm == t) = false := by simp only [beq_eq_false_iff_ne, ne_eq]; exact fun q => e q.symm
                rw [List.filter_append]; simp [this]
            beg := hbeg _, ins := hins, non := fun q => absurd q (addI_ne hne _).1, idx := hidx, lin := hlin, rng := hrng, line := h.line, bad := h.bad }
  · rw [hv] at hL
    have hl : m.lab.find? (fun l => l.1 == nm) = none := by
      cases hf : m.lab.find? (fun l => l.1 == nm) with
      | none => rfl
      | some l => rw [hf] at hL; cases hL
    exact { gl := h.gl, tx := h.tx
            fs := by show addI s.fs _ = _; rw [rsv_new hne (fun u hu => (h.rng u hu).1) hl, h.fs]
            L := h.L
            U := fun t => by
              show addU s.U nm (s.line, lenI s.fs) t = _
              unfold addU
              rw [h.U]
              unfold pnd
              by_cases e : t = nm
              · subst e
                rw [if_pos rfl, hl]
                simp only [Option.isSome_none, Bool.false_eq_true, if_false, List.filter_append, List.map_append]
                rw [h.line, h.len hne]; simp
              · have : (nm == t) = false := by simp only [beq_eq_false_iff_ne, ne_eq]; exact fun q => e q.symm
                rw [if_neg e, List.filter_append]; simp [this]
            beg := hbeg _, ins := hins, non := fun q => absurd q (addI_ne hne _).1, idx := hidx, lin := hlin, rng := hrng, line := h.line, bad := h.bad }
/-- what words do, in memory and to the program -/
def Both (m : MkF) (k : Nat) (o1 : Option Low) (o2 : Option MkF) : Prop := (o1 = none → o2 = none) ∧ ∀ s', o1 = some s' → ∃ m', o2 = some m' ∧ Rel m' s' k
theorem Both.none {m : MkF} {k : Nat} : Both m k none none := ⟨fun _ => rfl, fun s' e => (by cases e)⟩
theorem Both.some {m m' : MkF} {s' : Low} {k : Nat} (h : Rel m' s' k) : Both m k (some s') (some m') := ⟨(fun e => (by cases e)), (fun s2 e => (by cases e; exact ⟨m', rfl, h⟩))⟩
theorem Rel.insn {m : MkF} {s : Low} {k : Nat} (h : Rel m s k) (hk : k ≠ 0) (w : List Int) (l : List (List Int)) (hb : ∀ t ∈ l, ∃ b : ByteArray, t = bt b) : Both m k (insG s w l) (m.ins plO k w l) := by
  unfold insG MkF.ins
  by_cases h0 : opF w = 0 ∨ m.inside = false
  · rw [if_pos h0, if_pos (by rw [h.nil]; exact h0)]
    exact .none
  · rw [if_neg h0, if_neg (by rw [h.nil]; exact h0)]
    have hop : opF w ≠ 0 := fun q => h0 (.inl q)
    have hne : m.fn ≠ [] := fun q => h0 (.inr (h.ins.2 q))
    by_cases hp : howF (opF w) = 0
    · rw [if_pos hp, if_neg (fun q => (plo_how hop).1 q hp)]
      by_cases hl : l = []
      · rw [if_pos hl, if_pos hl]; exact .some (h.num hne _)
      · rw [if_neg hl, if_neg hl]; exact .none
    · rw [if_neg hp, if_pos ((plo_how hop).2 hp)]
      match l, hb with
      | [], _ => exact .none
      | _ :: _ :: _, _ => exact .none
      | [t], hb =>
        simp only
        cases ho : opnF (opF w) t with
        | none => exact .none
        | some o =>
          cases o with
          | inl a => exact .some (h.num hne _)
          | inr nm =>
            simp only
            have hnm : nm = t := by
              by_cases h6 : opF w = 14 ∨ opF w = 15
              · rw [opn_jump h6] at ho
                split at ho
                · cases ho
                · split at ho
                  · cases ho; rfl
                  · cases ho
              · exfalso
                unfold opnF at ho
                split at ho
                · split at ho
                  · split at ho <;> cases ho
                  · cases ho
                · split at ho
                  · split at ho
                    · cases ho
                    · obtain ⟨x, _, e⟩ := Option.map_eq_some_iff.1 ho; cases e
                  · split at ho
                    · split at ho
                      · cases ho
                      · obtain ⟨x, _, e⟩ := Option.map_eq_some_iff.1 ho; cases e
                    · split at ho
                      · split at ho
                        · obtain ⟨x, _, e⟩ := Option.map_eq_some_iff.1 ho; cases e
                        · cases ho
                      · obtain ⟨x, _, e⟩ := Option.map_eq_some_iff.1 ho; cases e
            subst hnm
            have hj := h.jump hk hne (opF w) (hb nm (by simp))
            cases hL : s.L nm with
            | some v => exact .some (hj.1 v hL)
            | none => exact .some (hj.2 hL)
theorem Rel.say {m : MkF} {s : Low} {k : Nat} (h : Rel m s k) (hk : k ≠ 0) (l : List (List Int)) (hb : ∀ t ∈ l, ∃ b : ByteArray, t = bt b) {o : Option Low} (ho : Say s l o) : Both m k o (m.words plO k l) := by
  match l, hb, ho with
  | [], _, ho =>
    have e : o = some s := ho
    subst e
    exact .some h
  | w :: r, hb, ho =>
    unfold Say at ho
    simp only at ho
    by_cases hl : w.getLast? = some 58
    · rw [if_pos hl] at ho
      subst ho
      rw [words_lab m k r hl]
      by_cases hr : r = []
      · subst hr
        rw [if_pos rfl]
        have := h.mark w.dropLast
        exact ⟨this.1.1, this.2⟩
      · rw [if_neg hr, show markG s w.dropLast r = none from by unfold markG; rw [if_pos (.inr (.inl hr))]]
        exact .none
    · rw [if_neg hl] at ho
      rw [words_not m k r hl]
      by_cases h1 : w = byS "globals"
      · rw [if_pos h1] at ho ⊢
        unfold MkF.globals
        split at ho
        · rename_i n hn
          rw [hn]
          simp only
          split at ho
          · rename_i hc
            subst ho
            rw [if_neg (by rw [h.beg.2 hc]; decide)]
            exact .some (h.glob n)
          · rename_i hc
            subst ho
            rw [if_pos (by cases hbg : m.began with
              | true => rfl
              | false => exact absurd (h.beg.1 hbg) hc)]
            exact .none
        · rename_i hn
          subst ho
          cases hq : numsF r 1 with
          | none => exact .none
          | some ns =>
            match ns, hq with
            | [n], hq => exact absurd hq (hn n)
            | [], _ => exact .none
            | _ :: _ :: _, _ => exact .none
      · rw [if_neg h1] at ho ⊢
        by_cases h2 : w = byS "func"
        · rw [if_pos h2] at ho ⊢
          unfold MkF.func
          split at ho
          · rename_i n1 n2 n3 hn
            rw [hn]
            simp only
            obtain ⟨b, hb1, rfl⟩ := ho
            exact .some (h.func hb1 n1 n2 n3)
          · rename_i hn
            subst ho
            cases hq : numsF r 3 with
            | none => exact .none
            | some ns =>
              match ns, hq with
              | [n1, n2, n3], hq => exact absurd hq (hn n1 n2 n3)
              | [], _ => exact .none
              | [_], _ => exact .none
              | [_, _], _ => exact .none
              | _ :: _ :: _ :: _ :: _, _ => exact .none
        · rw [if_neg h2] at ho ⊢
          by_cases h3 : w = byS "text" ∧ m.inside = false
          · rw [if_pos (by rw [h.nil]; exact h3)] at ho
            rw [if_pos h3]
            unfold MkF.text
            match r, ho with
            | [], ho => simp only at ho; subst ho; exact .none
            | _ :: _ :: _, ho => simp only at ho; subst ho; exact .none
            | [t], ho =>
              simp only at ho
              subst ho
              simp only
              rw [if_neg (by rw [h3.2]; decide)]
              cases quoF t 34 with
              | none => exact .none
              | some b => exact .some (h.text b)
          · rw [if_neg (by rw [h.nil]; exact h3)] at ho
            rw [if_neg h3]
            subst ho
            exact h.insn hk w r fun t ht => hb t (by simp [ht])
end Go.Proofs.YtcnjlbjpeklgkaaGreatDoor
namespace Go.Proofs.YtcnjlbjpeklgkaaGreatDoor
open Go.RowKit
set_option linter.unusedVariables false
set_option linter.unusedSimpArgs false

def held : Sc → List Int
  | .gap => []
  | .word w => w
  | .quo _ w => w
  | .esc _ w => w
  | .shut w => w
theorem ws_mem (l : List Int) : ∀ (s : Sc) (r : List (List Int)), wsA s l = some r → ∀ w ∈ r, ∀ c ∈ w, c ∈ held s ∨ c ∈ l := by
  induction l with
  | nil =>
    intro s r h
    cases s <;> simp only [wsA] at h <;> cases h <;> simp [held]
  | cons c l ih =>
    have key : ∀ (s s' : Sc) (r : List (List Int)), (∀ x ∈ held s', x ∈ held s ∨ x = c) → wsA s' l = some r → ∀ w ∈ r, ∀ x ∈ w, x ∈ held s ∨ x ∈ c :: l := fun s s' r h1 h3 w hw x hx => by
      rcases ih s' r h3 w hw x hx with q | q
      · rcases h1 x q with q | q
        · exact .inl q
        · exact .inr (by simp [q])
      · exact .inr (by simp [q])
    have key2 : ∀ (v : List Int) (r : List (List Int)), (wsA .gap l).map (v :: ·) = some r → ∀ w ∈ r, ∀ x ∈ w, x ∈ v ∨ x ∈ c :: l := fun v r h w hw x hx => by
      obtain ⟨r', h', rfl⟩ := Option.map_eq_some_iff.1 h
      rcases List.mem_cons.1 hw with rfl | hw
      · exact .inl hx
      · rcases ih .gap r' h' w hw x hx with q | q
        · simp [held] at q
        · exact .inr (by simp [q])
    have key3 : ∀ (v : List Int) (r : List (List Int)), some [v] = some r → ∀ w ∈ r, ∀ x ∈ w, x ∈ v ∨ x ∈ c :: l := fun v r h w hw x hx => by
      cases h
      obtain rfl : w = v := by simpa using hw
      exact .inl hx
    intro s r h
    cases s with
    | gap =>
      simp only [wsA] at h
      split at h
      · exact key _ _ _ (by simp [held]) h
      · split at h
        · cases h; intro w hw; simp at hw
        · split at h
          · exact key _ _ _ (by simp [held]) h
          · exact key _ _ _ (by simp [held]) h
    | word w =>
      simp only [wsA] at h
      split at h
      · exact key2 w r h
      · split at h
        · exact key3 w r h
        · exact key _ _ _ (by simp [held]) h
    | quo q w =>
      simp only [wsA] at h
      split at h
      · exact key _ _ _ (by simp [held]) h
      · split at h
        · exact key _ _ _ (by simp [held]) h
        · exact key _ _ _ (by simp [held]) h
    | esc q w =>
      simp only [wsA] at h
      exact key _ _ _ (by simp [held]) h
    | shut w =>
      simp only [wsA] at h
      split at h
      · exact key2 w r h
      · split at h
        · exact key3 w r h
        · cases h
theorem bt_ex {l : List Int} (h : ∀ c ∈ l, 0 ≤ c ∧ c ≤ 255) : ∃ b : ByteArray, l = bt b := by
  refine ⟨⟨(l.map (fun c => UInt8.ofNat c.toNat)).toArray⟩, ?_⟩
  unfold bt
  simp only [List.map_map]
  conv => lhs; rw [← List.map_id l]
  apply List.map_congr_left
  intro c hc
  have := h c hc
  simp only [id, Function.comp]
  rw [UInt8.toNat_ofNat']
  omega
theorem bt_byte (x : ByteArray) : ∀ c ∈ bt x, 0 ≤ c ∧ c ≤ 255 := by
  intro c hc
  unfold bt at hc
  obtain ⟨u, _, rfl⟩ := List.mem_map.1 hc
  have := UInt8.toNat_lt u
  omega
theorem words_bt {x : ByteArray} {ws : List (List Int)} (h : wsF (bt x) = some ws) : ∀ t ∈ ws, ∃ b : ByteArray, t = bt b := fun t ht => bt_ex fun c hc => by
  rcases ws_mem _ _ _ h t ht c hc with q | q
  · simp [held] at q
  · exact bt_byte x c q
/-- a line -/
theorem Rel.read {m : MkF} {s s' : Low} {k : Nat} (h : Rel m s k) (x : ByteArray) (hr : ReadR s (bt x) s') : Rel (m.line plO (k + 1) (bt x)) s' (k + 1) := by
  unfold ReadR at hr
  unfold MkF.line
  cases hw : wsF (bt x) with
  | none =>
    rw [hw] at hr
    simp only at hr
    subst hr
    exact h.wrong
  | some ws =>
    rw [hw] at hr
    simp only at hr
    obtain ⟨o, ho, rfl⟩ := hr
    obtain ⟨h1, h2⟩ := h.up.say (Nat.succ_ne_zero k) ws (words_bt hw) ho
    simp only [Option.bind_some]
    cases o with
    | none => rw [h1 rfl]; exact h.wrong
    | some s2 =>
      obtain ⟨m', hm, hr⟩ := h2 s2 rfl
      rw [hm]; exact hr
/-- how long the codes are -/
theorem setA_map (fs : List FnF) (i : Nat) (a : Int) : (setA fs i a).map (fun f => f.2.2.2.length) = fs.map (fun f => f.2.2.2.length) := by
  rcases Classical.em (fs = []) with rfl | h
  · rfl
  · obtain ⟨gs, f, rfl⟩ := snoc_of h
    rw [set_cons]; simp
theorem rsv_map (lab : List (List Int × Int)) : ∀ (us : List (Nat × Nat × List Int)) (fs : List FnF), (rsv lab fs us).map (fun f => f.2.2.2.length) = fs.map (fun f => f.2.2.2.length)
  | [], _ => rfl
  | u :: us, fs => by
    have ih := rsv_map lab us
    unfold rsv at ih ⊢
    rw [List.foldl_cons, ih]
    split
    · exact setA_map _ _ _
    · rfl
structure MLim (m : MkF) (k : Nat) : Prop where
  tx : m.tx.length ≤ k
  fn : m.fn.length ≤ k
  cd : ∀ n ∈ m.fn.map (fun f => f.2.2.2.length), n ≤ k
  us : m.use.length ≤ k
theorem Rel.lim {m : MkF} {s : Low} {k : Nat} (h : Rel m s k) (g : MLim m k) (hk : k ≤ 1000000) : Lim s := by
  have hmap : s.fs.map (fun f => f.2.2.2.length) = m.fn.map (fun f => f.2.2.2.length) := by rw [h.fs, rsv_map]
  refine ⟨by rw [h.tx]; have := g.tx; omega, ?_, fun f hf => ?_, fun t => ?_, fun t u hu => ?_⟩
  · have := congrArg List.length hmap
    simp only [List.length_map] at this
    have := g.fn
    omega
  · have := g.cd f.2.2.2.length (by rw [← hmap]; exact List.mem_map.2 ⟨f, hf, rfl⟩)
    omega
  · rw [h.U]
    unfold pnd
    split
    · simp
    · rw [List.length_map]
      have := List.length_filter_le (fun u => u.2.2 == t) m.use
      have := g.us
      omega
  · rw [h.U] at hu
    unfold pnd at hu
    split at hu
    · simp at hu
    · obtain ⟨v, hv, rfl⟩ := List.mem_map.1 hu
      have hv1 := (List.mem_filter.1 hv).1
      have hr := h.rng v hv1
      have hne : m.fn ≠ [] := fun q => by rw [h.non q] at hv1; simp at hv1
      exact ⟨hr.2.1, by rw [h.len hne]; exact hr.1⟩
theorem addI_map {fs : List FnF} (h : fs ≠ []) (x : InF) {k : Nat} (hk : ∀ n ∈ fs.map (fun f => f.2.2.2.length), n ≤ k) : (∀ n ∈ (addI fs x).map (fun f => f.2.2.2.length), n ≤ k + 1) ∧ (addI fs x).length = fs.length := by
  obtain ⟨gs, f, rfl⟩ := snoc_of h
  rw [add_cons]
  simp only [List.map_append, List.map_cons, List.map_nil, List.mem_append, List.length_append, List.length_cons, List.length_nil, Nat.zero_add, List.mem_singleton] at hk ⊢
  refine ⟨fun n hn => ?_, trivial⟩
  rcases hn with hn | rfl
  · have := hk n (.inl hn); omega
  · have := hk _ (.inr rfl); omega
theorem MLim.up {m : MkF} {k : Nat} (g : MLim m k) : MLim m (k + 1) := ⟨by have := g.tx; omega, by have := g.fn; omega, fun n hn => by have := g.cd n hn; omega, by have := g.us; omega⟩
theorem MLim.ins {m m' : MkF} {k line : Nat} (g : MLim m k) (hi : m.inside = false ↔ m.fn = []) {w : List Int} {l : List (List Int)} (h : m.ins plO line w l = some m') : MLim m' (k + 1) := by
  unfold MkF.ins at h
  split at h
  · cases h
  · rename_i h0
    have hne : m.fn ≠ [] := fun q => h0 (.inr (hi.2 q))
    have ha := fun x => addI_map hne x g.cd
    have num : ∀ x : InF, MLim { m with fn := addI m.fn x } (k + 1) := fun x => ⟨by have := g.tx; show m.tx.length ≤ k + 1; omega, by have := g.fn; show (addI m.fn x).length ≤ k + 1; rw [(ha x).2]; omega, (ha x).1, by have := g.us; show m.use.length ≤ k + 1; omega⟩
    split at h
    · split at h
      · split at h
        · cases h; exact num _
        · cases h
          exact ⟨by have := g.tx; show m.tx.length ≤ k + 1; omega, by have := g.fn; show (addI m.fn _).length ≤ k + 1; rw [(ha _).2]; omega, (ha _).1, by have := g.us; show (m.use ++ [_]).length ≤ k + 1; rw [List.length_append]; simp; omega⟩
        · cases h
      · cases h
    · split at h
      · cases h; exact num _
      · cases h
theorem MLim.words {m m' : MkF} {s : Low} {k line : Nat} (r : Rel m s k) (g : MLim m k) {l : List (List Int)} (h : m.words plO line l = some m') : MLim m' (k + 1) := by
  unfold MkF.words at h
  split at h
  · cases h; exact g.up
  · split at h
    · unfold MkF.mark at h
      split at h
      · cases h; exact ⟨g.up.tx, g.up.fn, g.up.cd, g.up.us⟩
      · cases h
    · split at h
      · unfold MkF.globals at h
        split at h
        · split at h
          · cases h
          · cases h; exact ⟨g.up.tx, g.up.fn, g.up.cd, g.up.us⟩
        · cases h
      · split at h
        · unfold MkF.text at h
          split at h
          · split at h
            · cases h
            · obtain ⟨b, _, rfl⟩ := Option.map_eq_some_iff.1 h
              exact ⟨by have := g.tx; show (m.tx ++ [b]).length ≤ k + 1; rw [List.length_append]; simp; omega, g.up.fn, g.up.cd, g.up.us⟩
          · cases h
        · split at h
          · unfold MkF.func at h
            split at h
            · cases h
              obtain ⟨b2, he, _⟩ := ends_eq m (fun u hu => (r.rng u hu).2.1)
              rw [he]
              have hm := rsv_map m.lab m.use m.fn
              refine ⟨g.up.tx, ?_, ?_, by simp⟩
              · have := congrArg List.length hm
                simp only [List.length_map] at this
                have := g.fn
                show (rsv m.lab m.fn m.use ++ [_]).length ≤ k + 1
                rw [List.length_append]; simp; omega
              · intro n hn
                simp only [List.map_append, List.mem_append] at hn
                rw [hm] at hn
                rcases hn with hn | hn
                · exact g.up.cd n hn
                · simp at hn; omega
            · cases h
          · exact g.ins r.ins h
theorem MLim.line {m : MkF} {s : Low} {k : Nat} (r : Rel m s k) (g : MLim m k) (t : List Int) : MLim (m.line plO (k + 1) t) (k + 1) := by
  unfold MkF.line
  cases hw : (wsF t).bind (m.words plO (k + 1)) with
  | some m' =>
    obtain ⟨ws, _, h⟩ := Option.bind_eq_some_iff.1 hw
    exact g.words r h
  | none =>
    simp only
    rw [(wrong_bad m (k + 1)).2]
    exact ⟨g.up.tx, g.up.fn, g.up.cd, g.up.us⟩
end Go.Proofs.YtcnjlbjpeklgkaaGreatDoor
namespace Go.Proofs.YtcnjlbjpeklgkaaGreatDoor
open Go.RowKit
set_option linter.unusedVariables false
set_option linter.unusedSimpArgs false

theorem out_putObj (W : World) (l : Nat) (o : Obj) : Out l (l + 1) W (W.putObj l o) :=
  ⟨rfl, rfl, rfl, by simp, fun k _ h2 => World.putObj_heap_other (by omega)⟩
/-- the record of a loop at the world w: what it bears besides its state and its pending jump -/
def RecOf (a : Act) (ps : Array Tmp) (assign body : Code) (D : Nat) (rec : LoopState → Option Code → Loop) : Prop :=
  ∃ fn, rec = fun st pe => { state := st, pending := pe, fn, tmps := a.tmps, params := ps, assign, body, defers := D }
/-- a statement 'for .. := range g': the iterator is called with yield; behind it all have come (K), or a round has left (Kx) -/
theorem range_any {P : Program} {g : Operand} {ps : Array Tmp} {assign body : Code} {Q : Exit → Act → World → Prop} {a : Act} {w : World} {gf : Nat} {lb : Array Value}
    (hg : a.eval g = .func (.func gf) #[] lb) (eg : ∀ args w, (callFunc gf args).run P w = .ok (.enter gf args) w) (K : World → Prop) (Kx : Code → World → Prop)
    (H : ∀ rec, RecOf a ps assign body w.heap.size rec → ∀ W1, W1 = (w.alloc (.deferred (some []))).alloc (.loop (rec .ready none)) →
      Calls P gf (#[.func (.yield (w.heap.size + 1)) #[] #[]] ++ lb) W1 fun e W => (∃ v, e = .returned v) ∧ W.heap[w.heap.size]? = some (.deferred (some [])) ∧
        ((K W ∧ W.heap[w.heap.size + 1]? = some (.loop (rec .ready none))) ∨ ∃ c, Kx c W ∧ W.heap[w.heap.size + 1]? = some (.loop (rec .done (some c)))))
    (hdone : ∀ W W', K W → Out (w.heap.size + 1) (w.heap.size + 2) W W' → W'.heap[w.heap.size]? = some (.deferred (some [])) → Q .normal { a with defers := { target := .collected w.heap.size, args := #[] } :: a.defers } W')
    (hstop : ∀ c W W', Kx c W → Out (w.heap.size + 1) (w.heap.size + 2) W W' → W'.heap[w.heap.size]? = some (.deferred (some [])) → c.wpIn Fence.wide 0 P Q { a with defers := { target := .collected w.heap.size, args := #[] } :: a.defers } W') :
    (Code.rangeFunc g ps assign body).wpIn Fence.wide 0 P Q a w := by
  refine wpIn_rangeFunc ?_
  intro fn hfn
  obtain ⟨rec, hrec⟩ : ∃ rec : LoopState → Option Code → Loop, rec = fun st pe => { state := st, pending := pe, fn, tmps := a.tmps, params := ps, assign, body, defers := w.heap.size } := ⟨_, rfl⟩
  have hc := H rec ⟨fn, hrec⟩ _ rfl
  refine ⟨w.heap.size + 1, [{ target := .collected w.heap.size, args := #[] }], (w.alloc (.deferred (some []))).alloc (.loop (rec .ready none)), { target := .fn (.func gf) lb, args := #[.func (.yield (w.heap.size + 1)) #[] #[]] }, (w.alloc (.deferred (some []))).alloc (.loop (rec .ready none)), gf,
    #[.func (.yield (w.heap.size + 1)) #[] #[]] ++ lb, (w.alloc (.deferred (some []))).alloc (.loop (rec .ready none)), ?_, ?_, fun _ _ => trivial, ?_, fun h => by simp [Fence.wide] at h, ?_⟩
  · rw [hrec]; exact run_enterLoop_outer _ _ _ _ _
  · simp only [resolve, hg]
    simp [go_sem]
  · simp [invoke, go_sem, eg]
  · refine callsIn_wide.2 (hc.mono ?_)
    rintro e W ⟨⟨v, rfl⟩, hD, ⟨hK, hl⟩ | ⟨c, hK, hl⟩⟩
    · refine ⟨none, _, by have := run_endLoop (P := P) hl (by rw [hrec]; simp); rw [hrec] at this; exact this, hdone W _ hK (out_putObj _ _ _) ((World.putObj_heap_other (by omega)).trans hD)⟩
    · refine ⟨some c, _, by have := run_endLoop (P := P) hl (by rw [hrec]; simp); rw [hrec] at this; exact this, hstop c W _ hK (out_putObj _ _ _) ((World.putObj_heap_other (by omega)).trans hD)⟩
/-- how the body of a round may be left -/
def rPost (l : Nat) (rec : LoopState → Option Code → Loop) (R : Ending → World → Prop) : Exit → Act → World → Prop
  | .normal, _, W => W.heap[l]? = some (.loop (rec .busy none)) ∧ ∀ W', Out l (l + 1) W W' → W'.heap[l]? = some (.loop (rec .ready none)) → R (.returned (.bool true)) W'
  | .ret, _, W => W.heap[l]? = some (.loop (rec .busy none)) ∧ ∀ W', Out l (l + 1) W W' → W'.heap[l]? = some (.loop (rec .done (some .ret))) → R (.returned (.bool false)) W'
  | .exit id, _, W => W.heap[l]? = some (.loop (rec .busy none)) ∧ ∀ W', Out l (l + 1) W W' → W'.heap[l]? = some (.loop (rec .done (some (.exit id)))) → R (.returned (.bool false)) W'
  | .goto t, _, W => W.heap[l]? = some (.loop (rec .busy none)) ∧ ∀ W', Out l (l + 1) W W' → W'.heap[l]? = some (.loop (rec .done (some (.goto t)))) → R (.returned (.bool false)) W'
  | .panic _, _, _ => False
  | .outgrown, _, _ => False
/-- one round -/
theorem round_any {P : Program} {a : Act} {ps : Array Tmp} {assign body : Code} {D l : Nat} {rec : LoopState → Option Code → Loop} {W : World} {args : Array Value} {R : Ending → World → Prop}
    (hrec : RecOf a ps assign body D rec) (hl : W.heap[l]? = some (.loop (rec .ready none))) (hs : args.size = ps.size)
    (h : assign.wpIn (Fence.wide.inRound l) 0 P (Exit.then (fun a1 W1 => W1.heap[l]? = some (.loop (rec .ready none)) ∧
      ∀ W2, Out l (l + 1) W1 W2 → W2.heap[l]? = some (.loop (rec .busy none)) → body.wpIn (Fence.wide.inRound l) 0 P (rPost l rec R) a1 W2) (fun _ _ _ => False))
      { tmps := (ps.zip args).foldl (fun t (p, v) => t.setIfInBounds p v) a.tmps, defers := [] } W) : YieldAt Fence.wide 0 P l args W R := by
  obtain ⟨fn, rfl⟩ := hrec
  have hy := run_yield (P := P) (args := args) hl hs
  refine ⟨fn, _, assign, body, hy, roundIn_of_wpIn trivial (wpIn_mono h ?_)⟩
  rintro e a1 W1 he
  cases e with
  | normal =>
    obtain ⟨hl1, hb⟩ := he
    have hlt : l < W1.heap.size := heap_lt hl1
    refine ⟨_, run_beginRound hl1 rfl, wpIn_mono (hb _ (out_putObj _ _ _) (World.putObj_heap_same hlt)) ?_⟩
    rintro e2 a2 W3 hp
    cases e2 with
    | normal => exact ⟨_, _, run_endRound none hp.1, hp.2 _ (out_putObj _ _ _) (World.putObj_heap_same (heap_lt hp.1))⟩
    | ret => exact ⟨_, _, run_endRound (some .ret) hp.1, hp.2 _ (out_putObj _ _ _) (World.putObj_heap_same (heap_lt hp.1))⟩
    | exit id => exact ⟨_, _, run_endRound (some (.exit id)) hp.1, hp.2 _ (out_putObj _ _ _) (World.putObj_heap_same (heap_lt hp.1))⟩
    | goto t => exact ⟨_, _, run_endRound (some (.goto t)) hp.1, hp.2 _ (out_putObj _ _ _) (World.putObj_heap_same (heap_lt hp.1))⟩
    | panic ch => exact hp.elim
    | outgrown => exact hp.elim
  | ret => exact he.elim
  | exit id => exact he.elim
  | goto t => exact he.elim
  | panic ch => exact he.elim
  | outgrown => exact he.elim
end Go.Proofs.YtcnjlbjpeklgkaaGreatDoor
