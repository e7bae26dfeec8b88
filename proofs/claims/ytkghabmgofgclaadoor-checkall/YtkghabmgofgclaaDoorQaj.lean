import Derived.Test.YtkghabmgofgclaaDoorQaf
import Derived.Test.YtkghabmgofgclaaDoorQai
namespace Go.Proofs.YtkghabmgofgclaaDoor
open Go.RowKit
set_option linter.unusedVariables false
set_option linter.unusedSimpArgs false

/-- the numbers, the least last -/
def rv (R : List Nat) : List Int := R.reverse.map fun (x : Nat) => (x : Int)
theorem rv_len (R : List Nat) : (rv R).length = R.length := by unfold rv; simp
theorem rv_cons (a : Nat) (R : List Nat) : rv (a :: R) = rv R ++ [(a : Int)] := by unfold rv; simp
theorem rv_mem {R : List Nat} {x : Int} : x ∈ rv R ↔ ∃ a ∈ R, x = (a : Int) := by
  unfold rv
  simp only [List.mem_map, List.mem_reverse]
  constructor
  · rintro ⟨a, h1, h2⟩; exact ⟨a, h1, h2.symm⟩
  · rintro ⟨a, h1, h2⟩; exact ⟨a, h1, h2.symm⟩
theorem not_rv {R : List Nat} {j : Nat} (h : j ∉ R) : (j : Int) ∉ rv R := fun q => by
  obtain ⟨a, ha, e⟩ := rv_mem.1 q
  have : j = a := by omega
  exact h (this ▸ ha)
theorem rv_fall : ∀ {R : List Nat}, R.Pairwise (· < ·) → (rv R).Pairwise (fun a b => b < a)
  | [], _ => by simp [rv]
  | a :: R, h => by
    rw [List.pairwise_cons] at h
    rw [rv_cons, List.pairwise_append]
    refine ⟨rv_fall h.2, by simp, fun x hx y hy => ?_⟩
    simp at hy
    subst hy
    obtain ⟨b, hb, rfl⟩ := rv_mem.1 hx
    have := h.1 b hb
    omega
theorem rv_ins {j : Nat} : ∀ {R : List Nat} {q : Nat}, R.Pairwise (· < ·) → j ∉ R → FalAt (rv R) (j : Int) q → rv (insF j R) = (rv R).take q ++ (j : Int) :: (rv R).drop q
  | [], q, _, _, _ => by simp [insF, rv]
  | a :: R, q, hs, hj, hq => by
    rw [List.pairwise_cons] at hs
    rw [List.mem_cons] at hj
    obtain ⟨h1, h2, h3⟩ := hq
    have hlast : (rv (a :: R))[R.length]? = some (a : Int) := by rw [rv_cons, List.getElem?_append_right (by rw [rv_len]; omega), rv_len]; simp
    have hl : (rv (a :: R)).length = R.length + 1 := by rw [rv_len]; rfl
    unfold insF
    split
    · rename_i hlt
      have hqR : q ≤ R.length := by
        rcases Nat.lt_or_ge R.length q with c | c
        · have := h2 _ _ hlast c; omega
        · exact c
      have ih := rv_ins (R := R) (q := q) hs.2 (fun c => hj (.inr c)) ⟨by rw [rv_len]; exact hqR, fun m y hm hmq => h2 m y (by rw [rv_cons, List.getElem?_append_left (by rw [rv_len]; omega)]; exact hm) hmq, fun m y hm hmq => h3 m y (by
        have := (List.getElem?_eq_some_iff.1 hm).1
        rw [rv_cons, List.getElem?_append_left this]; exact hm) hmq⟩
      rw [rv_cons, ih, rv_cons, List.take_append_of_le_length (by rw [rv_len]; exact hqR), List.drop_append_of_le_length (by rw [rv_len]; exact hqR)]
      simp
    · rename_i hlt
      have hqe : q = R.length + 1 := by
        rcases Nat.lt_or_ge q (R.length + 1) with c | c
        · exfalso
          obtain ⟨y, hy⟩ : ∃ y, (rv (a :: R))[q]? = some y := ⟨_, List.getElem?_eq_getElem (by omega)⟩
          have h4 := h3 q y hy (Nat.le_refl _)
          obtain ⟨b, hb, rfl⟩ := rv_mem.1 (List.mem_of_getElem? hy)
          rcases List.mem_cons.1 hb with rfl | hb
          · omega
          · have := hs.1 b hb
            omega
        · omega
      rw [rv_cons, hqe, List.take_of_length_le (by omega), List.drop_of_length_le (by omega)]
/-- the walk at p: its function, the depths in the row dg, what is still to be gone through -/
def WK (w : World) (P L C : Int) (ca : Option Addr) (n cc : Nat) (k g : Int) (ta : Option Addr) (nt tc : Nat) (fa : Option Addr) (nf fc : Nat) (p dg : Nat) (D : List Int) (R : List Nat) (ro : Option Nat) : Prop :=
  ∃ ra rc, Bl w p #[.int .i64 P, .int .i64 L, .int .i64 C, .slice ca n cc, .int .i64 k, .int .i64 g, .slice ta nt tc, .slice fa nf fc, .slice (some ⟨dg, 0, none⟩) n n, .slice ra R.length rc] 155 ∧ Bl w dg (ivs D).toArray 3 ∧ D.length = n ∧ w.ownsRow (p + 1) 3 1 (.slice ra R.length rc) R.length (ivs (rv R)) ∧ dg < p ∧ (Value.slice ra R.length rc).ownBlock = ro
/-- what a step of the walk leaves: its own blocks and new ones alone change -/
def SW (p dg : Nat) (ro : Option Nat) (w : World) (ro' : Option Nat) (w' : World) : Prop := Fx (fun k => k = p ∨ k = dg ∨ ro = some k) w w' ∧ (ro' = ro ∨ ∃ g, ro' = some g ∧ w.heap.size ≤ g)
theorem SW.refl (p dg : Nat) (ro : Option Nat) (w : World) : SW p dg ro w ro w := ⟨Fx.refl _ _, .inl rfl⟩
theorem SW.trans {p dg : Nat} {o o1 o2 : Option Nat} {w w1 w2 : World} (h : SW p dg o w o1 w1) (g : SW p dg o1 w1 o2 w2) : SW p dg o w o2 w2 := by
  obtain ⟨h1, h2⟩ := h
  obtain ⟨g1, g2⟩ := g
  refine ⟨h1.then g1 fun k hk hq => ?_, ?_⟩
  · rcases hq with hq | hq | hq
    · exact .inl hq
    · exact .inr (.inl hq)
    · rcases h2 with rfl | ⟨x, rfl, hx⟩
      · exact .inr (.inr hq)
      · cases hq; omega
  · rcases g2 with rfl | ⟨x, rfl, hx⟩
    · rcases h2 with rfl | ⟨x, rfl, hx⟩
      · exact .inl rfl
      · exact .inr ⟨x, rfl, hx⟩
    · exact .inr ⟨x, rfl, Nat.le_trans h1.size hx⟩
theorem SW.quiet {p dg : Nat} {o o' : Option Nat} {w w' w2 : World} (h : SW p dg o w o' w') (x : Out 0 0 w' w2) : SW p dg o w o' w2 := ⟨h.1.trans (Fx.of_out x), h.2⟩
theorem SW.ahead {p dg : Nat} {o o' : Option Nat} {w w' w2 : World} (x : Out 0 0 w w') (h : SW p dg o w' o' w2) : SW p dg o w o' w2 := ⟨(Fx.of_out x).trans h.1, h.2.imp_right fun ⟨g, h1, h2⟩ => ⟨g, h1, Nat.le_trans x.size h2⟩⟩
/-- a block that is not the walk's -/
theorem SW.cell {p dg g c : Nat} {o o' : Option Nat} {w w' : World} {v : Value} (h : SW p dg o w o' w') (hc : w.cell? ⟨g, c, none⟩ = some v) (h1 : g ≠ p) (h2 : g ≠ dg) (h3 : o ≠ some g) : w'.cell? ⟨g, c, none⟩ = some v := h.1.cell hc (by
  rintro (q | q | q)
  · exact h1 q
  · exact h2 q
  · exact h3 q)
theorem SW.off {p dg g : Nat} {o o' : Option Nat} {w w' : World} (h : SW p dg o w o' w') (hg : g < w.heap.size) (h2 : o ≠ some g) : o' ≠ some g := by
  rcases h.2 with e | ⟨x, e, hx⟩
  · rw [e]; exact h2
  · rw [e]; intro q; cases q; omega
theorem own_cells {w : World} {base K cap : Nat} {ta : Option Addr} {F : List Int} (h : w.ownsRow base 3 1 (.slice ta K cap) K (ivs F)) : F.length = K ∧ K ≤ cap ∧ cap ≤ maxLen ∧ (K = 0 ∨ ∃ q, ta = some ⟨q, 0, none⟩ ∧ ∀ (j : Nat) y, F[j]? = some y → w.cell? ⟨q, 0 + j, none⟩ = some (.int .i64 y)) := by
  have hl : F.length = K := by have := h.1; rw [ivs_len, Nat.mul_one] at this; exact this
  rcases h.2 with ⟨he, h0⟩ | ⟨q, cap2, cur, he, hq1, hq2, hq3, hq4, hq5, hq6⟩
  · cases he
    exact ⟨hl, Nat.le_refl _, by unfold maxLen; omega, .inl rfl⟩
  · cases he
    refine ⟨hl, hq3, hq4, .inr ⟨q, rfl, fun j y hj => ?_⟩⟩
    have hj' : j < K := by have := (List.getElem?_eq_some_iff.1 hj).1; omega
    have := ivs_is hj
    rw [← hq6, Nat.mul_one, List.getElem?_take_of_lt hj'] at this
    rw [Nat.zero_add]
    have hB : Bl w q cur 3 := hq2
    exact hB.cell (by simpa using this)
theorem own_less {w : World} {base K q rc i : Nat} {R : List Nat} (h : w.ownsRow base 3 1 (.slice (some ⟨q, 0, none⟩) (K + 1) rc) (K + 1) (ivs (rv (i :: R)))) : w.ownsRow base 3 1 (.slice (some ⟨q, 0, none⟩) K rc) K (ivs (rv R)) := by
  have hl : R.length = K := by have := h.1; rw [ivs_len, rv_len, Nat.mul_one] at this; simpa using this
  refine ⟨by rw [ivs_len, rv_len, hl, Nat.mul_one], ?_⟩
  rcases h.2 with ⟨he, _⟩ | ⟨q2, cap2, cur, he, hq1, hq2, hq3, hq4, hq5, hq6⟩
  · cases he
  · cases he
    refine .inr ⟨q, rc, cur, rfl, hq1, hq2, by omega, hq4, hq5, ?_⟩
    have := congrArg (List.take K) hq6
    rw [Nat.mul_one, List.take_take, Nat.min_eq_left (by omega), rv_cons] at this
    rw [Nat.mul_one, this]
    unfold ivs
    rw [List.map_append, List.take_append_of_le_length (by rw [List.length_map, rv_len, hl]; omega), List.take_of_length_le (by rw [List.length_map, rv_len, hl]; omega)]
theorem WK.lo {w w' : World} {P L C : Int} {ca : Option Addr} {n cc : Nat} {k g : Int} {ta : Option Addr} {nt tc : Nat} {fa : Option Addr} {nf fc : Nat} {p dg : Nat} {D : List Int} {R : List Nat} {ro ro' : Option Nat} (h : WK w P L C ca n cc k g ta nt tc fa nf fc p dg D R ro) (x : SW p dg ro w ro' w') : Lo dg w w' := by
  obtain ⟨ra, rc, b1, b2, b3, b4, b5, b6⟩ := h
  refine x.1.wide fun z _ hz => ?_
  rcases hz with hz | hz | hz
  · omega
  · omega
  · have := (own_ge b4 (b6.trans hz)).1
    omega
theorem WK.off {w : World} {P L C : Int} {ca : Option Addr} {n cc : Nat} {k g : Int} {ta : Option Addr} {nt tc : Nat} {fa : Option Addr} {nf fc : Nat} {p dg : Nat} {D : List Int} {R : List Nat} {ro : Option Nat} (h : WK w P L C ca n cc k g ta nt tc fa nf fc p dg D R ro) {z : Nat} (hz : w.heap.size ≤ z) : z ≠ p ∧ z ≠ dg ∧ ro ≠ some z := by
  obtain ⟨ra, rc, b1, b2, b3, b4, b5, b6⟩ := h
  have := b1.lt
  refine ⟨by omega, by omega, fun e => ?_⟩
  have := (own_ge b4 (b6.trans e)).2
  omega
theorem fx_lo {S : Nat → Prop} {B : Nat} {w w' : World} (h : Fx S w w') (hS : ∀ k, S k → B ≤ k) : Lo B w w' := h.wide fun k _ q => hS k q
set_option maxHeartbeats 1000000 in
theorem wput_any {w : World} (P L C : Int) (ca : Option Addr) (n cc : Nat) (k g : Int) (ta : Option Addr) (nt tc : Nat) (fa : Option Addr) (nf fc : Nat) {p dg : Nat} {D : List Int} {R : List Nat} {ro : Option Nat} (h : WK w P L C ca n cc k g ta nt tc fa nf fc p dg D R ro) (j : Nat) (hj : j ∉ R) (hs : R.Pairwise (· < ·)) (hR : R.length ≤ 5000) :
    Calls Tryd.prog 101 #[.pointer (some ⟨p, 9, none⟩), .int .i64 j] w fun e w' => e = .returned (.tuple #[]) ∧ ∃ ro', WK w' P L C ca n cc k g ta nt tc fa nf fc p dg D (insF j R) ro' ∧ SW p dg ro w ro' w' := by
  obtain ⟨ra, rc, b1, b2, b3, b4, b5, b6⟩ := h
  have hpl := b1.lt
  obtain ⟨o1, o2, o3, o4⟩ := own_cells b4
  have HSr := hid_mk (search_any (x := (j : Int)) (cap := rc) o1 (by omega) o4 (rv_fall hs) (not_rv hj))
  have c9 := b1.cell (i := 9) rfl
  have HB1 := hid_mk b1
  have HB2 := hid_mk b2
  have HB4 := hid_mk b4
  have HN := hid_mk (And.intro b3 (And.intro b5 hpl))
  have HR6 := hid_mk b6
  have HJ := hid_mk (And.intro hs hj)
  obtain ⟨K, hK⟩ : ∃ K, R.length = K := ⟨_, rfl⟩
  rw [hK] at HSr HB4 c9 HB1 HR6
  have HK := hid_mk (And.intro hK (by omega : K ≤ 5000))
  clear b1 b2 b4 b3 b5 b6 o1 o2 o3 o4 hpl hs hj hR hK
  have HV := hid_mk (Bl.new w #[.int .i64 (j : Int)] 3)
  go_enter Tryd.func101, Tryd.ntmps101
  go_wp2_with (first
    | (go_at_call 110; refine HSr.out.mono ?_; rintro e w1 ⟨q, rfl, hq, rfl⟩; have HQ := hid_mk hq; clear hq)
    | (go_at_call 113; refine (insert_any (own_fx (S := fun _ => False) HB4.out (Fx.of_out ((Out.refl 0 0 _).alloc _)) (fun _ _ z => z)) (by have := HN.out.2.2; rw [size_alloc]; omega) (by have := HQ.out.1; rw [rv_len, HK.out.1] at this; exact this) (by have := HK.out.2; omega) HV.out (fun z hz => by have := (own_ge HB4.out hz).2; omega)).mono ?_; rintro e w2 ⟨a', cap', rfl, hown, hfx, hnew⟩; have B2 := (HB1.out.alloc (.cells #[.int .i64 (j : Int)] 3)).fx hfx (fun z => by have := (own_ge HB4.out z).1; omega); have y9 := B2.cell (i := 9) rfl; have z9 := B2.frozen 9; have HB := hid_mk B2; have HO2 := hid_mk hown; have HF2 := hid_mk hfx; have HW2 := hid_mk hnew; clear hown hfx hnew B2))
  have hR2 := rv_ins HJ.out.1 HJ.out.2 HQ.out
  have hL : K + 1 = (insF j R).length := by rw [ins_len, HK.out.1]
  refine bodyPost_end (results_none Tryd.results101 _ _ _) rfl ⟨rfl, (Value.slice a' (K + 1) cap').ownBlock, ⟨a', cap', ?_, ?_, HN.out.1, ?_, HN.out.2.1, by rw [← hL]⟩, ?_, ?_⟩
  · have := HB.out.set 9 (.slice a' (K + 1) cap')
    rw [← hL]
    exact this
  · refine ((HB2.out.alloc _).fx HF2.out (fun z => ?_)).other (q := ⟨p, 9, none⟩) (by have := HN.out.2.1; show p ≠ dg; omega) _
    have := (own_ge HB4.out z).1
    have := HN.out.2.1
    omega
  · rw [hR2, ← hL]
    refine own_fx (S := fun z => z = p) HO2.out ((Fx.refl (fun z => z = p) _).set (p := ⟨p, 9, none⟩) (.inl rfl) _) (fun z hz e => ?_)
    have := (own_ge HO2.out hz).1
    omega
  · have h1 : Fx (fun z => z = p ∨ z = dg ∨ ro = some z) _ w2 := (Fx.of_out ((Out.refl 0 0 _).alloc _)).trans (HF2.out.wide (fun z _ hz => .inr (.inr (HR6.out.symm.trans hz))))
    exact Fx.set h1 (p := ⟨p, 9, none⟩) (.inl (.inl rfl)) _
  · rw [← HR6.out]
    rcases HW2.out with z | ⟨z, z1, z2⟩
    · exact .inl z
    · exact .inr ⟨z, z1, by rw [size_alloc] at z2; omega⟩
set_option maxHeartbeats 1000000 in
theorem wtake_none {w : World} (P L C : Int) (ca : Option Addr) (n cc : Nat) (k g : Int) (ta : Option Addr) (nt tc : Nat) (fa : Option Addr) (nf fc : Nat) {p dg : Nat} {D : List Int} {ro : Option Nat} (h : WK w P L C ca n cc k g ta nt tc fa nf fc p dg D [] ro) :
    Calls Tryd.prog 90 #[.pointer (some ⟨p, 9, none⟩)] w fun e w' => e = .returned (.tuple #[.int .i64 0, .bool false]) ∧ w' = w := by
  obtain ⟨ra, rc, b1, b2, b3, b4, b5, b6⟩ := h
  have c9 := b1.cell (i := 9) rfl
  clear b1 b2 b4 b3 b5 b6
  simp only [List.length_nil] at c9
  go_enter Tryd.func90, Tryd.ntmps90
  go_wp2
  go_ret2
  exact ⟨rfl, rfl⟩
set_option maxHeartbeats 1000000 in
theorem wtake_some {w : World} (P L C : Int) (ca : Option Addr) (n cc : Nat) (k g : Int) (ta : Option Addr) (nt tc : Nat) (fa : Option Addr) (nf fc : Nat) {p dg i : Nat} {D : List Int} {R : List Nat} {ro : Option Nat} (h : WK w P L C ca n cc k g ta nt tc fa nf fc p dg D (i :: R) ro) (hR : R.length ≤ 5000) :
    Calls Tryd.prog 90 #[.pointer (some ⟨p, 9, none⟩)] w fun e w' => e = .returned (.tuple #[.int .i64 i, .bool true]) ∧ WK w' P L C ca n cc k g ta nt tc fa nf fc p dg D R ro ∧ SW p dg ro w ro w' := by
  obtain ⟨ra, rc, b1, b2, b3, b4, b5, b6⟩ := h
  obtain ⟨o1, o2, o3, o4⟩ := own_cells b4
  simp only [List.length_cons] at o1 o2 o3 o4 b4 b1
  obtain ⟨q, rfl, hq⟩ : ∃ q, ra = some ⟨q, 0, none⟩ ∧ ∀ (j : Nat) y, (rv (i :: R))[j]? = some y → w.cell? ⟨q, 0 + j, none⟩ = some (.int .i64 y) := by
    rcases o4 with c | c
    · omega
    · exact c
  have hl := hq R.length i (by rw [rv_cons, List.getElem?_append_right (by rw [rv_len]; omega), rv_len]; simp)
  rw [Nat.zero_add] at hl
  have c9 := b1.cell (i := 9) rfl
  have z9 := b1.frozen 9
  have HB1 := hid_mk b1
  have HB2 := hid_mk b2
  have HB4 := hid_mk b4
  have HN := hid_mk (And.intro b3 b5)
  have HR6 := hid_mk b6
  obtain ⟨K, hK⟩ : ∃ K, R.length = K := ⟨_, rfl⟩
  rw [hK] at HB4 c9 HB1 hl o2
  have hk1 : ((K : Int) + 1 == 0) = false := by simp; omega
  have hk2 : wrap64 (K : Int) = (K : Int) := by unfold wrap64; omega
  have HK := hid_mk hK
  have hs1 : K ≤ rc := by omega
  have hs2 : (K : Int) ≤ (rc : Int) := by omega
  clear b1 b2 b4 b3 b5 b6 o1 o3 o4 hR hK hq
  go_enter Tryd.func90, Tryd.ntmps90
  go_wp2
  go_region
  go_wp2
  go_ret2
  refine ⟨rfl, ⟨some ⟨q, 0, none⟩, rc, ?_, ?_, HN.out.1, ?_, HN.out.2, HR6.out⟩, ?_, .inl rfl⟩
  · rw [HK.out]
    exact HB1.out.set 9 (.slice (some ⟨q, 0, none⟩) K rc)
  · exact HB2.out.other (q := ⟨p, 9, none⟩) (by have := HN.out.2; show p ≠ dg; omega) _
  · rw [HK.out]
    have h1 := own_less HB4.out
    exact own_fx (S := fun z => z = p) h1 (((Fx.refl (fun z => z = p) _).set (p := ⟨p, 9, none⟩) (.inl rfl) _).drew) (fun z hz e => by
      have := (own_ge h1 hz).1
      omega)
  · exact ((Fx.refl _ _).set (p := ⟨p, 9, none⟩) (.inl (.inl rfl)) _).drew
end Go.Proofs.YtkghabmgofgclaaDoor
namespace Go.Proofs.YtkghabmgofgclaaDoor
open Go.RowKit
set_option linter.unusedVariables false
set_option linter.unusedSimpArgs false

theorem iv_cell {w : World} {dg j : Nat} {D : List Int} {x : Int} (h : Bl w dg (ivs D).toArray 3) (hj : D[j]? = some x) : w.cell? ⟨dg, j, none⟩ = some (.int .i64 x) := h.cell (by rw [List.getElem?_toArray]; exact ivs_is hj)
theorem iv_set {w : World} {dg j : Nat} {D : List Int} {d : Int} (h : Bl w dg (ivs D).toArray 3) : Bl (w.setCell ⟨dg, j, none⟩ (.int .i64 d)) dg (ivs (D.set j d)).toArray 3 := by
  have := h.set j (.int .i64 d)
  unfold ivs at *
  rw [List.map_set]
  simpa using this
set_option maxHeartbeats 1000000 in
theorem meet_any {w : World} (P L C : Int) (ca : Option Addr) (n cc : Nat) (k g : Int) (ta : Option Addr) (nt tc : Nat) (fa : Option Addr) (nf fc : Nat) {p dg : Nat} {D : List Int} {R : List Nat} {ro : Option Nat} (h : WK w P L C ca n cc k g ta nt tc fa nf fc p dg D R ro) (j : Nat) (d : Int) (hjn : j < n) (hj : j ∉ R) (hs : R.Pairwise (· < ·)) (hR : R.length ≤ 5000) :
    Calls Tryd.prog 89 #[.pointer (some ⟨p, 0, none⟩), .int .i64 j, .int .i64 d] w fun e w' => e = .returned (.tuple #[]) ∧ ∃ ro', WK w' P L C ca n cc k g ta nt tc fa nf fc p dg (D.set j d) (insF j R) ro' ∧ SW p dg ro w ro' w' := by
  obtain ⟨ra, rc, b1, b2, b3, b4, b5, b6⟩ := h
  obtain ⟨x, hx⟩ : ∃ x, D[j]? = some x := ⟨_, List.getElem?_eq_getElem (by omega)⟩
  have c8 := b1.cell (i := 8) rfl
  have cj := iv_cell b2 hx
  have zj := b2.frozen j
  have hj2 : (j : Int) < (n : Int) := by omega
  have HW : Hid (WK (w.setCell ⟨dg, j, none⟩ (.int .i64 d)) P L C ca n cc k g ta nt tc fa nf fc p dg (D.set j d) R ro) := hid_mk ⟨ra, rc, b1.other (q := ⟨dg, j, none⟩) (by show dg ≠ p; omega) _, iv_set b2, by simpa using b3, own_fx (S := fun z => z = dg) b4 ((Fx.refl (fun z => z = dg) _).set (p := ⟨dg, j, none⟩) (.inl rfl) _) (fun z hz e => by
    have := (own_ge b4 hz).1
    omega), b5, b6⟩
  have HJ := hid_mk (And.intro hj (And.intro hs hR))
  have HL : Hid (SW p dg ro w ro (w.setCell ⟨dg, j, none⟩ (.int .i64 d))) := hid_mk ⟨(Fx.refl _ _).set (p := ⟨dg, j, none⟩) (.inl (.inr (.inl rfl))) _, .inl rfl⟩
  clear b1 b2 b3 b4 b5 hj hs hR hx
  go_enter Tryd.func89, Tryd.ntmps89
  go_wp2_with (go_at_call 101; refine (wput_any P L C ca n cc k g ta nt tc fa nf fc HW.out j HJ.out.1 HJ.out.2.1 HJ.out.2.2).mono ?_; rintro e w2 ⟨rfl, ro2, h2, h3⟩; have H2 := hid_mk h2; have H3 := hid_mk h3; clear h2 h3)
  exact bodyPost_end (results_none Tryd.results89 _ _ _) rfl ⟨rfl, ro2, H2.out, HL.out.trans H3.out⟩
theorem WK.quiet {ro : Option Nat} {w w' : World} {P L C : Int} {ca : Option Addr} {n cc : Nat} {k g : Int} {ta : Option Addr} {nt tc : Nat} {fa : Option Addr} {nf fc : Nat} {p dg : Nat} {D : List Int} {R : List Nat} (h : WK w P L C ca n cc k g ta nt tc fa nf fc p dg D R ro) (o : Out 0 0 w w') : WK w' P L C ca n cc k g ta nt tc fa nf fc p dg D R ro := by
  obtain ⟨ra, rc, b1, b2, b3, b4, b5, b6⟩ := h
  exact ⟨ra, rc, b1.kept o (.inr (Nat.zero_le _)), b2.kept o (.inr (Nat.zero_le _)), b3, own_fx (S := fun _ => False) b4 (Fx.of_out o) (fun _ _ z => z), b5, b6⟩
/-- what 'on' leaves -/
def OnQ (w : World) (P L C : Int) (ca : Option Addr) (n cc : Nat) (k g : Int) (ta : Option Addr) (nt tc : Nat) (fa : Option Addr) (nf fc : Nat) (p dg : Nat) (ro : Option Nat) (i : Int) (o : Option (List Int × List Nat)) (e : Ending) (w' : World) : Prop := (∃ s ro', o = some s ∧ e = .returned (.tuple #[]) ∧ WK w' P L C ca n cc k g ta nt tc fa nf fc p dg s.1 s.2 ro' ∧ SW p dg ro w ro' w') ∨ (o = none ∧ e = .panicked [badP 76 k i] ∧ Lo dg w w')
set_option maxHeartbeats 1000000 in
theorem on_any {w : World} (P L C : Int) (ca : Option Addr) (n cc : Nat) (k g : Int) (ta : Option Addr) (nt tc : Nat) (fa : Option Addr) (nf fc : Nat) {p dg : Nat} {D : List Int} {R : List Nat} {ro : Option Nat} (h : WK w P L C ca n cc k g ta nt tc fa nf fc p dg D R ro) (hO : WO n (D, R)) (i : Int) (j : Nat) (d : Int) (hjn : j < n) (hR : R.length ≤ 5000) :
    Calls Tryd.prog 105 #[.pointer (some ⟨p, 0, none⟩), .int .i64 i, .int .i64 j, .int .i64 d] w (OnQ w P L C ca n cc k g ta nt tc fa nf fc p dg ro i (onF (D, R) j d)) := by
  obtain ⟨x, hx⟩ : ∃ x, D[j]? = some x := ⟨_, List.getElem?_eq_getElem (by have := hO.1; simp only [] at this; omega)⟩
  obtain ⟨ra, rc, b1, b2, b3, b4, b5, b6⟩ := h
  have c8 := b1.cell (i := 8) rfl
  have cj := iv_cell b2 hx
  have hj2 : (j : Int) < (n : Int) := by omega
  have HW : Hid (WK w P L C ca n cc k g ta nt tc fa nf fc p dg D R ro) := hid_mk ⟨ra, rc, b1, b2, b3, b4, b5, b6⟩
  have HX := hid_mk hx
  have HN := hid_mk (And.intro hjn (And.intro hR hO))
  by_cases hm : x = -1
  · subst hm
    have e0 : onF (D, R) j d = some (D.set j d, insF j R) := if_pos hx
    rw [e0]
    have HB3 := hid_mk b3
    clear b1 b2 b4 b3 b5 b6 e0 hx hO hR
    go_enter Tryd.func105, Tryd.ntmps105
    go_wp2_with (go_at_call 89; refine (meet_any P L C ca n cc k g ta nt tc fa nf fc HW.out j d HN.out.1 (HN.out.2.2.not HX.out) HN.out.2.2.2.2.1 HN.out.2.1).mono ?_; rintro e w2 ⟨rfl, ro2, h2, h3⟩; have H2 := hid_mk h2; have H3 := hid_mk h3; clear h2 h3)
    obtain ⟨ra2, rc2, B, B2, hl2, -, -, -⟩ := H2.out
    have k0 := B.cell (i := 0) rfl; have k1 := B.cell (i := 1) rfl; have k2 := B.cell (i := 2) rfl; have k3 := B.cell (i := 3) rfl; have k4 := B.cell (i := 4) rfl; have k5 := B.cell (i := 5) rfl; have k6 := B.cell (i := 6) rfl; have k7 := B.cell (i := 7) rfl; have k8 := B.cell (i := 8) rfl
    have dj := iv_cell (j := j) (x := d) B2 (by rw [List.getElem?_set_self (by rw [HB3.out]; exact HN.out.1)])
    clear B B2 hl2
    refine wp_region_held_drew (S := fun w' => w'.cell? ⟨p, 0, none⟩ = some (.int .i64 P) ∧ w'.cell? ⟨p, 1, none⟩ = some (.int .i64 L) ∧ w'.cell? ⟨p, 2, none⟩ = some (.int .i64 C) ∧ w'.cell? ⟨p, 3, none⟩ = some (.slice ca n cc) ∧ w'.cell? ⟨p, 4, none⟩ = some (.int .i64 k) ∧ w'.cell? ⟨p, 5, none⟩ = some (.int .i64 g) ∧ w'.cell? ⟨p, 6, none⟩ = some (.slice ta nt tc) ∧ w'.cell? ⟨p, 7, none⟩ = some (.slice fa nf fc) ∧ w'.cell? ⟨p, 8, none⟩ = some (.slice (some ⟨dg, 0, none⟩) n n) ∧ w'.cell? ⟨dg, j, none⟩ = some (.int .i64 d)) (by kernel_rfl) ?hS1 (fun hHeld => ?rest1)
    case hS1 => exact ⟨k0, k1, k2, k3, k4, k5, k6, k7, k8, dj⟩
    refine tk 0 ?_
    refine tk 1 ?_
    refine tk 2 ?_
    refine tk 3 ?_
    refine tk 4 ?_
    refine tk 5 ?_
    refine tk 6 ?_
    refine tk 7 ?_
    refine tk 8 ?_
    refine tk 9 ?_
    refine tk 10 ?_
    refine tk 11 ?_
    refine tk 12 ?_
    refine tk 13 ?_
    refine wpAnyH_ready (rs := [14]) (by kernel_rfl) (by simp) ?_
    refine AllReadyH.cons rfl (fun KK hK => ?_) AllReadyH.nil
    simp only [xa, xb, xc]
    go_simp
    refine (fwant_yes P L C ca n cc k g ta nt tc fa nf fc _ _ _).mono ?_
    rintro e w9 ⟨rfl, o9⟩
    refine hK.out _ _ ?hS16 (fun hHeld2 => ?rest16)
    case hS16 => exact ⟨o9.cell k0 (.inr (Nat.zero_le _)), o9.cell k1 (.inr (Nat.zero_le _)), o9.cell k2 (.inr (Nat.zero_le _)), o9.cell k3 (.inr (Nat.zero_le _)), o9.cell k4 (.inr (Nat.zero_le _)), o9.cell k5 (.inr (Nat.zero_le _)), o9.cell k6 (.inr (Nat.zero_le _)), o9.cell k7 (.inr (Nat.zero_le _)), o9.cell k8 (.inr (Nat.zero_le _)), o9.cell dj (.inr (Nat.zero_le _))⟩
    clear hK KK
    (try clear hHeld)
    have hHeld := hHeld2
    clear hHeld2
    (try simp only [Act.put, xa, xb, xc, xd, xe, xf])
    refine wpAnyH_done (by kernel_rfl) ?_ _
    exact bodyPost_end (results_none Tryd.results105 _ _ _) rfl (.inl ⟨_, ro2, rfl, rfl, WK.quiet H2.out (((Out.refl 0 0 _).drew).trans o9), H3.out.quiet (((Out.refl 0 0 _).drew).trans o9)⟩)
  · have hm1 : (x == -1) = false := by simpa using hm
    have B := b1
    have k0 := B.cell (i := 0) rfl; have k1 := B.cell (i := 1) rfl; have k2 := B.cell (i := 2) rfl; have k3 := B.cell (i := 3) rfl; have k4 := B.cell (i := 4) rfl; have k5 := B.cell (i := 5) rfl; have k6 := B.cell (i := 6) rfl; have k7 := B.cell (i := 7) rfl; have k8 := B.cell (i := 8) rfl
    have dj := cj
    by_cases hd : x = d
    · subst hd
      have e0 : onF (D, R) j x = some (D, R) := by unfold onF; rw [if_neg (by simp only []; rw [hx]; intro q; exact hm (Option.some.inj q)), if_pos hx]
      rw [e0]
      clear b1 b2 b4 b3 b5 b6 e0 hx hO hR hm B
      go_enter Tryd.func105, Tryd.ntmps105
      go_wp2
      refine wp_region_held_drew (S := fun w' => w'.cell? ⟨p, 0, none⟩ = some (.int .i64 P) ∧ w'.cell? ⟨p, 1, none⟩ = some (.int .i64 L) ∧ w'.cell? ⟨p, 2, none⟩ = some (.int .i64 C) ∧ w'.cell? ⟨p, 3, none⟩ = some (.slice ca n cc) ∧ w'.cell? ⟨p, 4, none⟩ = some (.int .i64 k) ∧ w'.cell? ⟨p, 5, none⟩ = some (.int .i64 g) ∧ w'.cell? ⟨p, 6, none⟩ = some (.slice ta nt tc) ∧ w'.cell? ⟨p, 7, none⟩ = some (.slice fa nf fc) ∧ w'.cell? ⟨p, 8, none⟩ = some (.slice (some ⟨dg, 0, none⟩) n n) ∧ w'.cell? ⟨dg, j, none⟩ = some (.int .i64 x)) (by kernel_rfl) ?hS17 (fun hHeld => ?rest17)
      case hS17 => exact ⟨k0, k1, k2, k3, k4, k5, k6, k7, k8, dj⟩
      refine tk 0 ?_
      refine tk 1 ?_
      refine tk 2 ?_
      refine tk 3 ?_
      refine tk 4 ?_
      refine tk 5 ?_
      refine tk 6 ?_
      refine tk 7 ?_
      refine tk 8 ?_
      refine tk 9 ?_
      refine tk 10 ?_
      refine tk 11 ?_
      refine tk 12 ?_
      refine tk 13 ?_
      refine wpAnyH_ready (rs := [14]) (by kernel_rfl) (by simp) ?_
      refine AllReadyH.cons rfl (fun KK hK => ?_) AllReadyH.nil
      simp only [xa, xb, xc]
      go_simp
      refine (fwant_yes P L C ca n cc k g ta nt tc fa nf fc _ _ _).mono ?_
      rintro e w9 ⟨rfl, o9⟩
      refine hK.out _ _ ?hS32 (fun hHeld2 => ?rest32)
      case hS32 => exact ⟨o9.cell k0 (.inr (Nat.zero_le _)), o9.cell k1 (.inr (Nat.zero_le _)), o9.cell k2 (.inr (Nat.zero_le _)), o9.cell k3 (.inr (Nat.zero_le _)), o9.cell k4 (.inr (Nat.zero_le _)), o9.cell k5 (.inr (Nat.zero_le _)), o9.cell k6 (.inr (Nat.zero_le _)), o9.cell k7 (.inr (Nat.zero_le _)), o9.cell k8 (.inr (Nat.zero_le _)), o9.cell dj (.inr (Nat.zero_le _))⟩
      clear hK KK
      (try clear hHeld)
      have hHeld := hHeld2
      clear hHeld2
      (try simp only [Act.put, xa, xb, xc, xd, xe, xf])
      refine wpAnyH_done (by kernel_rfl) ?_ _
      exact bodyPost_end (results_none Tryd.results105 _ _ _) rfl (.inl ⟨_, ro, rfl, rfl, WK.quiet HW.out (((Out.refl 0 0 _).drew).trans o9), (SW.refl _ _ _ _).quiet (((Out.refl 0 0 _).drew).trans o9)⟩)
    · have e0 : onF (D, R) j d = none := by unfold onF; rw [if_neg (by simp only []; rw [hx]; intro q; exact hm (Option.some.inj q)), if_neg (by simp only []; rw [hx]; intro q; exact hd (Option.some.inj q))]
      rw [e0]
      have hd1 : (x == d) = false := by simpa using hd
      clear b1 b2 b4 b3 b5 b6 e0 hx hO hR hm B hd
      go_enter Tryd.func105, Tryd.ntmps105
      go_wp2
      refine wp_region_held_drew (S := fun w' => w'.cell? ⟨p, 0, none⟩ = some (.int .i64 P) ∧ w'.cell? ⟨p, 1, none⟩ = some (.int .i64 L) ∧ w'.cell? ⟨p, 2, none⟩ = some (.int .i64 C) ∧ w'.cell? ⟨p, 3, none⟩ = some (.slice ca n cc) ∧ w'.cell? ⟨p, 4, none⟩ = some (.int .i64 k) ∧ w'.cell? ⟨p, 5, none⟩ = some (.int .i64 g) ∧ w'.cell? ⟨p, 6, none⟩ = some (.slice ta nt tc) ∧ w'.cell? ⟨p, 7, none⟩ = some (.slice fa nf fc) ∧ w'.cell? ⟨p, 8, none⟩ = some (.slice (some ⟨dg, 0, none⟩) n n) ∧ w'.cell? ⟨dg, j, none⟩ = some (.int .i64 x)) (by kernel_rfl) ?hS33 (fun hHeld => ?rest33)
      case hS33 => exact ⟨k0, k1, k2, k3, k4, k5, k6, k7, k8, dj⟩
      refine tk 0 ?_
      refine tk 1 ?_
      refine tk 2 ?_
      refine tk 3 ?_
      refine tk 4 ?_
      refine tk 5 ?_
      refine tk 6 ?_
      refine tk 7 ?_
      refine tk 8 ?_
      refine tk 9 ?_
      refine tk 10 ?_
      refine tk 11 ?_
      refine tk 12 ?_
      refine tk 13 ?_
      refine wpAnyH_ready (rs := [14]) (by kernel_rfl) (by simp) ?_
      refine AllReadyH.cons rfl (fun KK hK => ?_) AllReadyH.nil
      simp only [xa, xb, xc]
      go_simp
      refine (fwant_no P L C ca n cc k g ta nt tc fa nf fc _ _ _).mono ?_
      rintro e w9 ⟨rfl, o9⟩
      exact ⟨rfl, .inr ⟨rfl, rfl, Fx.of_out (((Out.refl 0 0 _).drew).trans o9)⟩⟩
end Go.Proofs.YtkghabmgofgclaaDoor
