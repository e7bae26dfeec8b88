/- lists of pages; All, Copy -/
import Derived.Test.YtfkmaanfgkkjcaaDoorGf
import Derived.Lib.SliceRun
import Derived.Deep.AppendLies
import Derived.OwnWalk
import Derived.ArgAppend
import Derived.Deep.DeepAppendRoom
namespace Go.Proofs.YtfkmaanfgkkjcaaDoor
open Go.RowKit
set_option linter.unusedVariables false
set_option linter.unusedSimpArgs false

def pgs (l : List (Int × Int × Int)) : List Value := l.flatMap fun p => [.int .i64 p.1, .int .i64 p.2.1, .int .i64 p.2.2]
theorem pgs_cons (p : Int × Int × Int) (l : List (Int × Int × Int)) : pgs (p :: l) = .int .i64 p.1 :: .int .i64 p.2.1 :: .int .i64 p.2.2 :: pgs l := rfl
theorem pgs_append (a b : List (Int × Int × Int)) : pgs (a ++ b) = pgs a ++ pgs b := by unfold pgs; rw [List.flatMap_append]
theorem pgs_len (l : List (Int × Int × Int)) : (pgs l).length = l.length * 3 := by
  induction l with
  | nil => rfl
  | cons p l ih => rw [pgs_cons]; simp [ih]; omega
theorem pgs_at {l : List (Int × Int × Int)} : ∀ {i : Nat} {p : Int × Int × Int}, l[i]? = some p → (pgs l)[i * 3]? = some (.int .i64 p.1) ∧ (pgs l)[i * 3 + 1]? = some (.int .i64 p.2.1) ∧ (pgs l)[i * 3 + 2]? = some (.int .i64 p.2.2) := by
  induction l with
  | nil => intro i p h; simp at h
  | cons q l ih =>
    intro i p h
    rw [pgs_cons]
    cases i with
    | zero => simp at h; subst h; exact ⟨rfl, rfl, rfl⟩
    | succ i =>
      have := ih (i := i) (p := p) (by simpa using h)
      rw [show (i + 1) * 3 = i * 3 + 3 from by omega]
      simpa using this
theorem pgs_one (l : List (Int × Int × Int)) : ∀ u ∈ pgs l, u.oneCell' = true := by
  intro u hu
  unfold pgs at hu
  rw [List.mem_flatMap] at hu
  obtain ⟨p, _, hu⟩ := hu
  simp at hu
  rcases hu with rfl | rfl | rfl <;> rfl
def pgl (S : Nat → Int × Int × Int) (n : Nat) : List (Int × Int × Int) := (List.range n).map S
theorem pgl_len (S : Nat → Int × Int × Int) (n : Nat) : (pgl S n).length = n := by unfold pgl; simp
theorem pgl_at (S : Nat → Int × Int × Int) {n i : Nat} (h : i < n) : (pgl S n)[i]? = some (S i) := by unfold pgl; simp [h]
theorem pgs_cell (S : Nat → Int × Int × Int) (n : Nat) {j : Nat} (h : j < n * 3) : (pgs (pgl S n))[j]? = some (pcell S j) := by
  obtain ⟨a, b, c⟩ := pgs_at (pgl_at S (n := n) (i := j / 3) (by omega))
  unfold pcell
  have hm : j % 3 = 0 ∨ j % 3 = 1 ∨ j % 3 = 2 := by omega
  rcases hm with hm | hm | hm
  · rw [show j / 3 * 3 = j from by omega] at a; rw [a, hm]; rfl
  · rw [show j / 3 * 3 + 1 = j from by omega] at b; rw [b, hm]; rfl
  · rw [show j / 3 * 3 + 2 = j from by omega] at c; rw [c, hm]; rfl
/-- a list of pages as an answer -/
def ListIs (w : World) (base : Nat) (v : Value) (l : List (Int × Int × Int)) : Prop := w.ownsRow base 45 3 v l.length (pgs l)
theorem own_kept {w w' : World} {v : Value} {base k lo hi s : Nat} {xs : List Value} {T : TypeId} (h : w.ownsRow base T s v k xs) (o : Out lo hi w w') (hd : hi ≤ base) : w'.ownsRow base T s v k xs := by
  obtain ⟨hlen, hcase⟩ := h
  refine ⟨hlen, ?_⟩
  rcases hcase with ⟨hv, h0⟩ | ⟨g, cap', cur, rfl, hg1, hg2, hg3⟩
  · exact .inl ⟨hv, h0⟩
  · exact .inr ⟨g, cap', cur, rfl, hg1, o.heap hg2 (.inr (by omega)), hg3⟩
theorem ListIs.kept {w w' : World} {base lo hi : Nat} {v : Value} {l : List (Int × Int × Int)} (h : ListIs w base v l) (o : Out lo hi w w') (hd : hi ≤ base) : ListIs w' base v l := own_kept h o hd
theorem own_mono {w : World} {a b n s : Nat} {T : TypeId} {v : Value} {xs : List Value} (h : w.ownsRow a T s v n xs) (hab : b ≤ a) : w.ownsRow b T s v n xs := by
  obtain ⟨h1, h2⟩ := h
  refine ⟨h1, ?_⟩
  rcases h2 with h2 | ⟨g, cap, cur, e, hg, r⟩
  · exact .inl h2
  · exact .inr ⟨g, cap, cur, e, Nat.le_trans hab hg, r⟩
theorem own_lt {w : World} {B n s : Nat} {T : TypeId} {v : Value} {xs : List Value} (h : w.ownsRow B T s v n xs) {x : Nat} (hx : v.ownBlock = some x) : x < w.heap.size := (h.lt x hx).2
theorem own_shape {w : World} {B n s : Nat} {T : TypeId} {v : Value} {xs : List Value} (h : w.ownsRow B T s v n xs) : ∃ a cap, v = .slice a n cap := by
  rcases h.2 with ⟨e, h0⟩ | ⟨g, cap, cur, e, _⟩
  · exact ⟨none, 0, by rw [e, h0]⟩
  · exact ⟨_, _, e⟩
theorem own_cells {w : World} {B n g cap s : Nat} {T : TypeId} {xs : List Value} (h : w.ownsRow B T s (.slice (some ⟨g, 0, none⟩) n cap) n xs) : ∀ j u, xs[j]? = some u → w.cell? ((⟨g, 0, none⟩ : Addr).add j) = some u := h.cells (g := g) rfl
theorem row_cell {w : World} {B n g cap s : Nat} {T : TypeId} {xs : List Value} (h : w.ownsRow B T s (.slice (some ⟨g, 0, none⟩) n cap) n xs) {j : Nat} {u : Value} (hu : xs[j]? = some u) : w.cell? ⟨g, j, none⟩ = some u := by
  have := own_cells h j u hu
  rw [Addr.add_lit, Nat.zero_add] at this
  exact this
/-- page i of a block -/
def PgAt (w : World) (g i : Nat) (p : Int × Int × Int) : Prop := w.cell? ⟨g, i * 3, none⟩ = some (.int .i64 p.1) ∧ w.cell? ⟨g, i * 3 + 1, none⟩ = some (.int .i64 p.2.1) ∧ w.cell? ⟨g, i * 3 + 2, none⟩ = some (.int .i64 p.2.2)
theorem PgAt.kept {w w' : World} {lo hi g i : Nat} {p : Int × Int × Int} (h : PgAt w g i p) (o : Out lo hi w w') (hd : g < lo ∨ hi ≤ g) : PgAt w' g i p := ⟨o.cell h.1 hd, o.cell h.2.1 hd, o.cell h.2.2 hd⟩
/-- a list that can be read -/
def SliceIs (w : World) (v : Value) (l : List (Int × Int × Int)) : Prop := ∃ a cap, v = .slice a l.length cap ∧ (0 < l.length → ∃ g, a = some ⟨g, 0, none⟩ ∧ g < w.heap.size ∧ ∀ i p, l[i]? = some p → PgAt w g i p)
theorem SliceIs.kept {w w' : World} {v : Value} {l : List (Int × Int × Int)} (h : SliceIs w v l) (o : Out 0 0 w w') : SliceIs w' v l := by
  obtain ⟨a, cap, e, hr⟩ := h
  refine ⟨a, cap, e, fun h0 => ?_⟩
  obtain ⟨g, g0, g1, g2⟩ := hr h0
  exact ⟨g, g0, Nat.lt_of_lt_of_le g1 o.size, fun i p hp => (g2 i p hp).kept o (.inr (Nat.zero_le _))⟩
theorem list_shape {w : World} {B : Nat} {v : Value} {l : List (Int × Int × Int)} (h : ListIs w B v l) : ∃ a cap, v = .slice a l.length cap ∧ (0 < l.length → ∃ g, a = some ⟨g, 0, none⟩ ∧ v.ownBlock = some g ∧ g < w.heap.size ∧ ∀ i p, l[i]? = some p → PgAt w g i p) := by
  have h' := h
  rcases h.2 with ⟨e, h0⟩ | ⟨g, cap, cur, e, _, hg, _⟩
  · exact ⟨none, 0, by rw [e, h0], fun h => by omega⟩
  · refine ⟨_, _, e, fun _ => ⟨g, rfl, by rw [e]; rfl, heap_lt hg, fun i p hp => ?_⟩⟩
    unfold ListIs at h'
    rw [e] at h'
    obtain ⟨a, b, c⟩ := pgs_at hp
    exact ⟨row_cell h' a, row_cell h' b, row_cell h' c⟩
theorem ListIs.slice {w : World} {B : Nat} {v : Value} {l : List (Int × Int × Int)} (h : ListIs w B v l) : SliceIs w v l := by
  obtain ⟨a, cap, e, hr⟩ := list_shape h
  exact ⟨a, cap, e, fun h0 => by obtain ⟨g, g0, _, g1, g2⟩ := hr h0; exact ⟨g, g0, g1, g2⟩⟩
theorem PRow.slice {w : World} {b n cap : Nat} {S : Nat → Int × Int × Int} (h : PRow w b n S) : SliceIs w (.slice (some ⟨b, 0, none⟩) n cap) (pgl S n) := by
  refine ⟨_, cap, by rw [pgl_len], fun _ => ⟨b, rfl, Row.lt h, fun i p hp => ?_⟩⟩
  have hi : i < n := by have := (List.getElem?_eq_some_iff.1 hp).1; rw [pgl_len] at this; exact this
  rw [pgl_at S hi] at hp
  cases hp
  exact h.cells hi
theorem ListIs.row {w : World} {B g n cap : Nat} {S : Nat → Int × Int × Int} (h : ListIs w B (.slice (some ⟨g, 0, none⟩) n cap) (pgl S n)) : PRow w g n S ∧ B ≤ g ∧ n ≤ cap := by
  unfold ListIs at h
  rw [pgl_len] at h
  rcases h.2 with ⟨e, h0⟩ | ⟨g', cap', cur, e, h1, h2, h3, h4, h5, h6⟩
  · cases e
  · cases e
    refine ⟨⟨cur, h2, by omega, fun i hi => ?_⟩, h1, h3⟩
    have e : (cur.toList.take (n * 3))[i]? = (pgs (pgl S n))[i]? := by rw [h6]
    rw [pgs_cell S n hi] at e
    simp [hi] at e
    simpa using e
set_option maxHeartbeats 1000000 in
theorem clone_any {w : World} {bw n cap : Nat} {S : Nat → Int × Int × Int} (hr : PRow w bw n S) (h1 : 1 ≤ n) (hk : n ≤ 4096) :
    Calls Tryd.prog 33 #[.slice (some ⟨bw, 0, none⟩) n cap] w fun e w' => ∃ g cap', e = .returned (.slice (some ⟨g, 0, none⟩) n cap') ∧ ListIs w' w.heap.size (.slice (some ⟨g, 0, none⟩) n cap') (pgl S n) ∧ Out 0 0 w w' := by
  obtain ⟨i0, hi, hz0, hz1, hz2⟩ := info_parts info_page
  have heq := fun w => Lib.run_eql_slice_nil (P := Tryd.prog) w 37 45 (some ⟨bw, 0, none⟩) n cap 0 0 Tryd.underlying37
  simp at heq
  have hown : (w.alloc (.cells #[] 45)).ownsRow w.heap.size 45 3 (.slice (some ⟨w.heap.size, 0, none⟩) 0 0) 0 [] :=
    ⟨rfl, .inr ⟨w.heap.size, 0, #[], rfl, Nat.le_refl _, heap_alloc_new _ _, Nat.le_refl _, Nat.zero_le _, rfl, rfl⟩⟩
  have hnews : ∀ j u, (pgs (pgl S n))[j]? = some u → (w.alloc (.cells #[] 45)).cell? ((⟨bw, 0, none⟩ : Addr).add j) = some u := by
    intro j u hj
    have hjk : j < n * 3 := by
      have := (List.getElem?_eq_some_iff.1 hj).1
      rw [pgs_len, pgl_len] at this
      exact this
    rw [pgs_cell S n hjk] at hj
    cases hj
    have := (PRow.kept hr ((Out.refl 0 0 w).alloc (.cells #[] 45)) (.inr (Nat.zero_le _))).cell hjk
    rw [Addr.add_lit, Nat.zero_add]
    exact this
  have HOW := hid_mk hown
  have HNE := hid_mk hnews
  have HK : Hid (1 ≤ n ∧ n ≤ 4096) := ⟨h1, hk⟩
  clear hown hnews hr h1 hk
  go_enter Tryd.func33, Tryd.ntmps33
  go_wp2_with (at_builtin; refine wpList_append_own _ rfl _ _ 37 rfl w.heap.size 45 i0 (.agg #[.int .i64 0, .int .i64 0, .int .i64 0]) 3 24 Tryd.underlying37 hi hz0 hz1 hz2 rfl (by decide) (.slice (some ⟨w.heap.size, 0, none⟩) 0 0) 0 [] rfl HOW.out ⟨bw, 0, none⟩ n cap (pgs (pgl S n)) rfl (by rw [pgs_len, pgl_len]) HNE.out (pgs_one _) (by unfold maxLen; have := HK.out; omega) (by have := HK.out; omega) (by simp) ?_; intro v' w1 hown' hgrow hnil)
  rw [Nat.zero_add, List.nil_append] at hown'
  obtain ⟨g, cap', rfl, hg, _⟩ := hown'.form (by have := HK.out; omega)
  have hO : Out 0 0 w w1 := by
    have h0 : Out 0 0 w (w.alloc (.cells #[] 45)) := (Out.refl _ _ _).alloc _
    exact ⟨hgrow.os.trans h0.1, hgrow.tape.trans h0.2.1, hgrow.output.trans h0.2.2.1, Nat.le_trans h0.size hgrow.size, fun j h1 h2 => (hgrow.block j (Nat.lt_of_lt_of_le h1 h0.size) (by simp [Value.ownBlock]; omega)).trans (h0.block h1 h2)⟩
  have HL : Hid (ListIs w1 w.heap.size (.slice (some ⟨g, 0, none⟩) n cap') (pgl S n)) := by
    show World.ownsRow _ _ _ _ _ _ _
    rw [pgl_len]; exact hown'
  have HO := hid_mk hO
  clear hown' hgrow hnil hO hg
  go_wp2
  go_ret
  exact ⟨g, cap', by simp, HL.out, HO.out⟩
theorem all_any {w : World} {b bw n : Nat} {S : Nat → Int × Int × Int} (h : TblAt 70 w b bw n S) :
    Calls Tryd.prog 17 #[.pointer (some ⟨b, 0, none⟩)] w fun e w' => ∃ g cap', e = .returned (.slice (some ⟨g, 0, none⟩) n cap') ∧ ListIs w' w.heap.size (.slice (some ⟨g, 0, none⟩) n cap') (pgl S n) ∧ Out 0 0 w w' := by
  obtain ⟨cap, c0, _⟩ := h.cell
  have H := hid_mk (list_cell c0)
  have HC := hid_mk (clone_any (cap := cap) h.row h.nums.1 h.nums.2.1)
  clear c0 h
  go_enter Tryd.func17, Tryd.ntmps17
  go_wp2_with (first | (go_at_call 34; refine calls_same H.out ?_) | (go_at_call 33; refine HC.out.mono ?_; rintro e w1 ⟨g, cap', rfl, hl, ho⟩; have HL := hid_mk hl; clear hl))
  go_ret
  exact ⟨g, cap', rfl, HL.out, ho⟩
theorem table_of {T : TypeId} {w w1 : World} {g n cap : Nat} {S : Nat → Int × Int × Int} (hw : 2 ≤ w.heap.size) (ho : Out 0 0 w w1) (hl : ListIs w1 w.heap.size (.slice (some ⟨g, 0, none⟩) n cap) (pgl S n)) (h1 : 1 ≤ n) (h2 : n ≤ 4096) (hg : Good n S) :
    TblAt T (w1.alloc (.cells #[.slice (some ⟨g, 0, none⟩) n cap] T)) w1.heap.size g n S ∧ w.heap.size ≤ g ∧ w.heap.size ≤ w1.heap.size := by
  obtain ⟨hr, hb, hc⟩ := hl.row
  have := ho.size
  have := Row.lt hr
  exact ⟨⟨cap, heap_alloc_new _ _, hc, by omega, by omega, by omega, h1, h2, hg, hr.kept ((Out.refl 0 0 _).alloc _) (.inr (Nat.zero_le _))⟩, hb, by omega⟩
theorem copy_any {w : World} {b bw n : Nat} {S : Nat → Int × Int × Int} (h : TblAt 70 w b bw n S) (hw : 2 ≤ w.heap.size) :
    Calls Tryd.prog 31 #[.pointer (some ⟨b, 0, none⟩)] w fun e w' => ∃ b' bw', e = .returned (.pointer (some ⟨b', 0, none⟩)) ∧ TblAt 70 w' b' bw' n S ∧ w.heap.size ≤ b' ∧ w.heap.size ≤ bw' ∧ Out 0 0 w w' := by
  have HA := hid_mk (all_any h)
  have HN := hid_mk h.nums
  have HG := hid_mk h.good
  have HW := hid_mk hw
  clear h hw
  go_enter Tryd.func31, Tryd.ntmps31
  go_wp2_with (go_at_call 17; refine HA.out.mono ?_; rintro e w1 ⟨g, cap', rfl, hl, ho⟩; have HL := hid_mk hl; have HO := hid_mk ho; clear hl ho)
  go_ret
  obtain ⟨t1, t2, t3⟩ := table_of (T := 70) HW.out HO.out HL.out HN.out.1 HN.out.2.1 HG.out
  exact ⟨_, g, rfl, t1, t3, t2, HO.out.alloc _⟩
end Go.Proofs.YtfkmaanfgkkjcaaDoor
