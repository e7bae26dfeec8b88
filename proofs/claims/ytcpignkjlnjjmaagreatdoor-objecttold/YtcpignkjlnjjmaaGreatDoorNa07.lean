import Derived.Test.YtcpignkjlnjjmaaGreatDoorNa06
import Derived.Lib.SliceRun
import Derived.Deep.AppendLies
import Derived.OwnWalk
import Derived.ArgAppend
import Derived.Deep.DeepAppendRoom
import Derived.Test.YtcpignkjlnjjmaaGreatDoorNa04
import Derived.Test.YtcpignkjlnjjmaaGreatDoorNa01
import Derived.Deep.OwnRows
namespace Go.Proofs.YtcpignkjlnjjmaaGreatDoor
open Go.RowKit
set_option linter.unusedVariables false
set_option linter.unusedSimpArgs false

def pgs (l : List (Int × Int × Int)) : List Value := l.flatMap fun p => [.int .i64 p.1, .int .i64 p.2.1, .int .i64 p.2.2]
theorem pgs_cons (p : Int × Int × Int) (l : List (Int × Int × Int)) : pgs (p :: l) = .int .i64 p.1 :: .int .i64 p.2.1 :: .int .i64 p.2.2 :: pgs l := rfl
theorem pgs_append (a b : List (Int × Int × Int)) : pgs (a ++ b) = pgs a ++ pgs b := by unfold pgs; rw [List.flatMap_append]
theorem pgs_len (l : List (Int × Int × Int)) : (pgs l).length = l.length * 3 := by
  induction l with
  | nil => rfl
  | cons p l ih => rw [pgs_cons]; simp [ih]; omega
theorem pgs_at {l : List (Int × Int × Int)} : ∀ {i : Nat} {p : Int × Int × Int}, l[i]? = some p → (pgs l)[i * 3]? = some (.int .i64 p.1) ∧ (pgs l)[i * 3 + 1]? = some (.int .i64 p.2.1) ∧ (pgs l)[i * 3 + 2]? = some (.int .i64 p.2.2) := by
  induction l with
  | nil => intro i p h; simp at h
  | cons q l ih =>
    intro i p h
    rw [pgs_cons]
    cases i with
    | zero => simp at h; subst h; exact ⟨rfl, rfl, rfl⟩
    | succ i =>
      have := ih (i := i) (p := p) (by simpa using h)
      rw [show (i + 1) * 3 = i * 3 + 3 from by omega]
      simpa using this
theorem pgs_one (l : List (Int × Int × Int)) : ∀ u ∈ pgs l, u.oneCell' = true := by
  intro u hu
  unfold pgs at hu
  rw [List.mem_flatMap] at hu
  obtain ⟨p, _, hu⟩ := hu
  simp at hu
  rcases hu with rfl | rfl | rfl <;> rfl
def pgl (S : Nat → Int × Int × Int) (n : Nat) : List (Int × Int × Int) := (List.range n).map S
theorem pgl_len (S : Nat → Int × Int × Int) (n : Nat) : (pgl S n).length = n := by unfold pgl; simp
theorem pgl_at (S : Nat → Int × Int × Int) {n i : Nat} (h : i < n) : (pgl S n)[i]? = some (S i) := by unfold pgl; simp [h]
theorem pgs_cell (S : Nat → Int × Int × Int) (n : Nat) {j : Nat} (h : j < n * 3) : (pgs (pgl S n))[j]? = some (pcell S j) := by
  obtain ⟨a, b, c⟩ := pgs_at (pgl_at S (n := n) (i := j / 3) (by omega))
  unfold pcell
  have hm : j % 3 = 0 ∨ j % 3 = 1 ∨ j % 3 = 2 := by omega
  rcases hm with hm | hm | hm
  · rw [show j / 3 * 3 = j from by omega] at a; rw [a, hm]; rfl
  · rw [show j / 3 * 3 + 1 = j from by omega] at b; rw [b, hm]; rfl
  · rw [show j / 3 * 3 + 2 = j from by omega] at c; rw [c, hm]; rfl
/-- a list of pages as an answer -/
def ListIs (w : World) (base : Nat) (v : Value) (l : List (Int × Int × Int)) : Prop := w.ownsRow base 119 3 v l.length (pgs l)
theorem own_kept {w w' : World} {v : Value} {base k lo hi s : Nat} {xs : List Value} {T : TypeId} (h : w.ownsRow base T s v k xs) (o : Out lo hi w w') (hd : hi ≤ base) : w'.ownsRow base T s v k xs := by
  obtain ⟨hlen, hcase⟩ := h
  refine ⟨hlen, ?_⟩
  rcases hcase with ⟨hv, h0⟩ | ⟨g, cap', cur, rfl, hg1, hg2, hg3⟩
  · exact .inl ⟨hv, h0⟩
  · exact .inr ⟨g, cap', cur, rfl, hg1, o.heap hg2 (.inr (by omega)), hg3⟩
theorem ListIs.kept {w w' : World} {base lo hi : Nat} {v : Value} {l : List (Int × Int × Int)} (h : ListIs w base v l) (o : Out lo hi w w') (hd : hi ≤ base) : ListIs w' base v l := own_kept h o hd
theorem own_mono {w : World} {a b n s : Nat} {T : TypeId} {v : Value} {xs : List Value} (h : w.ownsRow a T s v n xs) (hab : b ≤ a) : w.ownsRow b T s v n xs := by
  obtain ⟨h1, h2⟩ := h
  refine ⟨h1, ?_⟩
  rcases h2 with h2 | ⟨g, cap, cur, e, hg, r⟩
  · exact .inl h2
  · exact .inr ⟨g, cap, cur, e, Nat.le_trans hab hg, r⟩
theorem own_lt {w : World} {B n s : Nat} {T : TypeId} {v : Value} {xs : List Value} (h : w.ownsRow B T s v n xs) {x : Nat} (hx : v.ownBlock = some x) : x < w.heap.size := (h.lt x hx).2
theorem own_shape {w : World} {B n s : Nat} {T : TypeId} {v : Value} {xs : List Value} (h : w.ownsRow B T s v n xs) : ∃ a cap, v = .slice a n cap := by
  rcases h.2 with ⟨e, h0⟩ | ⟨g, cap, cur, e, _⟩
  · exact ⟨none, 0, by rw [e, h0]⟩
  · exact ⟨_, _, e⟩
theorem own_cells {w : World} {B n g cap s : Nat} {T : TypeId} {xs : List Value} (h : w.ownsRow B T s (.slice (some ⟨g, 0, none⟩) n cap) n xs) : ∀ j u, xs[j]? = some u → w.cell? ((⟨g, 0, none⟩ : Addr).add j) = some u := h.cells (g := g) rfl
theorem row_cell {w : World} {B n g cap s : Nat} {T : TypeId} {xs : List Value} (h : w.ownsRow B T s (.slice (some ⟨g, 0, none⟩) n cap) n xs) {j : Nat} {u : Value} (hu : xs[j]? = some u) : w.cell? ⟨g, j, none⟩ = some u := by
  have := own_cells h j u hu
  rw [Addr.add_lit, Nat.zero_add] at this
  exact this
/-- page i of a block -/
def PgAt (w : World) (g i : Nat) (p : Int × Int × Int) : Prop := w.cell? ⟨g, i * 3, none⟩ = some (.int .i64 p.1) ∧ w.cell? ⟨g, i * 3 + 1, none⟩ = some (.int .i64 p.2.1) ∧ w.cell? ⟨g, i * 3 + 2, none⟩ = some (.int .i64 p.2.2)
theorem PgAt.kept {w w' : World} {lo hi g i : Nat} {p : Int × Int × Int} (h : PgAt w g i p) (o : Out lo hi w w') (hd : g < lo ∨ hi ≤ g) : PgAt w' g i p := ⟨o.cell h.1 hd, o.cell h.2.1 hd, o.cell h.2.2 hd⟩
/-- a list that can be read -/
def SliceIs (w : World) (v : Value) (l : List (Int × Int × Int)) : Prop := ∃ a cap, v = .slice a l.length cap ∧ (0 < l.length → ∃ g, a = some ⟨g, 0, none⟩ ∧ g < w.heap.size ∧ ∀ i p, l[i]? = some p → PgAt w g i p)
theorem SliceIs.kept {w w' : World} {v : Value} {l : List (Int × Int × Int)} (h : SliceIs w v l) (o : Out 0 0 w w') : SliceIs w' v l := by
  obtain ⟨a, cap, e, hr⟩ := h
  refine ⟨a, cap, e, fun h0 => ?_⟩
  obtain ⟨g, g0, g1, g2⟩ := hr h0
  exact ⟨g, g0, Nat.lt_of_lt_of_le g1 o.size, fun i p hp => (g2 i p hp).kept o (.inr (Nat.zero_le _))⟩
theorem list_shape {w : World} {B : Nat} {v : Value} {l : List (Int × Int × Int)} (h : ListIs w B v l) : ∃ a cap, v = .slice a l.length cap ∧ (0 < l.length → ∃ g, a = some ⟨g, 0, none⟩ ∧ v.ownBlock = some g ∧ g < w.heap.size ∧ ∀ i p, l[i]? = some p → PgAt w g i p) := by
  have h' := h
  rcases h.2 with ⟨e, h0⟩ | ⟨g, cap, cur, e, _, hg, _⟩
  · exact ⟨none, 0, by rw [e, h0], fun h => by omega⟩
  · refine ⟨_, _, e, fun _ => ⟨g, rfl, by rw [e]; rfl, heap_lt hg, fun i p hp => ?_⟩⟩
    unfold ListIs at h'
    rw [e] at h'
    obtain ⟨a, b, c⟩ := pgs_at hp
    exact ⟨row_cell h' a, row_cell h' b, row_cell h' c⟩
theorem ListIs.slice {w : World} {B : Nat} {v : Value} {l : List (Int × Int × Int)} (h : ListIs w B v l) : SliceIs w v l := by
  obtain ⟨a, cap, e, hr⟩ := list_shape h
  exact ⟨a, cap, e, fun h0 => by obtain ⟨g, g0, _, g1, g2⟩ := hr h0; exact ⟨g, g0, g1, g2⟩⟩
theorem PRow.slice {w : World} {b n cap : Nat} {S : Nat → Int × Int × Int} (h : PRow w b n S) : SliceIs w (.slice (some ⟨b, 0, none⟩) n cap) (pgl S n) := by
  refine ⟨_, cap, by rw [pgl_len], fun _ => ⟨b, rfl, Row.lt h, fun i p hp => ?_⟩⟩
  have hi : i < n := by have := (List.getElem?_eq_some_iff.1 hp).1; rw [pgl_len] at this; exact this
  rw [pgl_at S hi] at hp
  cases hp
  exact h.cells hi
theorem ListIs.row {w : World} {B g n cap : Nat} {S : Nat → Int × Int × Int} (h : ListIs w B (.slice (some ⟨g, 0, none⟩) n cap) (pgl S n)) : PRow w g n S ∧ B ≤ g ∧ n ≤ cap := by
  unfold ListIs at h
  rw [pgl_len] at h
  rcases h.2 with ⟨e, h0⟩ | ⟨g', cap', cur, e, h1, h2, h3, h4, h5, h6⟩
  · cases e
  · cases e
    refine ⟨⟨cur, h2, by omega, fun i hi => ?_⟩, h1, h3⟩
    have e : (cur.toList.take (n * 3))[i]? = (pgs (pgl S n))[i]? := by rw [h6]
    rw [pgs_cell S n hi] at e
    simp [hi] at e
    simpa using e
set_option maxHeartbeats 1000000 in
theorem clone_any {w : World} {bw n cap : Nat} {S : Nat → Int × Int × Int} (hr : PRow w bw n S) (h1 : 1 ≤ n) (hk : n ≤ 4096) :
    Calls Tryz.prog 65 #[.slice (some ⟨bw, 0, none⟩) n cap] w fun e w' => ∃ g cap', e = .returned (.slice (some ⟨g, 0, none⟩) n cap') ∧ ListIs w' w.heap.size (.slice (some ⟨g, 0, none⟩) n cap') (pgl S n) ∧ Out 0 0 w w' := by
  obtain ⟨i0, hi, hz0, hz1, hz2⟩ := info_parts info_page
  have heq := fun w => Lib.run_eql_slice_nil (P := Tryz.prog) w 61 119 (some ⟨bw, 0, none⟩) n cap 0 0 Tryz.underlying61
  simp at heq
  have hown : (w.alloc (.cells #[] 119)).ownsRow w.heap.size 119 3 (.slice (some ⟨w.heap.size, 0, none⟩) 0 0) 0 [] :=
    ⟨rfl, .inr ⟨w.heap.size, 0, #[], rfl, Nat.le_refl _, heap_alloc_new _ _, Nat.le_refl _, Nat.zero_le _, rfl, rfl⟩⟩
  have hnews : ∀ j u, (pgs (pgl S n))[j]? = some u → (w.alloc (.cells #[] 119)).cell? ((⟨bw, 0, none⟩ : Addr).add j) = some u := by
    intro j u hj
    have hjk : j < n * 3 := by
      have := (List.getElem?_eq_some_iff.1 hj).1
      rw [pgs_len, pgl_len] at this
      exact this
    rw [pgs_cell S n hjk] at hj
    cases hj
    have := (PRow.kept hr ((Out.refl 0 0 w).alloc (.cells #[] 119)) (.inr (Nat.zero_le _))).cell hjk
    rw [Addr.add_lit, Nat.zero_add]
    exact this
  have HOW := hid_mk hown
  have HNE := hid_mk hnews
  have HK : Hid (1 ≤ n ∧ n ≤ 4096) := ⟨h1, hk⟩
  clear hown hnews hr h1 hk
  go_enter Tryz.func65, Tryz.ntmps65
  go_wp2_with (at_builtin; refine wpList_append_own _ rfl _ _ 61 rfl w.heap.size 119 i0 (.agg #[.int .i64 0, .int .i64 0, .int .i64 0]) 3 24 Tryz.underlying61 hi hz0 hz1 hz2 rfl (by decide) (.slice (some ⟨w.heap.size, 0, none⟩) 0 0) 0 [] rfl HOW.out ⟨bw, 0, none⟩ n cap (pgs (pgl S n)) rfl (by rw [pgs_len, pgl_len]) HNE.out (pgs_one _) (by unfold maxLen; have := HK.out; omega) (by have := HK.out; omega) (by simp) ?_; intro v' w1 hown' hgrow hnil)
  rw [Nat.zero_add, List.nil_append] at hown'
  obtain ⟨g, cap', rfl, hg, _⟩ := hown'.form (by have := HK.out; omega)
  have hO : Out 0 0 w w1 := by
    have h0 : Out 0 0 w (w.alloc (.cells #[] 119)) := (Out.refl _ _ _).alloc _
    exact ⟨hgrow.os.trans h0.1, hgrow.tape.trans h0.2.1, hgrow.output.trans h0.2.2.1, Nat.le_trans h0.size hgrow.size, fun j h1 h2 => (hgrow.block j (Nat.lt_of_lt_of_le h1 h0.size) (by simp [Value.ownBlock]; omega)).trans (h0.block h1 h2)⟩
  have HL : Hid (ListIs w1 w.heap.size (.slice (some ⟨g, 0, none⟩) n cap') (pgl S n)) := by
    show World.ownsRow _ _ _ _ _ _ _
    rw [pgl_len]; exact hown'
  have HO := hid_mk hO
  clear hown' hgrow hnil hO hg
  go_wp2
  go_ret
  exact ⟨g, cap', by simp, HL.out, HO.out⟩
theorem all_any {w : World} {b bw n : Nat} {S : Nat → Int × Int × Int} (h : TblAt 126 w b bw n S) :
    Calls Tryz.prog 44 #[.pointer (some ⟨b, 0, none⟩)] w fun e w' => ∃ g cap', e = .returned (.slice (some ⟨g, 0, none⟩) n cap') ∧ ListIs w' w.heap.size (.slice (some ⟨g, 0, none⟩) n cap') (pgl S n) ∧ Out 0 0 w w' := by
  obtain ⟨cap, c0, _⟩ := h.cell
  have H := hid_mk (list_cell c0)
  have HC := hid_mk (clone_any (cap := cap) h.row h.nums.1 h.nums.2.1)
  clear c0 h
  go_enter Tryz.func44, Tryz.ntmps44
  go_wp2_with (first | (go_at_call 66; refine calls_same H.out ?_) | (go_at_call 65; refine HC.out.mono ?_; rintro e w1 ⟨g, cap', rfl, hl, ho⟩; have HL := hid_mk hl; clear hl))
  go_ret
  exact ⟨g, cap', rfl, HL.out, ho⟩
end Go.Proofs.YtcpignkjlnjjmaaGreatDoor
namespace Go.Proofs.YtcpignkjlnjjmaaGreatDoor
open Go
set_option linter.unusedVariables false
set_option linter.unusedSimpArgs false

theorem and_bytes (h l c d : Nat) (hl : l < 256) (hd : d < 256) : (256 * h + l) &&& (256 * c + d) = 256 * (h &&& c) + (l &&& d) := by
  have hx : l &&& d < 2 ^ 8 := Nat.and_lt_two_pow _ hd
  apply Nat.eq_of_testBit_eq
  intro j
  have e1 := Nat.testBit_two_pow_mul_add h (i := 8) (b := l) hl j
  have e2 := Nat.testBit_two_pow_mul_add c (i := 8) (b := d) hd j
  have e3 := Nat.testBit_two_pow_mul_add (h &&& c) (i := 8) (b := l &&& d) hx j
  have p : (2 : Nat) ^ 8 = 256 := rfl
  rw [p] at e1 e2 e3
  rw [Nat.testBit_and, e1, e2, e3]
  split <;> rw [Nat.testBit_and]
def rep (c : Nat) : Nat → Nat
  | 0 => 0
  | k + 1 => 256 * rep c k + c
def f1 (k x : Nat) : Nat := (x / 2 &&& rep 85 k) + (x &&& rep 85 k)
def f2 (k x : Nat) : Nat := (x / 4 &&& rep 51 k) + (x &&& rep 51 k)
def f3 (k x : Nat) : Nat := (x / 16 + x) &&& rep 15 k
def g1 (l : Nat) : Nat := (l / 2 &&& 85) + (l &&& 85)
def g2 (l : Nat) : Nat := (l / 4 &&& 51) + (l &&& 51)
theorem low1 : ∀ b : Fin 2, ∀ l : Fin 256, (128 * b.val + l.val / 2) &&& 85 = (l.val / 2) &&& 85 := by decide +kernel
theorem low2 : ∀ b : Fin 4, ∀ l : Fin 256, (64 * b.val + l.val / 4) &&& 51 = (l.val / 4) &&& 51 := by decide +kernel
theorem g1_lt : ∀ l : Fin 256, g1 l.val < 256 := by decide +kernel
theorem g12_nib : ∀ l : Fin 256, g2 (g1 l.val) % 16 ≤ 4 ∧ g2 (g1 l.val) / 16 ≤ 4 := by decide +kernel
theorem p8_cnt : ∀ l : Fin 256, g2 (g1 l.val) / 16 + g2 (g1 l.val) % 16 = cnt l.val.testBit 8 := by decide +kernel
theorem f1_step (k h l : Nat) (hl : l < 256) : f1 (k + 1) (256 * h + l) = 256 * f1 k h + g1 l := by
  unfold f1 g1
  show ((256 * h + l) / 2 &&& (256 * rep 85 k + 85)) + ((256 * h + l) &&& (256 * rep 85 k + 85)) = _
  rw [show (256 * h + l) / 2 = 256 * (h / 2) + (128 * (h % 2) + l / 2) from by omega, and_bytes _ _ _ _ (by omega) (by omega), and_bytes _ _ _ _ hl (by omega)]
  have := low1 ⟨h % 2, by omega⟩ ⟨l, hl⟩
  simp only at this
  rw [this]; omega
theorem f2_step (k h l : Nat) (hl : l < 256) : f2 (k + 1) (256 * h + l) = 256 * f2 k h + g2 l := by
  unfold f2 g2
  show ((256 * h + l) / 4 &&& (256 * rep 51 k + 51)) + ((256 * h + l) &&& (256 * rep 51 k + 51)) = _
  rw [show (256 * h + l) / 4 = 256 * (h / 4) + (64 * (h % 4) + l / 4) from by omega, and_bytes _ _ _ _ (by omega) (by omega), and_bytes _ _ _ _ hl (by omega)]
  have := low2 ⟨h % 4, by omega⟩ ⟨l, hl⟩
  simp only at this
  rw [this]; omega
theorem f12_step (k h l : Nat) (hl : l < 256) : f2 (k + 1) (f1 (k + 1) (256 * h + l)) = 256 * f2 k (f1 k h) + g2 (g1 l) := by
  have := g1_lt ⟨l, hl⟩
  rw [f1_step k h l hl, f2_step _ _ _ this]
theorem f12_nib (k x : Nat) : f2 k (f1 k x) % 16 ≤ 4 := by
  cases k with
  | zero => simp [f2, f1, rep]
  | succ k =>
    rw [show x = 256 * (x / 256) + x % 256 from by omega, f12_step _ _ _ (by omega)]
    have := g12_nib ⟨x % 256, by omega⟩
    simp only at this
    omega
theorem f123_step (k h l : Nat) (hl : l < 256) : f3 (k + 1) (f2 (k + 1) (f1 (k + 1) (256 * h + l))) = 256 * f3 k (f2 k (f1 k h)) + cnt l.testBit 8 := by
  rw [f12_step _ _ _ hl]
  have h1 := f12_nib k h
  have h2 := g12_nib ⟨l, hl⟩
  have h3 := p8_cnt ⟨l, hl⟩
  simp only at h2 h3
  rw [← h3]
  generalize f2 k (f1 k h) = H at *
  generalize g2 (g1 l) = L at *
  unfold f3
  show ((256 * H + L) / 16 + (256 * H + L)) &&& (256 * rep 15 k + 15) = _
  rw [show (256 * H + L) / 16 + (256 * H + L) = 256 * (H / 16 + H) + (16 * (H % 16) + L / 16 + L) from by omega, and_bytes _ _ _ _ (by omega) (by omega)]
  rw [show (15 : Nat) = 2 ^ 4 - 1 from rfl, Nat.and_two_pow_sub_one_eq_mod]
  omega
theorem cnt_byte (x k : Nat) : cnt x.testBit (8 + k) = cnt (x % 256).testBit 8 + cnt (x / 256).testBit k := by
  rw [cnt_add]
  congr 1
  · refine cnt_congr fun j hj => ?_
    rw [show (256 : Nat) = 2 ^ 8 from rfl, Nat.testBit_mod_two_pow]; simp [hj]
  · refine cnt_congr fun j hj => ?_
    rw [show (256 : Nat) = 2 ^ 8 from rfl, Nat.testBit_div_two_pow]
    rw [Nat.add_comm]
theorem f123_byte (k x : Nat) : f3 (k + 1) (f2 (k + 1) (f1 (k + 1) x)) = 256 * f3 k (f2 k (f1 k (x / 256))) + cnt (x % 256).testBit 8 := by
  have := f123_step k (x / 256) (x % 256) (by omega)
  rw [show 256 * (x / 256) + x % 256 = x from by omega] at this
  exact this
theorem m55 : rep 85 8 = 6148914691236517205 := by simp [rep]
theorem m33 : rep 51 8 = 3689348814741910323 := by simp [rep]
theorem m0f : rep 15 8 = 1085102592571150095 := by simp [rep]
theorem gather (y h1 h2 h3 h4 h5 h6 h7 p0 p1 p2 p3 p4 p5 p6 : Nat) (b0 : p0 ≤ 8) (b1 : p1 ≤ 8) (b2 : p2 ≤ 8) (b3 : p3 ≤ 8) (b4 : p4 ≤ 8) (b5 : p5 ≤ 8) (b6 : p6 ≤ 8) (b7 : h7 ≤ 8)
    (e0 : y = 256 * h1 + p0) (e1 : h1 = 256 * h2 + p1) (e2 : h2 = 256 * h3 + p2) (e3 : h3 = 256 * h4 + p3) (e4 : h4 = 256 * h5 + p4) (e5 : h5 = 256 * h6 + p5) (e6 : h6 = 256 * h7 + p6) :
    y + y / 256 < 18446744073709551616 ∧ (y + y / 256) + (y + y / 256) / 65536 < 18446744073709551616 ∧ ((y + y / 256) + (y + y / 256) / 65536) + ((y + y / 256) + (y + y / 256) / 65536) / 4294967296 < 18446744073709551616 ∧
      (((y + y / 256) + (y + y / 256) / 65536) + ((y + y / 256) + (y + y / 256) / 65536) / 4294967296) % 128 = p0 + p1 + p2 + p3 + p4 + p5 + p6 + h7 := by
  have l6 : h6 ≤ 256 * 8 + 8 := by omega
  have l5 : h5 ≤ 256 * 2056 + 8 := by omega
  have l4 : h4 ≤ 256 * 526344 + 8 := by omega
  have l3 : h3 ≤ 256 * 134744072 + 8 := by omega
  have l2 : h2 ≤ 256 * 34494482440 + 8 := by omega
  have l1 : h1 ≤ 256 * 8830587504648 + 8 := by omega
  have a1 : y / 256 = h1 := by clear e1 e2 e3 e4 e5 e6; omega
  rw [a1]
  have a2 : (y + h1) / 65536 = h2 + h3 := by
    have : y + h1 = 65536 * (h2 + h3) + (256 * (p1 + p2) + (p0 + p1)) := by clear e3 e4 e5 e6; omega
    rw [this]; clear e0 e1 e2 e3 e4 e5 e6 this; omega
  rw [a2]
  have a3 : (y + h1 + (h2 + h3)) / 4294967296 = h4 + h5 + h6 + h7 := by
    have t0 : y = 4294967296 * h4 + (16777216 * p3 + 65536 * p2 + 256 * p1 + p0) := by clear e4 e5 e6; omega
    have t1 : h1 = 4294967296 * h5 + (16777216 * p4 + 65536 * p3 + 256 * p2 + p1) := by clear e0 e5 e6; omega
    have t2 : h2 = 4294967296 * h6 + (16777216 * p5 + 65536 * p4 + 256 * p3 + p2) := by clear e0 e1 e6; omega
    have t3 : h3 = 4294967296 * h7 + (16777216 * p6 + 65536 * p5 + 256 * p4 + p3) := by clear e0 e1 e2; omega
    clear e0 e1 e2 e3 e4 e5 e6 a1 a2
    omega
  rw [a3]
  clear a1 a2 a3
  refine ⟨by clear e1 e2 e3 e4 e5 e6; omega, by clear e1 e2 e3 e4 e5 e6; omega, by clear e1 e2 e3 e4 e5 e6; omega, ?_⟩
  have : y + h1 + (h2 + h3) + (h4 + h5 + h6 + h7) = 128 * (2 * (h1 + h2 + h3 + h4 + h5 + h6 + h7)) + (p0 + p1 + p2 + p3 + p4 + p5 + p6 + h7) := by omega
  rw [this]
  clear e0 e1 e2 e3 e4 e5 e6 this
  omega
/-- the library's way, in whole numbers -/
def ocA (x : Nat) : Nat := (x / 2 &&& 6148914691236517205) + (x &&& 6148914691236517205)
def ocB (x : Nat) : Nat := (x / 4 &&& 3689348814741910323) + (x &&& 3689348814741910323)
def ocC (x : Nat) : Nat := (x / 16 + x) &&& 1085102592571150095
theorem cnt_byte' (x m k : Nat) (h : m = 8 + k) : cnt x.testBit m = cnt (x % 256).testBit 8 + cnt (x / 256).testBit k := by rw [h, cnt_byte]
theorem oc_f (x : Nat) : ocC (ocB (ocA x)) = f3 8 (f2 8 (f1 8 x)) := by unfold ocA ocB ocC f1 f2 f3; rw [m55, m33, m0f]
def fx (k x : Nat) : Nat := f3 k (f2 k (f1 k x))
theorem fx_zero (x : Nat) : fx 0 x = 0 := by simp [fx, f1, f2, f3, rep]
theorem fx_byte (k x : Nat) : fx (k + 1) x = 256 * fx k (x / 256) + cnt (x % 256).testBit 8 := f123_byte k x
theorem oc_pop (x : Nat) : ∃ y, ocC (ocB (ocA x)) = y ∧ y + y / 256 < 18446744073709551616 ∧ (y + y / 256) + (y + y / 256) / 65536 < 18446744073709551616 ∧ ((y + y / 256) + (y + y / 256) / 65536) + ((y + y / 256) + (y + y / 256) / 65536) / 4294967296 < 18446744073709551616 ∧
      (((y + y / 256) + (y + y / 256) / 65536) + ((y + y / 256) + (y + y / 256) / 65536) / 4294967296) % 128 = pop x := by
  have e : ocC (ocB (ocA x)) = fx 8 x := by rw [oc_f, fx]
  have hp : pop x = cnt x.testBit 64 := rfl
  obtain ⟨x1, h1⟩ : ∃ x1, x / 256 = x1 := ⟨_, rfl⟩
  obtain ⟨x2, h2⟩ : ∃ x2, x1 / 256 = x2 := ⟨_, rfl⟩
  obtain ⟨x3, h3⟩ : ∃ x3, x2 / 256 = x3 := ⟨_, rfl⟩
  obtain ⟨x4, h4⟩ : ∃ x4, x3 / 256 = x4 := ⟨_, rfl⟩
  obtain ⟨x5, h5⟩ : ∃ x5, x4 / 256 = x5 := ⟨_, rfl⟩
  obtain ⟨x6, h6⟩ : ∃ x6, x5 / 256 = x6 := ⟨_, rfl⟩
  obtain ⟨x7, h7⟩ : ∃ x7, x6 / 256 = x7 := ⟨_, rfl⟩
  have k0 := cnt_byte' x 64 56 rfl
  have k1 := cnt_byte' x1 56 48 rfl
  have k2 := cnt_byte' x2 48 40 rfl
  have k3 := cnt_byte' x3 40 32 rfl
  have k4 := cnt_byte' x4 32 24 rfl
  have k5 := cnt_byte' x5 24 16 rfl
  have k6 := cnt_byte' x6 16 8 rfl
  have k7 := cnt_byte' x7 8 0 rfl
  have z7 : cnt (x7 / 256).testBit 0 = 0 := rfl
  have y0 := fx_byte 7 x
  have y1 := fx_byte 6 x1
  have y2 := fx_byte 5 x2
  have y3 := fx_byte 4 x3
  have y4 := fx_byte 3 x4
  have y5 := fx_byte 2 x5
  have y6 := fx_byte 1 x6
  have y7 := fx_byte 0 x7
  rw [fx_zero] at y7
  rw [h1] at k0 y0
  rw [h2] at k1 y1
  rw [h3] at k2 y2
  rw [h4] at k3 y3
  rw [h5] at k4 y4
  rw [h6] at k5 y5
  rw [h7] at k6 y6
  have q0 := cnt_le (x % 256).testBit 8
  have q1 := cnt_le (x1 % 256).testBit 8
  have q2 := cnt_le (x2 % 256).testBit 8
  have q3 := cnt_le (x3 % 256).testBit 8
  have q4 := cnt_le (x4 % 256).testBit 8
  have q5 := cnt_le (x5 % 256).testBit 8
  have q6 := cnt_le (x6 % 256).testBit 8
  have q7 := cnt_le (x7 % 256).testBit 8
  refine ⟨fx 8 x, e, ?_⟩
  clear e h1 h2 h3 h4 h5 h6 h7
  generalize cnt (x % 256).testBit 8 = p0 at *
  generalize cnt (x1 % 256).testBit 8 = p1 at *
  generalize cnt (x2 % 256).testBit 8 = p2 at *
  generalize cnt (x3 % 256).testBit 8 = p3 at *
  generalize cnt (x4 % 256).testBit 8 = p4 at *
  generalize cnt (x5 % 256).testBit 8 = p5 at *
  generalize cnt (x6 % 256).testBit 8 = p6 at *
  generalize cnt (x7 % 256).testBit 8 = p7 at *
  have hp' : pop x = p0 + p1 + p2 + p3 + p4 + p5 + p6 + p7 := by
    rw [hp, k0, k1, k2, k3, k4, k5, k6]
    clear y0 y1 y2 y3 y4 y5 y6 y7 q0 q1 q2 q3 q4 q5 q6 q7 hp k0 k1 k2 k3 k4 k5 k6
    omega
  clear hp k0 k1 k2 k3 k4 k5 k6 k7 z7
  simp only [Nat.reduceAdd] at y0 y1 y2 y3 y4 y5 y6 y7
  have y7' : fx 1 x7 = p7 := by rw [y7]; omega
  rw [y7'] at y6
  obtain ⟨r1, r2, r3, r4⟩ := gather _ _ _ _ _ _ _ _ p0 p1 p2 p3 p4 p5 p6 q0 q1 q2 q3 q4 q5 q6 q7 y0 y1 y2 y3 y4 y5 y6
  exact ⟨r1, r2, r3, by rw [r4, hp']⟩
end Go.Proofs.YtcpignkjlnjjmaaGreatDoor
namespace Go.Proofs.YtcpignkjlnjjmaaGreatDoor
open Go.RowKit
set_option linter.unusedVariables false
set_option linter.unusedSimpArgs false

/-- how many words -/
def nw (n : Nat) : Nat := (n + 63) / 64
/-- block b is a bitmap.Map of the length n with the numbers of S, all of it among the blocks from lo on below hi -/
def MapAt (w : World) (lo hi b n : Nat) (S : Nat → Bool) : Prop :=
  ∃ (bw : Nat) (cap : Nat), w.heap[b]? = some (.cells #[.int .i64 n, .slice (some ⟨bw, 0, none⟩) (nw n) cap] 143 (0, 0)) ∧ lo ≤ b ∧ b < hi ∧ hi ≤ w.heap.size ∧ 4 ≤ lo ∧ n ≤ 262144 ∧ nw n ≤ cap ∧ (∀ j, n ≤ j → S j = false) ∧ Tab w ∧
    lo ≤ bw ∧ bw < hi ∧ bw ≠ b ∧ Row w bw 78 (nw n) (fun i => .int .u64 (pk S i))
theorem MapAt.kept {w w' : World} {lo hi b n lo' hi' : Nat} {S : Nat → Bool} (h : MapAt w lo hi b n S) (g : Out lo' hi' w w') (hd : hi ≤ lo' ∨ hi' ≤ lo) (hp : 4 ≤ lo' ∨ hi' = 0) : MapAt w' lo hi b n S := by
  obtain ⟨bw, cap, hb, h1, h2, h3, h4, h5, h6, h7, h8, l1, l2, l3, hr⟩ := h
  have hk : bw < lo' ∨ hi' ≤ bw := by omega
  exact ⟨bw, cap, g.heap hb (by omega), h1, h2, Nat.le_trans h3 g.size, h4, h5, h6, h7, h8.kept g (by omega), l1, l2, l3, hr.kept g hk⟩
theorem MapAt.quiet {w w' : World} {lo hi b n : Nat} {S : Nat → Bool} (h : MapAt w lo hi b n S) (g : Out 0 0 w w') : MapAt w' lo hi b n S := h.kept g (.inr (Nat.zero_le _)) (.inr rfl)
theorem MapAt.drew {w : World} {lo hi b n : Nat} {S : Nat → Bool} (h : MapAt w lo hi b n S) : MapAt w.drew lo hi b n S := h.quiet (Out.refl _ _ _).drew
theorem MapAt.alloc {w : World} {lo hi b n : Nat} {S : Nat → Bool} (h : MapAt w lo hi b n S) (o : Obj) : MapAt (w.alloc o) lo hi b n S := h.quiet ((Out.refl _ _ _).alloc o)
theorem MapAt.tab {w : World} {lo hi b n : Nat} {S : Nat → Bool} (h : MapAt w lo hi b n S) : Tab w := by
  obtain ⟨bw, cap, hb, h1, h2, h3, h4, h5, h6, h7, h8, h9⟩ := h
  exact h8
theorem MapAt.bounds {w : World} {lo hi b n : Nat} {S : Nat → Bool} (h : MapAt w lo hi b n S) : lo ≤ b ∧ b < hi ∧ hi ≤ w.heap.size ∧ 4 ≤ lo ∧ n ≤ 262144 ∧ ∀ j, n ≤ j → S j = false := by
  obtain ⟨bw, cap, hb, h1, h2, h3, h4, h5, h6, h7, h8, h9⟩ := h
  exact ⟨h1, h2, h3, h4, h5, h7⟩
theorem MapAt.len {w : World} {lo hi b n : Nat} {S : Nat → Bool} (h : MapAt w lo hi b n S) : w.cell? ⟨b, 0, none⟩ = some (.int .i64 n) := by
  obtain ⟨bw, cap, hb, _⟩ := h
  simp [World.cell?, hb]
end Go.Proofs.YtcpignkjlnjjmaaGreatDoor
