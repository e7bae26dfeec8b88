/- ShowTexts: the pieces of a text -/
import Derived.Test.YtkgdignpjammbaaDoorIhf
import Derived.Test.YtkgdignpjammbaaDoorIhg
namespace Go.Proofs.YtkgdignpjammbaaDoor
open Go.RowKit
set_option linter.unusedVariables false
set_option linter.unusedSimpArgs false

theorem info_int : (Tryd.prog.info? 3).map (fun i => (i.zero, i.size, i.bytes)) = some (some (.int .i64 0), 1, 8) := by kernel_rfl
/-- a list of numbers in a row of its own -/
def Ints (w : World) (base : Nat) (v : Value) (l : List Nat) : Prop := w.ownsRow base 3 1 v l.length (l.map fun b : Nat => Value.int .i64 b)
theorem Ints.kept {w w' : World} {base lo hi : Nat} {v : Value} {l : List Nat} (h : Ints w base v l) (o : Out lo hi w w') (hd : hi ≤ base) : Ints w' base v l := own_kept h o hd
theorem Ints.open_ {w : World} {base : Nat} {v : Value} {l : List Nat} (h : Ints w base v l) : ∃ ra c, v = .slice ra l.length c ∧ (l = [] ∨ ∃ g, ra = some ⟨g, 0, none⟩ ∧ ∀ (j : Nat) b, l[j]? = some b → w.cell? ⟨g, j, none⟩ = some (.int .i64 b)) := by
  obtain ⟨h1, h2⟩ := h
  rcases h2 with ⟨rfl, h2⟩ | ⟨g2, cap2, cur, rfl, h3, h4, h5, h6, h7, h8⟩
  · rw [h2]; exact ⟨none, 0, rfl, .inl (List.length_eq_zero_iff.1 h2)⟩
  · refine ⟨_, _, rfl, .inr ⟨g2, rfl, fun j b hj => ?_⟩⟩
    refine (Bl.cell h4 ?_)
    have : (l.map fun b : Nat => Value.int .i64 b)[j]? = some (.int .i64 b) := by rw [List.getElem?_map, hj]; rfl
    rw [← h8, List.getElem?_take] at this
    split at this
    · simpa using this
    · cases this
def tkB (bs : List Nat) (p : Nat) : List Nat := bs.take p
theorem take_up {bs : List Nat} {p b : Nat} (h : bs[p]? = some b) : tkB bs (p + 1) = tkB bs p ++ [b] := by
  unfold tkB
  rw [List.take_add_one, h]; rfl
theorem take_len {bs : List Nat} {p n : Nat} (hn : bs.length = n) (h : p ≤ n) : (tkB bs p).length = p := by simp [tkB]; omega
theorem tkB_all (bs : List Nat) : tkB bs bs.length = bs := List.take_length
/-- what the texts of the first bytes take -/
def flt (bs : List Nat) (p : Nat) : Nat := ((bs.take p).flatMap (fun b => (escV b).toList)).length
theorem conv_b (W : World) (b : Nat) : (Go.convert 43 9 (.slice (some ⟨W.heap.size, 0, none⟩) 1 1)).run Tryd.prog (W.alloc (.cells #[.int .u8 b] 5)) = .ok (.string ⟨#[UInt8.ofNat b]⟩) (W.alloc (.cells #[.int .u8 b] 5)) := by
  have := conv1 (c := 1) ((Bl.new W #[.int .u8 b] 5).cell (i := 0) rfl)
  simpa using this
/-- a piece of the text that is told -/
theorem piece_at {bs : List Nat} {p k b : Nat} (hn : bs.length = p) (hb : bs[k]? = some b) : flt bs (k + 1) = flt bs k + (escV b).size ∧ flt bs (k + 1) ≤ flt bs p ∧ (⟨(quoV bs).toArray⟩ : ByteArray).extract (1 + flt bs k) (1 + flt bs k + (escV b).size) = ⟨escV b⟩ := by
  subst hn
  have hk : k < bs.length := by
    rcases Nat.lt_or_ge k bs.length with h | h
    · exact h
    · rw [List.getElem?_eq_none h] at hb; cases hb
  have e1 : bs.take (k + 1) = bs.take k ++ [b] := by rw [List.take_add_one, hb]; rfl
  have hs : flt bs (k + 1) = flt bs k + (escV b).size := by
    unfold flt
    rw [e1]; simp
  have e2 : bs = bs.take k ++ b :: bs.drop (k + 1) := by
    have := List.take_append_drop (k + 1) bs
    rw [e1] at this
    simpa using this.symm
  have e3 : quoV bs = (34 :: (bs.take k).flatMap (fun b => (escV b).toList)) ++ ((escV b).toList ++ ((bs.drop (k + 1)).flatMap (fun b => (escV b).toList) ++ [34])) := by
    unfold quoV
    conv => lhs; rw [e2]
    simp
  have hl : (34 :: (bs.take k).flatMap (fun b => (escV b).toList)).length = 1 + flt bs k := by simp [flt]; omega
  refine ⟨hs, ?_, ?_⟩
  · rw [hs]
    unfold flt
    rw [List.take_length]
    conv => rhs; rw [e2]
    simp
  · apply ByteArray.ext
    rw [ByteArray.data_extract]
    apply Array.toList_inj.1
    rw [Array.toList_extract]
    show ((quoV bs).toArray.toList.extract _ _) = _
    rw [List.extract_eq_take_drop]
    simp only [e3, ← hl]
    rw [List.drop_left]
    rw [show (34 :: (bs.take k).flatMap (fun b => (escV b).toList)).length + (escV b).size - (34 :: (bs.take k).flatMap (fun b => (escV b).toList)).length = (escV b).toList.length from by simp]
    exact List.take_left
theorem quo_size (bs : List Nat) : (⟨(quoV bs).toArray⟩ : ByteArray).size = flt bs bs.length + 1 + 1 := by
  simp [ByteArray.size, quoV, flt]
theorem quo_first (bs : List Nat) (h : 0 < (⟨(quoV bs).toArray⟩ : ByteArray).size) : (⟨(quoV bs).toArray⟩ : ByteArray)[0]'h = 34 := rfl
theorem quo_last (bs : List Nat) (h : flt bs bs.length + 1 < (⟨(quoV bs).toArray⟩ : ByteArray).size) : (⟨(quoV bs).toArray⟩ : ByteArray)[flt bs bs.length + 1]'h = 34 := by
  show (quoV bs).toArray[flt bs bs.length + 1]'h = 34
  simp [quoV, flt]
theorem flt_le {bs : List Nat} {p : Nat} (h : bs.length = p) : flt bs p ≤ 5 * p := by
  have := flat_len bs
  unfold flt
  rw [← h, List.take_length]; exact this
theorem quo_facts {bs : List Nat} {p : Nat} (hn : bs.length = p) (hp : p ≤ 499) : ∃ (s : ByteArray) (m : Nat), s = ⟨(quoV bs).toArray⟩ ∧ m = flt bs p + 1 ∧ s.size = m + 1 ∧ 1 ≤ m ∧ (m : Int) ≤ 3000 ∧ (∀ h : 0 < s.size, s[0]'h = 34) ∧ (∀ h : m < s.size, s[m]'h = 34) := by
  subst hn
  refine ⟨_, _, rfl, rfl, quo_size bs, by omega, ?_, quo_first bs, quo_last bs⟩
  have := flt_le (bs := bs) rfl
  omega
theorem slice_piece {bs : List Nat} {p k b f m : Nat} {s : ByteArray} (hs : s = ⟨(quoV bs).toArray⟩ ∧ m = flt bs p + 1) (hsz : s.size = m + 1) (hn : bs.length = p) (hb : bs[k]? = some b ∧ flt bs k = f) (e : ByteArray) (he : e = ⟨escV b⟩) (j : Int) (hj : j = 1 + (f : Int) + (escV b).size) :
    ((1 : Int) + f + (escV b).size ≤ m) ∧ flt bs (k + 1) = f + (escV b).size ∧ ∀ w, (Instr.slice 9 (.string s) (some (.int .i64 (1 + (f : Int)))) (some (.int .i64 j)) none).run Tryd.prog w = .ok (.string e) w := by
  obtain ⟨h1, h2, h3⟩ := piece_at hn hb.1
  obtain ⟨hs, hm⟩ := hs
  obtain ⟨hb, rfl⟩ := hb
  subst hj he
  refine ⟨by omega, h1, fun w => ?_⟩
  rw [run_slice_string w 9 s .i64 .i64 _ _ Tryd.underlying9 (by omega) (by omega) (by omega)]
  rw [show (1 + (flt bs k : Int)).toNat = 1 + flt bs k from by omega, show (1 + (flt bs k : Int) + (escV b).size).toNat = 1 + flt bs k + (escV b).size from by omega, hs, h3]
theorem esc_plain {b : Nat} (h1 : ¬ (b < 32 ∨ 126 < b)) (h2 : ¬ (b = 34 ∨ b = 92)) : escV b = #[UInt8.ofNat b] := by unfold escV; rw [if_neg h1, if_neg h2]
theorem esc_back {b : Nat} (h2 : b = 34 ∨ b = 92) : escV b = #[92, UInt8.ofNat b] := by unfold escV; rw [if_neg (by omega), if_pos h2]
theorem esc_hex {b : Nat} (h1 : b < 32 ∨ 126 < b) : escV b = #[92, 120, hxU (b / 16), hxU (b % 16), 59] := by unfold escV; rw [if_pos h1]
theorem dgU (u : Nat) (hu : u < 16) (h : u < (⟨#[48, 49, 50, 51, 52, 53, 54, 55, 56, 57, 65, 66, 67, 68, 69, 70]⟩ : ByteArray).size) : (⟨#[48, 49, 50, 51, 52, 53, 54, 55, 56, 57, 65, 66, 67, 68, 69, 70]⟩ : ByteArray)[u]'h = hxU u := by
  have key : ∀ x : Fin 16, (⟨#[48, 49, 50, 51, 52, 53, 54, 55, 56, 57, 65, 66, 67, 68, 69, 70]⟩ : ByteArray).data[x.val]? = some (hxU x.val) := by decide +kernel
  have := key ⟨u, hu⟩
  have h2 : u < (⟨#[48, 49, 50, 51, 52, 53, 54, 55, 56, 57, 65, 66, 67, 68, 69, 70]⟩ : ByteArray).data.size := h
  rw [Array.getElem?_eq_getElem h2] at this
  exact Option.some.inj this
theorem conv_c (W : World) (x y : UInt8) (g : Nat) (hg : W.heap.size = g) : (Go.convert 43 9 (.slice (some ⟨g, 0, none⟩) 2 2)).run Tryd.prog (W.alloc (.cells #[.int .u8 x.toNat, .int .u8 y.toNat] 5)).drew = .ok (.string ⟨#[x, y]⟩) (W.alloc (.cells #[.int .u8 x.toNat, .int .u8 y.toNat] 5)).drew := by
  subst hg
  have k := (Bl.new W #[.int .u8 x.toNat, .int .u8 y.toNat] 5).kept ((Out.refl 0 0 _).drew) (.inr (Nat.zero_le _))
  have := conv2 (c := 2) (k.cell (i := 0) rfl) (k.cell (i := 1) rfl)
  simpa using this
end Go.Proofs.YtkgdignpjammbaaDoor
