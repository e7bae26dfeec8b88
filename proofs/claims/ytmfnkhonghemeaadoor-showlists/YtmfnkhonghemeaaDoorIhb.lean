/- package show: bytes in a text, their digits -/
import Derived.Test.YtmfnkhonghemeaaDoorIha
namespace Go.Proofs.YtmfnkhonghemeaaDoor
open Go.RowKit
set_option linter.unusedVariables false
set_option linter.unusedSimpArgs false

theorem fmtI_any {w : World} (h : Tz w) (u : Nat) (hu : u < 256) : Calls Tryd.prog 69 #[.int .u64 u, .int .i64 16] w fun e w' => e = .returned (.string ⟨if u < 16 then #[hxd u] else #[hxd (u / 16), hxd (u % 16)]⟩) ∧ Out 0 0 w w' := by
  have HT := hid_mk h
  clear h
  by_cases h16 : u < 16
  · rw [if_pos h16]
    go_enter Tryd.func69, Tryd.ntmps69
    go_wp2_with (go_at_call 63; refine (bits_one HT.out u h16).mono ?_; rintro e w2 ⟨rfl, hb⟩)
    go_ret
    exact ⟨rfl, hb⟩
  · rw [if_neg h16]
    go_enter Tryd.func69, Tryd.ntmps69
    go_wp2_with (go_at_call 63; refine (bits_two HT.out u (Nat.le_of_not_lt h16) hu).mono ?_; rintro e w2 ⟨rfl, hb⟩)
    go_ret
    exact ⟨rfl, hb⟩
theorem fmt_any {w : World} (h : Tz w) (u : Nat) (hu : u < 256) : Calls Tryd.prog 58 #[.int .u64 u, .int .i64 16] w fun e w' => e = .returned (.string ⟨if u < 16 then #[hxd u] else #[hxd (u / 16), hxd (u % 16)]⟩) ∧ Out 0 0 w w' := by
  have HT := hid_mk (fmtI_any h u hu)
  clear h
  generalize (⟨if u < 16 then #[hxd u] else #[hxd (u / 16), hxd (u % 16)]⟩ : ByteArray) = s at HT ⊢
  go_enter Tryd.func58, Tryd.ntmps58
  go_wp2_with (go_at_call 69; refine HT.out.mono ?_; rintro e w2 ⟨rfl, hb⟩)
  go_ret
  exact ⟨rfl, hb⟩
theorem join_flat (xs : List (List UInt8)) : Lib.join xs [] = xs.flatten := by
  unfold Lib.join
  induction xs with
  | nil => rfl
  | cons x xs ih =>
    cases xs with
    | nil => simp [List.intercalate]
    | cons y ys =>
      simp only [List.intercalate, List.intersperse, List.flatten_cons] at ih ⊢
      rw [ih]; simp
/-- all pieces, one behind the other -/
theorem joined_any {w : World} {g o c : Nat} (xs : List ByteArray) (hc : ∀ (j : Nat) x, xs[j]? = some x → w.cell? ⟨g, o + j, none⟩ = some (.string x)) (hg : g < w.heap.size) (hN : xs.length ≤ 100000) (hcap : xs.length ≤ c) (hl : ((xs.map (·.data.toList)).flatten).length ≤ 1000000) :
    Calls Tryd.prog 23 #[.slice (some ⟨g, o, none⟩) xs.length c] w fun e w' => e = .returned (.string ⟨((xs.map (·.data.toList)).flatten).toArray⟩) ∧ Out 0 0 w w' := by
  have H := hid_mk (Tryd.strings_Join g o c xs ⟨#[]⟩ w hc hg (by omega) hcap (by
    show (Lib.join _ []).length ≤ _
    rw [join_flat]; omega))
  rw [show (⟨#[]⟩ : ByteArray).data.toList = [] from rfl, join_flat] at H
  generalize hn : xs.length = n at H
  generalize hs : ((xs.map (·.data.toList)).flatten) = s at H ⊢
  clear hc hg hN hcap hl hs hn
  go_enter Tryd.func23, Tryd.ntmps23
  go_wp2_with (go_at_call 33; refine H.out.mono ?_; rintro e w2 ⟨rfl, hb⟩)
  go_ret
  exact ⟨rfl, Out.of_below hb 0 0⟩
/-- a hexadecimal digit, great -/
def hxU (d : Nat) : UInt8 := if d < 10 then UInt8.ofNat (48 + d) else UInt8.ofNat (55 + d)
theorem upper_hx (d : Nat) (h : d < 16) : Lib.upperB (hxd d) = hxU d := by
  have key : ∀ x : Fin 16, Lib.upperB (hxd x.val) = hxU x.val := by decide +kernel
  exact key ⟨d, h⟩
theorem hxd_lt (d : Nat) (h : d < 16) : (hxd d).toNat < 128 := by
  have key : ∀ x : Fin 16, (hxd x.val).toNat < 128 := by decide +kernel
  exact key ⟨d, h⟩
theorem up_one (w : World) (d : Nat) (h : d < 16) : Calls Tryd.prog 57 #[.string ⟨#[hxd d]⟩] w fun e w' => e = .returned (.string ⟨#[hxU d]⟩) ∧ Out 0 0 w w' := by
  refine (Tryd.strings_ToUpper_ascii ⟨#[hxd d]⟩ w (by simp [ByteArray.size]) ?_).mono ?_
  · intro j b hj
    rcases j with _ | j
    · simp at hj; subst hj; exact hxd_lt d h
    · simp at hj
  · rintro e w' ⟨rfl, hb⟩
    refine ⟨?_, Out.of_below hb 0 0⟩
    simp [Lib.toUpperA, upper_hx d h]
theorem up_two (w : World) (d q : Nat) (h : d < 16) (hq : q < 16) : Calls Tryd.prog 57 #[.string ⟨#[hxd d, hxd q]⟩] w fun e w' => e = .returned (.string ⟨#[hxU d, hxU q]⟩) ∧ Out 0 0 w w' := by
  refine (Tryd.strings_ToUpper_ascii ⟨#[hxd d, hxd q]⟩ w (by simp [ByteArray.size]) ?_).mono ?_
  · intro j b hj
    rcases j with _ | _ | j
    · simp at hj; subst hj; exact hxd_lt d h
    · simp at hj; subst hj; exact hxd_lt q hq
    · simp at hj
  · rintro e w' ⟨rfl, hb⟩
    refine ⟨?_, Out.of_below hb 0 0⟩
    simp [Lib.toUpperA, upper_hx d h, upper_hx q hq]
theorem cells_two {w : World} {g : Nat} {T : TypeId} {a b : ByteArray} (h : Bl w g #[.string a, .string b] T) : ∀ (j : Nat) x, [a, b][j]? = some x → w.cell? ⟨g, 0 + j, none⟩ = some (.string x) := by
  intro j x hj
  rw [Nat.zero_add]
  rcases j with _ | _ | j
  · obtain rfl : a = x := by simpa using hj
    exact h.cell rfl
  · obtain rfl : b = x := by simpa using hj
    exact h.cell rfl
  · simp at hj
theorem cells_three {w : World} {g : Nat} {T : TypeId} {a b c : ByteArray} (h : Bl w g #[.string a, .string b, .string c] T) : ∀ (j : Nat) x, [a, b, c][j]? = some x → w.cell? ⟨g, 0 + j, none⟩ = some (.string x) := by
  intro j x hj
  rw [Nat.zero_add]
  rcases j with _ | _ | _ | j
  · obtain rfl : a = x := by simpa using hj
    exact h.cell rfl
  · obtain rfl : b = x := by simpa using hj
    exact h.cell rfl
  · obtain rfl : c = x := by simpa using hj
    exact h.cell rfl
  · simp at hj
theorem joined_two {w : World} {g : Nat} {T : TypeId} {a b : ByteArray} (h : Bl w g #[.string a, .string b] T) (hg : g < w.heap.size) (hl : a.data.size + b.data.size ≤ 1000) :
    Calls Tryd.prog 23 #[.slice (some ⟨g, 0, none⟩) 2 2] w fun e w' => e = .returned (.string ⟨a.data ++ b.data⟩) ∧ Out 0 0 w w' := by
  refine (joined_any [a, b] (cells_two h) hg (by simp) (c := 2) (by simp) (by simp only [List.map, List.flatten_cons, List.flatten_nil, List.length_append, Array.length_toList, List.length_nil]; omega)).mono ?_
  rintro e w' ⟨rfl, ho⟩
  exact ⟨by simp, ho⟩
theorem joined_three {w : World} {g : Nat} {T : TypeId} {a b c : ByteArray} (h : Bl w g #[.string a, .string b, .string c] T) (hg : g < w.heap.size) (hl : a.data.size + b.data.size + c.data.size ≤ 1000) :
    Calls Tryd.prog 23 #[.slice (some ⟨g, 0, none⟩) 3 3] w fun e w' => e = .returned (.string ⟨a.data ++ b.data ++ c.data⟩) ∧ Out 0 0 w w' := by
  refine (joined_any [a, b, c] (cells_three h) hg (by simp) (c := 3) (by simp) (by simp only [List.map, List.flatten_cons, List.flatten_nil, List.length_append, Array.length_toList, List.length_nil]; omega)).mono ?_
  rintro e w' ⟨rfl, ho⟩
  exact ⟨by simp, ho⟩
theorem hex_two {w : World} (h : Tz w) (u : Nat) (hu : u < 256) : Calls Tryd.prog 49 #[.int .u64 u, .int .i64 2] w fun e w' => e = .returned (.string ⟨#[hxU (u / 16), hxU (u % 16)]⟩) ∧ Out 0 0 w w' := by
  have HF := hid_mk (fmt_any h u hu)
  clear h
  by_cases h16 : u < 16
  · rw [if_pos h16] at HF
    go_enter Tryd.func49, Tryd.ntmps49
    go_wp2_with (first
      | (go_at_call 58; refine HF.out.mono ?_; rintro e w2 ⟨rfl, hb⟩)
      | (go_at_call 57; refine (up_one _ u h16).mono ?_; rintro e w3 ⟨rfl, hc⟩)
      | (go_at_call 59; refine calls_same (Tryd.strings_Repeat_one _ _) ?_))
    refine (joined_two (Bl.new w3 _ _) (by simp) (by simp)).mono ?_
    rintro e w4 ⟨rfl, hd⟩
    go_wp2_with fail
    go_ret
    have e1 : u / 16 = 0 := by omega
    have e2 : u % 16 = u := by omega
    rw [e1, e2]
    exact ⟨rfl, ((hb.trans hc).alloc _).trans hd⟩
  · rw [if_neg h16] at HF
    go_enter Tryd.func49, Tryd.ntmps49
    go_wp2_with (first
      | (go_at_call 58; refine HF.out.mono ?_; rintro e w2 ⟨rfl, hb⟩)
      | (go_at_call 57; refine (up_two _ (u / 16) (u % 16) (by omega) (by omega)).mono ?_; rintro e w3 ⟨rfl, hc⟩)
      | (go_at_call 59; refine calls_same (Tryd.strings_Repeat_zero _ _) ?_))
    refine (joined_two (Bl.new w3 _ _) (by simp) (by simp)).mono ?_
    rintro e w4 ⟨rfl, hd⟩
    go_wp2_with fail
    go_ret
    exact ⟨rfl, ((hb.trans hc).alloc _).trans hd⟩
/-- a byte's text -/
def escV (b : Nat) : Array UInt8 := if b < 32 ∨ 126 < b then #[92, 120, hxU (b / 16), hxU (b % 16), 59] else if b = 34 ∨ b = 92 then #[92, UInt8.ofNat b] else #[UInt8.ofNat b]
theorem enc (b : Nat) (h : b < 128) : Utf8.encode b = ⟨#[UInt8.ofNat b]⟩ := by
  have key : ∀ x : Fin 128, Utf8.encode x.val = ⟨#[UInt8.ofNat x.val]⟩ := by decide +kernel
  exact key ⟨b, h⟩
set_option maxRecDepth 100000 in
theorem escaped_any {w : World} (h : Tz w) (b : Nat) (hb : b < 256) : Calls Tryd.prog 56 #[.int .u8 b] w fun e w' => e = .returned (.string ⟨escV b⟩) ∧ Out 0 0 w w' := by
  have HH := hid_mk (hex_two h b hb)
  clear h
  have hbi : (b : Int) < 256 := by omega
  unfold escV
  by_cases hp : b < 32 ∨ 126 < b
  · rw [if_pos hp]
    have hd : decide ((32 : Int) ≤ b ∧ (b : Int) ≤ 126) = false := by simp; omega
    have HP := hid_mk (fun w => printed_any (b : Int) w)
    rw [hd] at HP
    clear hd hp hb
    go_enter Tryd.func56, Tryd.ntmps56
    go_wp2_with (first
      | (go_at_call 51; refine calls_same (HP.out _) ?_)
      | (go_at_call 49; refine HH.out.mono ?_; rintro e w3 ⟨rfl, hc⟩))
    refine (joined_three (Bl.new w3 _ _) (by simp) (by simp)).mono ?_
    rintro e w4 ⟨rfl, hd⟩
    go_wp2_with fail
    go_ret
    exact ⟨rfl, (hc.alloc _).trans hd⟩
  · rw [if_neg hp]
    have hd : decide ((32 : Int) ≤ b ∧ (b : Int) ≤ 126) = true := by simp; omega
    have HP := hid_mk (fun w => printed_any (b : Int) w)
    rw [hd] at HP
    have hb1 : (b : Int) < 128 := by omega
    clear hd hp hb
    by_cases h1 : b = 34
    · subst h1
      rw [if_pos (.inl rfl)]
      go_enter Tryd.func56, Tryd.ntmps56
      go_wp2_with (first
        | (go_at_call 51; refine calls_same (HP.out _) ?_))
      rw [show Utf8.encode 34 = ⟨#[34]⟩ from enc 34 (by decide)]
      refine (joined_two (Bl.new w _ _) (by simp) (by simp)).mono ?_
      rintro e w4 ⟨rfl, hd⟩
      go_wp2_with fail
      go_ret
      exact ⟨rfl, ((Out.refl 0 0 w).alloc _).trans hd⟩
    · by_cases h2 : b = 92
      · subst h2
        rw [if_pos (.inr rfl)]
        go_enter Tryd.func56, Tryd.ntmps56
        go_wp2_with (first
          | (go_at_call 51; refine calls_same (HP.out _) ?_))
        rw [show Utf8.encode 92 = ⟨#[92]⟩ from enc 92 (by decide)]
        refine (joined_two (Bl.new w _ _) (by simp) (by simp)).mono ?_
        rintro e w4 ⟨rfl, hd⟩
        go_wp2_with fail
        go_ret
        exact ⟨rfl, ((Out.refl 0 0 w).alloc _).trans hd⟩
      · rw [if_neg (by omega)]
        have h1' : (b : Int) ≠ 34 := by omega
        have h2' : (b : Int) ≠ 92 := by omega
        clear h1 h2
        go_enter Tryd.func56, Tryd.ntmps56
        go_wp2_with (first
          | (go_at_call 51; refine calls_same (HP.out _) ?_))
        rw [enc b (by omega)]
        go_ret
        exact ⟨rfl, Out.refl _ _ _⟩
end Go.Proofs.YtmfnkhonghemeaaDoor
