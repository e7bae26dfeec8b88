/- package show: bytes in a text -/
import Derived.Test.YtmfnkhonghemeaaDoorIp
import Derived.Test.YtmfnkhonghemeaaDoorIs2
import Derived.Laws.BytesArg
namespace Go.Proofs.YtmfnkhonghemeaaDoor
open Go.RowKit
set_option linter.unusedVariables false
set_option linter.unusedSimpArgs false

theorem printed_any (r : Int) (w : World) : Calls Tryd.prog 51 #[.int .i32 r] w fun e w' => e = .returned (.bool (decide (32 ≤ r ∧ r ≤ 126))) ∧ w' = w := by
  by_cases h : 32 ≤ r
  · go_enter Tryd.func51, Tryd.ntmps51
    go_wp2
    go_ret
    refine ⟨ret_bool ?_, rfl⟩
    simp [h]
  · go_enter Tryd.func51, Tryd.ntmps51
    go_wp2
    go_ret
    refine ⟨ret_bool ?_, rfl⟩
    simp; omega
/-- the library's table of bits -/
def Tz (w : World) : Prop := ∀ j : Nat, j < 64 → w.cell? ⟨5, j, none⟩ = some (.int .u8 (Lib.deBruijn64tab.getD j 0))
theorem pow16 (w : World) : Calls Tryd.prog 76 #[.int .i64 16] w fun e w' => e = .returned (.bool true) ∧ w' = w := by
  go_enter Tryd.func76, Tryd.ntmps76
  go_wp2
  go_ret
  exact ⟨rfl, rfl⟩
theorem and16 : bits .and .u64 16 (IntKind.u64.wrap (-16)) = 16 := by decide +kernel
theorem mul16 : IntKind.u64.wrap (16 * 285870213051353865) = 4573923408821661840 := by decide +kernel
theorem tab15 : Lib.deBruijn64tab.getD 15 0 = 4 := by decide +kernel
theorem tz16 {w : World} (h : Tz w) : Calls Tryd.prog 87 #[.int .u64 16] w fun e w' => e = .returned (.int .i64 4) ∧ w' = w := by
  have h15 := h 15 (by decide)
  rw [tab15] at h15
  have e1 := and16
  have e2 := mul16
  clear h
  go_enter Tryd.func87, Tryd.ntmps87
  go_wp2
  go_ret
  exact ⟨rfl, rfl⟩
theorem tzu16 {w : World} (h : Tz w) : Calls Tryd.prog 77 #[.int .u64 16] w fun e w' => e = .returned (.int .i64 4) ∧ w' = w := by
  have H := hid_mk (tz16 h)
  clear h
  go_enter Tryd.func77, Tryd.ntmps77
  go_wp2_with (go_at_call 87; refine calls_same H.out ?_)
  go_ret
  exact ⟨rfl, rfl⟩
theorem conv1 {W : World} {g o c : Nat} {x : Int} (h : W.cell? ⟨g, o, none⟩ = some (.int .u8 x)) : (Go.convert 35 9 (.slice (some ⟨g, o, none⟩) 1 c)).run Tryd.prog W = .ok (.string ⟨#[UInt8.ofNat x.toNat]⟩) W :=
  run_convert_bytes_arg W _ 5 Tryd.underlying35 Tryd.underlying5 g o 1 c [x] rfl (fun i hi => by
    obtain rfl : i = 0 := by omega
    simpa using h) _ Tryd.underlying9
theorem conv2 {W : World} {g o c : Nat} {x y : Int} (h : W.cell? ⟨g, o, none⟩ = some (.int .u8 x)) (h2 : W.cell? ⟨g, o + 1, none⟩ = some (.int .u8 y)) : (Go.convert 35 9 (.slice (some ⟨g, o, none⟩) 2 c)).run Tryd.prog W = .ok (.string ⟨#[UInt8.ofNat x.toNat, UInt8.ofNat y.toNat]⟩) W :=
  run_convert_bytes_arg W _ 5 Tryd.underlying35 Tryd.underlying5 g o 2 c [x, y] rfl (fun i hi => by
    rcases i with _ | _ | i
    · simpa using h
    · simpa using h2
    · omega) _ Tryd.underlying9
theorem cell_set1 (w : World) (z : Array Value) (T : TypeId) (i : Nat) (v : Value) (h : i < z.size) : (w.alloc (.cells (z.setIfInBounds i v) T)).cell? ⟨w.heap.size, i, none⟩ = some v :=
  (Bl.new w (z.setIfInBounds i v) T).cell (by simp [h])
theorem cell_set2 (w : World) (z : Array Value) (T : TypeId) (i j : Nat) (v u : Value) (h : i < z.size) (hij : j ≠ i) : (w.alloc (.cells ((z.setIfInBounds i v).setIfInBounds j u) T)).cell? ⟨w.heap.size, i, none⟩ = some v :=
  (Bl.new w ((z.setIfInBounds i v).setIfInBounds j u) T).cell (by rw [Array.getElem?_setIfInBounds_ne hij]; simp [h])
theorem z65 : Tryd.zeroCells131.size = 65 := by kernel_rfl
/-- a hexadecimal digit, small -/
def hxd (d : Nat) : UInt8 := if d < 10 then UInt8.ofNat (48 + d) else UInt8.ofNat (87 + d)
theorem results_tt {P : Program} {fn : Func} {p q : Tmp} {t : Array Value} {w : World} {v1 v2 : Value} (hr : fn.results = #[.tmp p, .tmp q]) (hp : t.getD p undef = v1) (hq : t.getD q undef = v2) : (results fn t).run P w = .ok (.tuple #[v1, v2]) w := by
  have hp' : t[p]?.getD undef = v1 := by simpa using hp
  have hq' : t[q]?.getD undef = v2 := by simpa using hq
  simp only [results, hr]
  simp [Sem.run_bind, hp', hq', Result.andThen]
theorem dg (u : Nat) (hu : u < 16) (h : u < (⟨#[48, 49, 50, 51, 52, 53, 54, 55, 56, 57, 97, 98, 99, 100, 101, 102, 103, 104, 105, 106, 107, 108, 109, 110, 111, 112, 113, 114, 115, 116, 117, 118, 119, 120, 121, 122]⟩ : ByteArray).size) : (⟨#[48, 49, 50, 51, 52, 53, 54, 55, 56, 57, 97, 98, 99, 100, 101, 102, 103, 104, 105, 106, 107, 108, 109, 110, 111, 112, 113, 114, 115, 116, 117, 118, 119, 120, 121, 122]⟩ : ByteArray)[u]'h = hxd u := by
  have key : ∀ x : Fin 16, (⟨#[48, 49, 50, 51, 52, 53, 54, 55, 56, 57, 97, 98, 99, 100, 101, 102, 103, 104, 105, 106, 107, 108, 109, 110, 111, 112, 113, 114, 115, 116, 117, 118, 119, 120, 121, 122]⟩ : ByteArray).data[x.val]? = some (hxd x.val) := by decide +kernel
  have := key ⟨u, hu⟩
  have h2 : u < (⟨#[48, 49, 50, 51, 52, 53, 54, 55, 56, 57, 97, 98, 99, 100, 101, 102, 103, 104, 105, 106, 107, 108, 109, 110, 111, 112, 113, 114, 115, 116, 117, 118, 119, 120, 121, 122]⟩ : ByteArray).data.size := h
  rw [Array.getElem?_eq_getElem h2] at this
  exact Option.some.inj this
set_option maxRecDepth 100000 in
set_option maxHeartbeats 2000000 in
theorem bits_one {w : World} (h : Tz w) (u : Nat) (hu : u < 16) : Calls Tryd.prog 63 #[.slice none 0 0, .int .u64 u, .int .i64 16, .bool false, .bool false] w fun e w' => e = .returned (.tuple #[.slice none 0 0, .string ⟨#[hxd u]⟩]) ∧ Out 0 0 w w' := by
  have HT := hid_mk h
  have HP := hid_mk pow16
  have hu' : (u : Int) < 16 := by omega
  clear h
  go_enter Tryd.func63, Tryd.ntmps63
  go_wp2_with (first
    | (go_at_call 76; refine calls_same (HP.out _) ?_)
    | (go_at_call 77; refine calls_same (tzu16 (fun j hj => ((Out.refl 0 0 w).alloc _).cell (HT.out j hj) (.inr (Nat.zero_le _)))) ?_))
  refine wp_loop_once ?_
  go_wp2_with fail
  rw [conv1 (h := ?hh)]
  case hh => exact cell_set1 _ _ _ _ _ (by rw [z65]; decide)
  go_wp2_with fail
  rw [dg u hu]
  exact bodyPost_ret (results_tt Tryd.results63 rfl rfl) rfl ⟨rfl, (Out.refl 0 0 w).alloc _⟩
theorem and15 (u : Nat) (h0 : 16 ≤ u) (hu : u < 256) : bits .and .u64 u 15 = ((u % 16 : Nat) : Int) := by
  have key : ∀ x : Fin 256, bits .and .u64 (x.val : Int) 15 = ((x.val % 16 : Nat) : Int) := by decide +kernel
  exact key ⟨u, hu⟩
set_option maxRecDepth 100000 in
set_option maxHeartbeats 2000000 in
theorem bits_two {w : World} (h : Tz w) (u : Nat) (h0 : 16 ≤ u) (hu : u < 256) : Calls Tryd.prog 63 #[.slice none 0 0, .int .u64 u, .int .i64 16, .bool false, .bool false] w fun e w' => e = .returned (.tuple #[.slice none 0 0, .string ⟨#[hxd (u / 16), hxd (u % 16)]⟩]) ∧ Out 0 0 w w' := by
  have HT := hid_mk h
  have HP := hid_mk pow16
  have hu' : (16 : Int) ≤ u := by omega
  have ha := and15 u h0 hu
  generalize hq : u % 16 = q at ha ⊢
  generalize hr : u / 16 = r
  have hq' : (q : Int) < 16 := by omega
  have hr' : (r : Int) < 16 := by omega
  have Hq := hid_mk hq
  have Hr := hid_mk hr
  clear h hq hr
  go_enter Tryd.func63, Tryd.ntmps63
  go_wp2_with (first
    | (go_at_call 76; refine calls_same (HP.out _) ?_)
    | (go_at_call 77; refine calls_same (tzu16 (fun j hj => ((Out.refl 0 0 w).alloc _).cell (HT.out j hj) (.inr (Nat.zero_le _)))) ?_))
  refine wp_loop_rounds 2 ?_
  refine (show Code.wp _ _ _ _ _ from ?_)
  go_wp2_with fail
  have e1 : ((u : Int) / 16) = (r : Int) := by have := Hr.out; omega
  rw [e1]
  refine (show Code.wp _ _ _ _ _ from ?_)
  go_wp2_with fail
  rw [conv2 (h := ?h1) (h2 := ?h2)]
  case h1 => exact cell_set1 _ _ _ _ _ (by rw [Array.size_setIfInBounds, z65]; decide)
  case h2 => exact cell_set2 _ _ _ _ _ _ _ (by rw [z65]; decide) (by decide)
  go_wp2_with fail
  rw [dg q (by omega), dg r (by omega)]
  exact bodyPost_ret (results_tt Tryd.results63 rfl rfl) rfl ⟨rfl, (Out.refl 0 0 w).alloc _⟩
end Go.Proofs.YtmfnkhonghemeaaDoor
