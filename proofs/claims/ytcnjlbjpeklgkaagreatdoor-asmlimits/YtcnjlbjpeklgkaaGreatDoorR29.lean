import Derived.Shelf.Strconv.Itoa3
import Derived.Shelf.LaysM
import Derived.Test.YtcnjlbjpeklgkaaGreatDoorProg
import Derived.Test.YtcnjlbjpeklgkaaGreatDoorR28
import Derived.Lib.AppendIntMem
import Derived.Test.YtcnjlbjpeklgkaaGreatDoorR05
namespace Go.Proofs
open Go.Shelf
def Tryz.laysM171_ren : Go.Shelf.Ren := ⟨fun | 171 => 54 | 243 => 85 | 246 => 118 | 283 => 137 | 284 => 138 | 285 => 139 | 286 => 140 | 129 => 156 | 317 => 155 | 318 => 157 | 319 => 158 | 320 => 159 | 337 => 168 | 338 => 169 | n => n, fun | 3 => 3 | 9 => 9 | 2 => 2 | 4 => 4 | 171 => 202 | 0 => 0 | 53 => 133 | 37 => 50 | 5 => 5 | 173 => 205 | 212 => 213 | 51 => 214 | 20 => 20 | 213 => 215 | 46 => 207 | 232 => 231 | 233 => 232 | n => n, fun | 17 => 4 | 18 => 7 | 19 => 8 | n => n⟩
theorem Tryz.laysM171 : Go.Proofs.LaysM.n171 Tryz.prog Tryz.laysM171_ren := {
  mixed := by kernel_rfl
  f129 := Tryz.func156.trans (congrArg some (by kernel_rfl))
  f171 := Tryz.func54.trans (congrArg some (by kernel_rfl))
  f243 := Tryz.func85.trans (congrArg some (by kernel_rfl))
  f246 := Tryz.func118.trans (congrArg some (by kernel_rfl))
  f283 := Tryz.func137.trans (congrArg some (by kernel_rfl))
  f284 := Tryz.func138.trans (congrArg some (by kernel_rfl))
  f285 := Tryz.func139.trans (congrArg some (by kernel_rfl))
  f286 := Tryz.func140.trans (congrArg some (by kernel_rfl))
  f317 := Tryz.func155.trans (congrArg some (by kernel_rfl))
  f318 := Tryz.func157.trans (congrArg some (by kernel_rfl))
  f319 := Tryz.func158.trans (congrArg some (by kernel_rfl))
  f320 := Tryz.func159.trans (congrArg some (by kernel_rfl))
  f337 := Tryz.func168.trans (congrArg some (by kernel_rfl))
  f338 := Tryz.func169.trans (congrArg some (by kernel_rfl))
  t0 := Tryz.underlying0
  a0 := Tryz.isAgg0
  z0 := Tryz.sizeOf0
  v0 := Tryz.zeroValue0
  t2 := Tryz.underlying2
  a2 := Tryz.isAgg2
  z2 := Tryz.sizeOf2
  v2 := Tryz.zeroValue2
  t3 := Tryz.underlying3
  a3 := Tryz.isAgg3
  z3 := Tryz.sizeOf3
  v3 := Tryz.zeroValue3
  t4 := Tryz.underlying4
  a4 := Tryz.isAgg4
  z4 := Tryz.sizeOf4
  v4 := Tryz.zeroValue4
  t5 := Tryz.underlying5
  a5 := Tryz.isAgg5
  z5 := Tryz.sizeOf5
  v5 := Tryz.zeroValue5
  t9 := Tryz.underlying9
  a9 := Tryz.isAgg9
  z9 := Tryz.sizeOf9
  v9 := Tryz.zeroValue9
  t20 := Tryz.underlying20
  a20 := Tryz.isAgg20
  z20 := Tryz.sizeOf20
  v20 := Tryz.zeroValue20
  t37 := Tryz.underlying50
  a37 := Tryz.isAgg50
  z37 := Tryz.sizeOf50
  v37 := Tryz.zeroValue50
  t46 := Tryz.underlying207
  a46 := Tryz.isAgg207
  z46 := Tryz.sizeOf207
  v46 := Tryz.zeroValue207
  t51 := Tryz.underlying214
  a51 := Tryz.isAgg214
  z51 := Tryz.sizeOf214
  v51 := Tryz.zeroValue214
  t53 := Tryz.underlying133
  a53 := Tryz.isAgg133
  z53 := Tryz.sizeOf133
  v53 := Tryz.zeroValue133
  t171 := Tryz.underlying202
  a171 := Tryz.isAgg202
  z171 := Tryz.sizeOf202
  v171 := Tryz.zeroValue202
  t173 := Tryz.underlying205
  a173 := Tryz.isAgg205
  z173 := Tryz.sizeOf205
  v173 := Tryz.zeroValue205
  t212 := Tryz.underlying213
  a212 := Tryz.isAgg213
  z212 := Tryz.sizeOf213
  v212 := Tryz.zeroValue213
  t213 := Tryz.underlying215
  a213 := Tryz.isAgg215
  z213 := Tryz.sizeOf215
  t232 := Tryz.underlying231
  a232 := Tryz.isAgg231
  z232 := Tryz.sizeOf231
  v232 := Tryz.zeroValue231
  t233 := Tryz.underlying232
  a233 := Tryz.isAgg232
  z233 := Tryz.sizeOf232
  v233 := Tryz.zeroValue232
  g17 := by kernel_rfl
  g18 := by kernel_rfl
  g19 := by kernel_rfl
  i0 := by kernel_rfl
  i2 := by kernel_rfl
  i3 := by kernel_rfl
  i4 := by kernel_rfl
  i5 := by kernel_rfl
  i9 := by kernel_rfl
  i20 := by kernel_rfl
  i37 := by kernel_rfl
  i46 := by kernel_rfl
  i51 := by kernel_rfl
  i53 := by kernel_rfl
  i171 := by kernel_rfl
  i173 := by kernel_rfl
  i212 := by kernel_rfl
  i232 := by kernel_rfl
  i233 := by kernel_rfl
  m17 := by kernel_rfl
  m18 := by kernel_rfl
  m19 := by kernel_rfl }
open Go.RowKit Go.Sort Go.Lib in
theorem Tryz.strconv_Itoa (n : Int) (h0 : -9223372036854775808 ≤ n) (h1 : n ≤ 9223372036854775807) (w : World) (htab : Lib.TabIs Tryz.prog w "internal/strconv.uint64pow10" .u64 Lib.pow10Tab) :
    Calls Tryz.prog 54 #[.int .i64 n] w fun e w' => e = .returned (.string ⟨(Lib.itoa n).toArray⟩) ∧ ∃ k os, w' = grow (w.drewN k) os := Any.strconv_Itoa Tryz.laysM171 n h0 h1 w htab
end Go.Proofs
namespace Go.Proofs.YtcnjlbjpeklgkaaGreatDoor
open Go.RowKit
set_option linter.unusedVariables false
set_option linter.unusedSimpArgs false

def hxT (N : Int) (cnt : Nat) : List Int := (List.range cnt).map fun j => hx1 (N / 16 ^ (cnt - 1 - j) % 16)
def hxC (N : Int) (cnt m : Nat) : List Value := (List.range cnt).map fun j => .int .u8 (if j + m < cnt then 0 else hx1 (N / 16 ^ (cnt - 1 - j) % 16))
theorem hxC_all (N : Int) (cnt : Nat) : hxC N cnt cnt = bvs (hxT N cnt) := by
  unfold hxC hxT bvs
  rw [List.map_map]
  refine List.map_congr_left fun j hj => ?_
  rw [if_neg (by omega)]; rfl
theorem hxC_zero (N : Int) (cnt : Nat) : hxC N cnt 0 = List.replicate cnt (.int .u8 0) := by
  unfold hxC
  apply List.ext_getElem (by simp)
  intro i h1 h2
  simp at h1
  simp [h1]
theorem hxC_len (N : Int) (cnt m : Nat) : (hxC N cnt m).length = cnt := by unfold hxC; simp
theorem hxC_at (N : Int) {cnt m i : Nat} (h : i < cnt) : (hxC N cnt m)[i]? = some (.int .u8 (if i + m < cnt then 0 else hx1 (N / 16 ^ (cnt - 1 - i) % 16))) := by
  unfold hxC
  rw [List.getElem?_map, List.getElem?_range h]; rfl
theorem hxC_set (N : Int) {cnt m : Nat} (h : m < cnt) : (hxC N cnt m).set (cnt - 1 - m) (.int .u8 (hx1 (N / 16 ^ m % 16))) = hxC N cnt (m + 1) := by
  apply List.ext_getElem?
  intro i
  rw [List.getElem?_set]
  by_cases hi : i < cnt
  · rw [hxC_at N hi, hxC_at N hi]
    by_cases e : cnt - 1 - m = i
    · subst e
      rw [if_pos rfl, if_pos (by rw [hxC_len]; exact hi), if_neg (by omega)]
      have : cnt - 1 - (cnt - 1 - m) = m := by omega
      rw [this]
    · rw [if_neg e]
      by_cases q : i + m < cnt
      · rw [if_pos q, if_pos (by omega)]
      · rw [if_neg q, if_neg (by omega)]
  · rw [if_neg (by omega), List.getElem?_eq_none (by rw [hxC_len]; omega), List.getElem?_eq_none (by rw [hxC_len]; omega)]
theorem hx1_byte {d : Int} (h0 : 0 ≤ d) (h1 : d < 16) : 48 ≤ hx1 d ∧ hx1 d ≤ 102 := by unfold hx1; split <;> omega
theorem hxT_byt (N : Int) (cnt : Nat) : Byt (hxT N cnt) := by
  intro c hc
  unfold hxT at hc
  obtain ⟨j, _, rfl⟩ := List.mem_map.1 hc
  have := hx1_byte (d := N / 16 ^ (cnt - 1 - j) % 16) (by omega) (by omega)
  omega
theorem hx_lit : ∀ d : Fin 16, (bt hxS)[d.val]? = some (hx1 (d.val : Int)) := by decide +kernel
theorem hx_get (q : Nat) (h : q % 16 < hxS.size) : ((hxS[q % 16]'h).toNat : Int) = hx1 ((q : Int) % 16) := by
  have h1 := hx_lit ⟨q % 16, by omega⟩
  simp only at h1
  rw [bt_get h] at h1
  have h2 := Option.some.inj h1
  rw [h2]
  congr 1
theorem wrapU {x : Int} (h0 : 0 ≤ x) (h1 : x < 18446744073709551616) : IntKind.u64.wrap x = x := by
  simp [IntKind.wrap, IntKind.signed, IntKind.bits]; omega
theorem bt_nums {t : List Int} (h : Byt t) : bt (strOfNums t) = t := by
  unfold bt strOfNums
  simp only [List.map_map]
  conv => rhs; rw [← List.map_id t]
  apply List.map_congr_left
  intro c hc
  have := h c hc
  simp only [id, Function.comp]
  rw [UInt8.toNat_ofNat']
  omega
theorem mk_u8 {n : Nat} (h : n ≤ 16) (w : World) : (Instr.makeSlice 50 (.int .i64 (n : Int)) (.int .i64 (n : Int))).run Tryz.prog w = .ok (.slice (some ⟨w.heap.size, 0, none⟩) n n) (w.alloc (.cells (List.replicate n (.int .u8 0)).toArray 5)) := by
  obtain ⟨i0, hi, hz0, hz1, hz2⟩ := info_p info_u8
  have := run_make (P := Tryz.prog) w 50 5 i0 _ Tryz.underlying50 hi hz0 .i64 .i64 (n : Int) (n : Int) (by omega) (Int.le_refl _) (by rw [hz2]; omega) (by omega)
  rw [this, hz1]
  have e : madeCells (Value.int .u8 0).cells ((n : Int).toNat * 1) = (List.replicate n (.int .u8 0)).toArray := by
    apply Array.ext'
    have : (Value.int .u8 0).cells = #[.int .u8 0] := rfl
    rw [this, toList_madeCells_one]
    simp
  rw [e]
  simp
set_option maxRecDepth 100000 in
set_option maxHeartbeats 2000000 in
theorem hex_text (N : Nat) (cnt : Nat) (h0 : 0 < cnt) (hc : cnt ≤ 16) (hN : N < 18446744073709551616) (w : World) :
    Calls Tryz.prog 119 #[.int .u64 (N : Int), .int .i64 (cnt : Int)] w fun e w' => ∃ s : ByteArray, bt s = hxT N cnt ∧ e = .returned (.string s) ∧ Out 0 0 w w' := by
  have hmk := fun W => mk_u8 hc W
  obtain ⟨g, hg⟩ : ∃ g, w.heap.size = g := ⟨_, rfl⟩
  have HG := hid_mk hg
  have hk0 := Bl.new w (List.replicate cnt (Value.int .u8 0)).toArray 5
  rw [hg, ← hxC_zero (N : Int)] at hk0
  have HK0 := hid_mk hk0
  clear hk0
  go_enter Tryz.func119, Tryz.ntmps119
  go_wp2_with fail
  (try rw [hg])
  clear hg hmk
  go_loopw [0, 6] (fun a v wr => ∃ k : Nat, a = .int .u64 ((N / 16 ^ (cnt - k) : Nat) : Int) ∧ v = .int .i64 ((k : Int) - 1) ∧ k ≤ cnt ∧ Bl wr g (hxC N cnt (cnt - k)).toArray 5 ∧ Out 0 0 w wr) (fun _ v _ => (intOf v + 1).toNat)
  case atStart => exact ⟨cnt, by simp, rfl, Nat.le_refl _, by have := HK0.out; rw [hxC_zero, List.toArray_replicate] at this; rw [Nat.sub_self, hxC_zero, List.toArray_replicate]; exact this, (Out.refl 0 0 w).alloc _⟩
  case round =>
    obtain ⟨k, rfl, rfl, hk, hB, hO⟩ := hrel
    have HO := hid_mk hO
    by_cases hlt : 0 < k
    · obtain ⟨j, rfl⟩ : ∃ j, k = j + 1 := ⟨k - 1, by omega⟩
      have hjc : j < cnt := by omega
      have hji : (j : Int) < (cnt : Int) := by omega
      have hge : (0 : Int) ≤ (j : Int) := by omega
      have hgd : decide ((0 : Int) ≤ (j : Int)) = true := decide_eq_true hge
      obtain ⟨x, hx⟩ : ∃ x, (hxC (N : Int) cnt (cnt - (j + 1))).toArray[j]? = some x := ⟨_, by rw [List.getElem?_toArray]; exact hxC_at N hjc⟩
      have b0 := hB.cell (i := j) hx
      have f0 := hB.frozen j
      have HB := hid_mk hB
      have hs1 : ((j + 1 : Nat) : Int) - 1 = (j : Int) := by omega
      rw [hs1]
      clear hB hO hx hs1 hk hlt
      generalize hq : N / 16 ^ (cnt - (j + 1)) = q
      have HQ := hid_mk hq
      have hq1 : (q : Int) < 18446744073709551616 := by
        have : N / 16 ^ (cnt - (j + 1)) ≤ N := Nat.div_le_self _ _
        omega
      clear hq
      have HW := hid_mk (wrapU (x := (q : Int) / 16) (by omega) (by omega))
      clear hq1
      go_wp2
      refine ⟨⟨j, ?_, rfl, by omega, ?_, HO.out.setCell (.inr (by have := HG.out; show w.heap.size ≤ g; omega)) _⟩, ?_⟩
      · rw [HW.out, ← HQ.out]
        have e : cnt - j = (cnt - (j + 1)) + 1 := by omega
        rw [e, Nat.pow_succ, ← Nat.div_div_eq_div_mul]
        rfl
      · have e : cnt - j = (cnt - (j + 1)) + 1 := by omega
        have e2 := hxC_set (N : Int) (cnt := cnt) (m := cnt - (j + 1)) (by omega)
        have e3 : cnt - 1 - (cnt - (j + 1)) = j := by omega
        rw [e3] at e2
        rw [e, ← e2, ← List.setIfInBounds_toArray]
        have e4 := hx_get q (by show q % 16 < 16; omega)
        have e5 : (N : Int) / 16 ^ (cnt - (j + 1)) = (q : Int) := by rw [← HQ.out]; simp
        rw [e5, ← e4]
        exact HB.out.set j _
      · show ((j : Int) - 1 + 1).toNat < ((j : Int) + 1).toNat
        omega
    · obtain rfl : k = 0 := by omega
      have hge : ¬ ((0 : Int) ≤ ((0 : Nat) : Int) - 1) := by omega
      have hgd : decide ((0 : Int) ≤ ((0 : Nat) : Int) - 1) = false := decide_eq_false hge
      have hby : BytesAt wr (some ⟨g, 0, none⟩) (hxT (N : Int) cnt) := ⟨hxT_byt _ _, .inr ⟨g, 0, rfl, fun j b hj => by
        rw [Nat.zero_add]
        refine hB.cell ?_
        rw [Nat.sub_zero, hxC_all, List.getElem?_toArray]
        unfold bvs
        rw [List.getElem?_map, hj]; rfl⟩⟩
      have hcv := fun c => conv_bytes (c := c) (n := cnt) hby (by unfold hxT; simp)
      have HH := hid_mk (hxT_byt (N : Int) cnt)
      clear hB hO hby hlt hk
      go_wp2
      go_ret
      exact ⟨strOfNums (hxT (N : Int) cnt), bt_nums HH.out, rfl, HO.out⟩
theorem bt_enc {b : Nat} (h : b < 128) : bt (Utf8.encode (b : Int)) = [(b : Int)] := by
  have hv : Utf8.valid (b : Int) = true := by
    unfold Utf8.valid
    simp
    omega
  have hc : (b : Int).toNat < 128 := by omega
  unfold Utf8.encode
  simp only [hv, if_true, hc]
  unfold bt
  simp
  omega
/-- a byte told between signs q -/
def spG (q b : Int) : List Int := if b = q ∨ b = 92 then [92, b] else if 32 ≤ b ∧ b ≤ 126 then [b] else if b = 10 then [92, 110] else if b = 9 then [92, 116] else [92, 120] ++ hxT b 2
set_option maxRecDepth 100000 in
set_option maxHeartbeats 2000000 in
theorem byte_text (b q : Nat) (hb : b < 256) (hq : q = 34 ∨ q = 39) (w : World) :
    Calls Tryz.prog 86 #[.int .u8 (b : Int), .int .u8 (q : Int)] w fun e w' => ∃ s : ByteArray, bt s = spG (q : Int) (b : Int) ∧ e = .returned (.string s) ∧ Out 0 0 w w' := by
  have HQ := hid_mk hq
  have HE := hid_mk (fun h => bt_enc (b := b) h)
  have HX := hid_mk (fun w => hex_text b 2 (by decide) (by decide) (by omega) w)
  have hb0 : (0 : Int) ≤ (b : Int) := by omega
  have hb1 : (b : Int) < 256 := by omega
  have hcv : ∀ W, (Go.convert 21 9 (.int .i32 (b : Int))).run Tryz.prog W = .ok (.string (Utf8.encode (b : Int))) W := fun W => run_convert_int_string (P := Tryz.prog) W 21 9 .i32 (b : Int) (by kernel_rfl) Tryz.underlying9
  generalize Utf8.encode (b : Int) = s0 at hcv HE
  have hl : ∀ h, ((⟨#[92]⟩ : ByteArray)[0]'h) = 92 := fun _ => rfl
  clear hq hb
  by_cases h1 : b = q
  · have hd : ((b : Int) == (q : Int)) = true := by subst h1; simp
    have H1 := hid_mk h1
    clear h1
    go_enter Tryz.func86, Tryz.ntmps86
    have hs0 : s0.size = 1 := by have := congrArg List.length (HE.out (by have := H1.out; have := HQ.out; omega)); rw [bt_len] at this; exact this
    go_wp2
    go_ret
    refine ⟨_, ?_, rfl, Out.refl _ _ _⟩
    have := HQ.out
    have := H1.out
    rw [bt_app, HE.out (by omega)]
    unfold spG
    rw [if_pos (.inl (by omega))]
    rfl
  have hd : ((b : Int) == (q : Int)) = false := by simp; omega
  have H1 := hid_mk h1
  clear h1
  by_cases h2 : b = 92
  · have hd2 : ((b : Int) == 92) = true := by simp; omega
    have H2 := hid_mk h2
    have hs0 : s0.size = 1 := by have := congrArg List.length (HE.out (by have := H2.out; omega)); rw [bt_len] at this; exact this
    clear h2
    go_enter Tryz.func86, Tryz.ntmps86
    go_wp2
    go_ret
    refine ⟨_, ?_, rfl, Out.refl _ _ _⟩
    have := H2.out
    rw [bt_app, HE.out (by omega)]
    unfold spG
    rw [if_pos (.inr (by omega))]
    rfl
  have hd2 : ((b : Int) == 92) = false := by simp; omega
  have H2 := hid_mk h2
  clear h2
  have hno : ¬ ((b : Int) = (q : Int) ∨ (b : Int) = 92) := by have := H1.out; have := H2.out; omega
  have HNo := hid_mk hno
  clear hno
  by_cases h3 : 32 ≤ b ∧ b ≤ 126
  · have hd3 : decide ((32 : Int) ≤ (b : Int)) = true := decide_eq_true (by omega)
    have hd4 : decide ((b : Int) ≤ 126) = true := decide_eq_true (by omega)
    have h3a : (32 : Int) ≤ (b : Int) := by omega
    have h3b : (b : Int) ≤ 126 := by omega
    have H3 := hid_mk h3
    clear h3
    go_enter Tryz.func86, Tryz.ntmps86
    go_wp2
    go_ret
    refine ⟨_, ?_, rfl, Out.refl _ _ _⟩
    have := H3.out
    rw [HE.out (by omega)]
    unfold spG
    rw [if_neg HNo.out, if_pos (by omega)]
  have HN3 := hid_mk h3
  have hd3 : (decide ((32 : Int) ≤ (b : Int)) = false ∨ (decide ((32 : Int) ≤ (b : Int)) = true ∧ decide ((b : Int) ≤ 126) = false)) := by
    rcases Nat.lt_or_ge b 32 with h | h
    · exact .inl (decide_eq_false (by omega))
    · exact .inr ⟨decide_eq_true (by omega), decide_eq_false (by omega)⟩
  clear h3
  by_cases h4 : b = 10
  · have hd4 : ((b : Int) == 10) = true := by simp; omega
    have h32 : ¬ ((32 : Int) ≤ (b : Int)) := by omega
    have h32d : decide ((32 : Int) ≤ (b : Int)) = false := decide_eq_false h32
    have H4 := hid_mk h4
    clear h4 hd3
    go_enter Tryz.func86, Tryz.ntmps86
    go_wp2
    go_ret
    refine ⟨_, ?_, rfl, Out.refl _ _ _⟩
    have := H4.out
    unfold spG
    rw [if_neg HNo.out, if_neg (by omega), if_pos (by omega)]
    rfl
  have hd4 : ((b : Int) == 10) = false := by simp; omega
  have H4 := hid_mk h4
  clear h4
  by_cases h5 : b = 9
  · have hd5 : ((b : Int) == 9) = true := by simp; omega
    have h32 : ¬ ((32 : Int) ≤ (b : Int)) := by omega
    have h32d : decide ((32 : Int) ≤ (b : Int)) = false := decide_eq_false h32
    have H5 := hid_mk h5
    clear h5 hd3
    go_enter Tryz.func86, Tryz.ntmps86
    go_wp2
    go_ret
    refine ⟨_, ?_, rfl, Out.refl _ _ _⟩
    have := H5.out
    unfold spG
    rw [if_neg HNo.out, if_neg (by omega), if_neg (by omega), if_pos (by omega)]
    rfl
  have hd5 : ((b : Int) == 9) = false := by simp; omega
  have H5 := hid_mk h5
  clear h5
  have HF : Hid (spG (q : Int) (b : Int) = [92, 120] ++ hxT (b : Int) 2) := hid_mk (by
    have := H4.out
    have := H5.out
    have := HN3.out
    unfold spG
    rw [if_neg HNo.out, if_neg (by omega), if_neg (by omega), if_neg (by omega)])
  rcases hd3 with hd3 | ⟨hd3, hd6⟩
  · have h32 := of_decide_eq_false hd3
    go_enter Tryz.func86, Tryz.ntmps86
    go_wp2_with (go_at_call 119; refine (HX.out _).mono ?_; rintro e w2 ⟨s, hs, rfl, o⟩; have hsz : s.size = 2 := by { have := congrArg List.length hs; rw [bt_len] at this; exact this }; have HS := hid_mk hs; clear hs)
    go_ret
    refine ⟨_, ?_, rfl, o⟩
    rw [bt_app, HS.out, HF.out]
    rfl
  · have h32 := of_decide_eq_true hd3
    have h126 := of_decide_eq_false hd6
    go_enter Tryz.func86, Tryz.ntmps86
    go_wp2_with (go_at_call 119; refine (HX.out _).mono ?_; rintro e w2 ⟨s, hs, rfl, o⟩; have hsz : s.size = 2 := by { have := congrArg List.length hs; rw [bt_len] at this; exact this }; have HS := hid_mk hs; clear hs)
    go_ret
    refine ⟨_, ?_, rfl, o⟩
    rw [bt_app, HS.out, HF.out]
    rfl
end Go.Proofs.YtcnjlbjpeklgkaaGreatDoor
namespace Go.Proofs.YtcnjlbjpeklgkaaGreatDoor
open Go.RowKit
set_option linter.unusedVariables false
set_option linter.unusedSimpArgs false

theorem spG_len (q b : Int) : (spG q b).length ≤ 4 := by
  unfold spG
  repeat' split
  all_goals simp [hxT]
theorem spG_sum (q : Int) : ∀ (t : List Int), (t.flatMap (spG q)).length ≤ 4 * t.length
  | [] => by simp
  | b :: t => by
    have := spG_sum q t
    have := spG_len q b
    rw [List.flatMap_cons, List.length_append, List.length_cons]
    omega
theorem sp_take {q : Int} {t : List Int} {k : Nat} {x : Int} (h : t[k]? = some x) : (t.take (k + 1)).flatMap (spG q) = (t.take k).flatMap (spG q) ++ spG q x := by
  rw [List.take_add_one, h]; simp
theorem sp_le (q : Int) (t : List Int) (k : Nat) : ((t.take k).flatMap (spG q)).length ≤ 4 * t.length := by
  have h1 := spG_sum q (t.take k)
  have h2 : (t.take k).length ≤ t.length := by rw [List.length_take]; omega
  omega
set_option maxRecDepth 100000 in
set_option maxHeartbeats 2000000 in
theorem quoted_any (sg : ByteArray) (q : Nat) (hq : q = 34 ∨ q = 39) (hsg : bt sg = [(q : Int)]) (t : List Int) (a : Option Addr) (n c : Nat) (hn : t.length = n) (hlim : n ≤ 900000) (w : World) (h : BytesAt w a t) :
    Calls Tryz.prog 55 #[.slice a n c, .string sg] w fun e w' => ∃ s : ByteArray, bt s = (q : Int) :: t.flatMap (spG q) ++ [(q : Int)] ∧ e = .returned (.string s) ∧ Out 0 0 w w' := by
  have hs1 : sg.size = 1 := by have := congrArg List.length hsg; rw [bt_len] at this; exact this
  have hl : ∀ h, (sg[0]'h).toNat = q := fun h => by
    have := bt_get h
    rw [hsg] at this
    have := Option.some.inj this
    omega
  obtain ⟨g, hg⟩ : ∃ g, w.heap.size = g := ⟨_, rfl⟩
  have HG := hid_mk hg
  have hb0 : BuT 68 (w.alloc (.cells #[.pointer none, .slice none 0 0] 68)) (g + 1) g [] := by
    subst hg
    exact ⟨none, _, .inl rfl, Bl.new w _ _, b8_nil _ _⟩
  have HB0 := hid_mk hb0
  have HSG := hid_mk hsg
  have HQ := hid_mk hq
  have HN := hid_mk hn
  have HA := hid_mk h
  have hz1 : (w.alloc (.cells #[.pointer none, .slice none 0 0] 68)).heap.size = g + 1 := by rw [size_alloc, hg]
  have HZ := hid_mk hz1
  clear hb0 hsg hq hn h hz1
  go_enter Tryz.func55, Tryz.ntmps55
  go_wp2_with (go_at_call 84; refine (write_str (.inl rfl) HB0.out (by rw [HZ.out]; exact Nat.le_refl _) sg (by rw [hs1]; decide)).mono ?_; rintro e w1 ⟨rfl, hb1, hp1⟩; have HB1 := hid_mk hb1; have HO1 := hid_mk (hp1.low ((Out.refl 0 0 w).alloc _) (by omega) (by omega)); clear hb1 hp1)
  go_loopw [12] (fun v wr => ∃ i : Nat, v = .int .i64 (i : Int) ∧ i ≤ n ∧ BuT 68 wr (g + 1) g ((q : Int) :: (t.take i).flatMap (spG q)) ∧ Out 0 0 w wr) (fun v _ => n - (intOf v).toNat)
  case atStart => exact ⟨0, rfl, Nat.zero_le _, by have := HB1.out; rw [HSG.out] at this; exact this, HO1.out⟩
  case round =>
    obtain ⟨i, rfl, hi, hB, hO⟩ := hrel
    have HB := hid_mk hB
    have HO := hid_mk hO
    by_cases hlt : i < n
    · have hd : decide ((i : Int) < (n : Int)) = true := decide_eq_true (by omega)
      have hkm : (i : Int) < (n : Int) := by omega
      have hk0 : (0 : Int) ≤ (i : Int) := by omega
      obtain ⟨x, hx⟩ : ∃ x, t[i]? = some x := ⟨_, List.getElem?_eq_getElem (by have := HN.out; omega)⟩
      obtain ⟨q2, off, rfl, hcs⟩ : ∃ g off, a = some ⟨g, off, none⟩ ∧ ∀ (j : Nat) b, t[j]? = some b → wr.cell? ⟨g, off + j, none⟩ = some (.int .u8 b) := by
        rcases (by_out HA.out HO.out).2 with h | h
        · rw [h] at hx; simp at hx
        · exact h
      have hx0 := HA.out.1 x (List.mem_of_getElem? hx)
      obtain ⟨b, rfl⟩ := Int.eq_ofNat_of_zero_le hx0.1
      have c0 := hcs i _ hx
      have HX := hid_mk hx
      have HLt := hid_mk hlt
      have HT := hid_mk (fun w => byte_text b q (by omega) HQ.out w)
      have hll := sp_le (q : Int) t i
      have hlb := spG_len (q : Int) (b : Int)
      have HL := hid_mk (And.intro hll hlb)
      clear hlt hi hB hO hcs hx hx0 hll hlb
      go_wp2_with (first | (go_at_call 86; refine (HT.out _).mono ?_; rintro e w2 ⟨s, hs, rfl, o2⟩; have HS := hid_mk hs; have HO2 := hid_mk o2; clear hs o2) | (go_at_call 84; refine (write_str (.inl rfl) (HB.out.out HO2.out) (by have := (HB.out.out HO2.out).lt; omega) s (by have h1 := HL.out.1; have h2 := HL.out.2; have h3 := HN.out; have h4 := congrArg List.length HS.out; rw [bt_len] at h4; rw [List.length_cons]; omega)).mono ?_; rintro e w3 ⟨rfl, hb3, hp3⟩; have HB3 := hid_mk hb3; have HO3 := hid_mk (hp3.low (HO.out.trans HO2.out) (by have := HG.out; omega) (by have := HG.out; omega)); clear hb3 hp3))
      go_roundw
      case rel => exact ⟨i + 1, rfl, HLt.out, by rw [sp_take HX.out, ← HS.out]; exact HB3.out, HO3.out⟩
      case measure => have := HLt.out; show n - (((i : Int) + 1).toNat) < n - ((i : Int).toNat); omega
    · have hd : decide ((i : Int) < (n : Int)) = false := decide_eq_false (by omega)
      have hkm : ¬ ((i : Int) < (n : Int)) := by omega
      obtain rfl : i = n := by omega
      have hll := sp_le (q : Int) t i
      have HL := hid_mk hll
      clear hlt hi hB hO hll
      go_wp2_with (first | (go_at_call 84; refine (write_str (.inl rfl) HB.out (by have := HB.out.lt; omega) sg (by have h1 := HL.out; have h3 := HN.out; rw [List.length_cons, hs1]; omega)).mono ?_; rintro e w3 ⟨rfl, hb3, hp3⟩; have HB3 := hid_mk hb3; have HO3 := hid_mk (hp3.low HO.out (by have := HG.out; omega) (by have := HG.out; omega)); clear hb3 hp3) | (go_at_call 30; refine (string_some HB3.out (by simp)).mono ?_; rintro e w4 ⟨s, hs, rfl, o4⟩; have HS := hid_mk hs; have HO4 := hid_mk (o4 w HO3.out (by have := HG.out; omega)); clear hs o4))
      go_ret
      refine ⟨s, ?_, rfl, HO4.out⟩
      have e : t.take i = t := List.take_of_length_le (by have := HN.out; omega)
      rw [HS.out, e, HSG.out, List.cons_append]
theorem hxT_two {b : Int} (h0 : 0 ≤ b) (h1 : b < 256) : hxT b 2 = [hx1 (b / 16), hx1 (b % 16)] := by
  unfold hxT
  show [hx1 (b / 16 ^ 1 % 16), hx1 (b / 16 ^ 0 % 16)] = _
  have e1 : b / 16 ^ 1 % 16 = b / 16 := by omega
  have e2 : b / 16 ^ 0 % 16 = b % 16 := by omega
  rw [e1, e2]
theorem spG_text {b : Int} (h0 : 0 ≤ b) (h1 : b < 256) : spG 34 b = spB b := by
  unfold spG spB
  rw [hxT_two h0 h1]
  repeat' split
  all_goals first | rfl | (exfalso; omega)
theorem spG_flat : ∀ {t : List Int}, Byt t → t.flatMap (spG 34) = spF t
  | [], _ => rfl
  | b :: t, h => by
    have hb := h b (by simp)
    unfold spF
    rw [List.flatMap_cons, List.flatMap_cons, spG_text (by omega) (by omega), spG_flat fun c hc => h c (by simp [hc])]
    rfl
theorem dcF_dec : ∀ (k n : Nat), n < k → bl (Lib.decDigits n) = dcF n
  | 0, n, h => absurd h (Nat.not_lt_zero _)
  | k + 1, n, h => by
    rw [Lib.decDigits, dcF]
    by_cases hn : n < 10
    · rw [dif_pos hn, if_pos hn]
      unfold bl
      simp
      omega
    · rw [dif_neg hn, if_neg hn]
      have := dcF_dec k (n / 10) (by omega)
      unfold bl at this ⊢
      rw [List.map_append, this]
      simp
      omega
/-- the library's table of powers -/
def Tpw (w : World) : Prop := Lib.TabIs Tryz.prog w "internal/strconv.uint64pow10" .u64 Lib.pow10Tab
theorem gPow : Tryz.prog.globalNamed "internal/strconv.uint64pow10" = some 4 := by kernel_rfl
theorem Tpw.out {w w' : World} (h : Tpw w) (g : Out 0 0 w w') : Tpw w' := by
  unfold Tpw Lib.TabIs World.var? at *
  rw [gPow] at *
  simp only [Option.bind_some] at *
  have hl : 4 < w.heap.size := by
    by_cases hb : 4 < w.heap.size
    · exact hb
    · have : w.heap[4]? = none := by simp; omega
      rw [this] at h; cases h
  rw [g.block hl (by omega)]
  exact h
theorem Tpw.pf {w w' : World} {lo b : Nat} (h : Tpw w) (g : PF lo b w w') (h1 : 9 ≤ lo) (h2 : 9 ≤ b) : Tpw w' := by
  unfold Tpw Lib.TabIs World.var? at *
  rw [gPow] at *
  simp only [Option.bind_some] at *
  have hl : 4 < w.heap.size := by
    by_cases hb : 4 < w.heap.size
    · exact hb
    · have : w.heap[4]? = none := by simp; omega
      rw [this] at h; cases h
  rw [g.2.2.2.2 _ hl (by rintro (q | ⟨q, _⟩) <;> omega)]
  exact h
/-- a number in decimals -/
theorem itoa_dc (n : Int) (h0 : -9223372036854775808 ≤ n) (h1 : n ≤ 9223372036854775807) {w : World} (ht : Tpw w) :
    Calls Tryz.prog 54 #[.int .i64 n] w fun e w' => ∃ s : ByteArray, bt s = (if n < 0 then 45 :: dcF (-n).toNat else dcF n.toNat) ∧ e = .returned (.string s) ∧ Out 0 0 w w' :=
  (Tryz.strconv_Itoa n h0 h1 w ht).mono fun _ _ ⟨he, k, os, hw⟩ => ⟨_, by
    rw [bt_mk]
    unfold Lib.itoa
    split
    · show 45 :: bl (Lib.decDigits n.natAbs) = _
      rw [dcF_dec _ _ (Nat.lt_succ_self _)]
      congr 2
      omega
    · exact dcF_dec _ _ (Nat.lt_succ_self _), he, by rw [hw]; exact Out.of_below (Lib.below_grow _ w (Nat.le_refl _) k os) 0 0⟩
end Go.Proofs.YtcnjlbjpeklgkaaGreatDoor
namespace Go.Proofs.YtcnjlbjpeklgkaaGreatDoor
set_option linter.unusedVariables false
set_option linter.unusedSimpArgs false

theorem run_app (pl : Int → Bool) (a : List (List Int)) : ∀ (m : MkF) (i : Nat) (b : List (List Int)), m.run pl i (a ++ b) = (m.run pl i a).run pl (i + a.length) b := by
  induction a with
  | nil => intro m i b; rfl
  | cons s a ih =>
    intro m i b
    simp only [List.cons_append, MkF.run, ih, List.length_cons]
    congr 1
    omega
/-- the code as it is while the labels are not looked for yet; the labels met ahead of place k; their uses there -/
def pend (n : Nat) (l : List InF) : List InF := l.map (fun x => if lbB n x then (x.1, 0) else x)
def labs (c : List InF) (k : Nat) : List (List Int × Int) := ((List.range k).filter (goesB c)).map (fun j => (76 :: dcF j, (j : Int)))
def useK (c : List InF) (k : Nat) : List (Nat × List Int) := ((List.range k).filter (fun i => lbB c.length (c.getD i (0, 0)))).map (fun i => (i, 76 :: dcF (c.getD i (0, 0)).2.toNat))
def unl (us : List (Nat × Nat × List Int)) : List (Nat × List Int) := us.map (fun u => (u.1, u.2.2))
theorem labs_no (c : List InF) (k : Nat) (hk : k ≤ 4096) : (labs c k).find? (fun p => p.1 == 76 :: dcF k) = none := by
  rw [List.find?_eq_none]
  intro p hp
  obtain ⟨j, hj, rfl⟩ := List.mem_map.mp hp
  have := List.mem_range.mp (List.mem_filter.mp hj).1
  simp only [beq_iff_eq, List.cons.injEq, true_and]
  intro e
  have := dcF_inj (m := j) (n := k) (by omega) (by omega) e
  omega
theorem labs_succ (c : List InF) (k : Nat) : labs c (k + 1) = labs c k ++ (if goesB c k then [(76 :: dcF k, (k : Int))] else []) := by
  unfold labs
  rw [List.range_succ, List.filter_append, List.map_append]
  by_cases h : goesB c k = true
  · rw [if_pos h]; simp [h]
  · rw [if_neg h]; simp [h]
theorem useK_succ (c : List InF) (k : Nat) (x : InF) (hx : c[k]? = some x) : useK c (k + 1) = useK c k ++ (if lbB c.length x then [(k, 76 :: dcF x.2.toNat)] else []) := by
  have e : c.getD k (0, 0) = x := by rw [List.getD_eq_getElem?_getD, hx]; rfl
  unfold useK
  rw [List.range_succ, List.filter_append, List.map_append]
  by_cases h : lbB c.length x = true
  · rw [if_pos h]; simp [List.filter_cons, hx, h]
  · rw [if_neg h]; simp [List.filter_cons, hx, h]
theorem run_code (c : List InF) (hc : ∀ x ∈ c, okI x) (hl : c.length ≤ 4096) (g : Int) (tx : List (List Int)) (fs : List FnF) (a b d : Int) (bg : Bool) (bd : Nat) :
    ∀ (r pre : List InF) (line : Nat) (us : List (Nat × Nat × List Int)), c = pre ++ r → unl us = useK c pre.length →
      ∃ us', unl us' = useK c c.length ∧ MkF.run plO ⟨g, tx, fs ++ [(a, b, d, pend c.length pre)], bg, true, labs c pre.length, us, bd⟩ line (codL plO c pre.length r)
        = ⟨g, tx, fs ++ [(a, b, d, pend c.length c)], bg, true, labs c c.length, us', bd⟩ := by
  intro r
  induction r with
  | nil =>
    intro pre line us he hu
    rw [List.append_nil] at he
    subst he
    exact ⟨us, hu, rfl⟩
  | cons x r ih =>
    intro pre line us he hu
    have hx : okI x := hc x (by rw [he]; simp)
    have hlen : pre.length + (r.length + 1) = c.length := by rw [he]; simp
    have hxk : c[pre.length]? = some x := by rw [he]; simp
    have hpl : (pend c.length pre).length = pre.length := by unfold pend; simp
    have step : ∀ ln, MkF.line plO ⟨g, tx, fs ++ [(a, b, d, pend c.length pre)], bg, true, labs c (pre.length + 1), us, bd⟩ ln (inL c.length x)
        = ⟨g, tx, fs ++ [(a, b, d, pend c.length (pre ++ [x]))], bg, true, labs c (pre ++ [x]).length, us ++ (if lbB c.length x then [(pre.length, ln, 76 :: dcF x.2.toNat)] else []), bd⟩ := by
      intro ln
      rw [in_step hx, hpl]
      simp [pend]
    have hu' : ∀ ln, unl (us ++ (if lbB c.length x then [(pre.length, ln, 76 :: dcF x.2.toNat)] else [])) = useK c (pre ++ [x]).length := by
      intro ln
      have e : (pre ++ [x]).length = pre.length + 1 := by simp
      rw [e, useK_succ c _ x hxk, ← hu]
      unfold unl
      rw [List.map_append]
      congr 1
      split <;> rfl
    have rest : ∀ ln i, ∃ us', unl us' = useK c c.length ∧ MkF.run plO ⟨g, tx, fs ++ [(a, b, d, pend c.length (pre ++ [x]))], bg, true, labs c (pre ++ [x]).length, us ++ (if lbB c.length x then [(pre.length, ln, 76 :: dcF x.2.toNat)] else []), bd⟩ i (codL plO c (pre.length + 1) r)
        = ⟨g, tx, fs ++ [(a, b, d, pend c.length c)], bg, true, labs c c.length, us', bd⟩ := by
      intro ln i
      have := ih (pre ++ [x]) i _ (by rw [he]; simp) (hu' ln)
      simpa using this
    have el : codL plO c pre.length (x :: r) = (if goesB c pre.length then [76 :: dcF pre.length ++ [58]] else []) ++ (inL c.length x :: codL plO c (pre.length + 1) r) := by
      simp only [codL, insL, inL, List.append_assoc]
      rfl
    rw [el]
    by_cases hg : goesB c pre.length = true
    · rw [if_pos hg]
      simp only [List.singleton_append, MkF.run]
      rw [lb_step pre.length line g tx fs a b d _ bg _ us bd hpl.symm (labs_no c _ (by omega))]
      have e := labs_succ c pre.length
      rw [if_pos hg] at e
      rw [← e, step]
      exact rest _ _
    · rw [if_neg hg]
      simp only [List.nil_append, MkF.run]
      have e := labs_succ c pre.length
      rw [if_neg hg, List.append_nil] at e
      rw [← e, step]
      exact rest _ _
end Go.Proofs.YtcnjlbjpeklgkaaGreatDoor
