import Derived.Shelf.Small.Wraps
import Derived.Shelf.Strings.Prefix
import Derived.Shelf.Strings.Cut
import Derived.Shelf.Strings.Count
import Derived.Shelf.Small.Strs
import Derived.Shelf.Strings.Runes
import Derived.Shelf.Utf8.RuneCount
import Derived.Shelf.Small.Utf8
import Derived.Test.YtcnjlbjpeklgkaaGreatDoorProg
import Derived.WalkKit
namespace Go.Proofs
open Go.Shelf
def Tryz.lays119_ren : Go.Shelf.Ren := ⟨fun | 119 => 174 | n => n, fun | 21 => 21 | 4 => 4 | n => n, fun | n => n⟩
theorem Tryz.lays119 : Go.Proofs.Lays.n119 Tryz.prog Tryz.lays119_ren := {
  mixed := by kernel_rfl
  f119 := Tryz.func174.trans (congrArg some (by kernel_rfl))
  t4 := Tryz.underlying4
  a4 := Tryz.isAgg4
  z4 := Tryz.sizeOf4
  v4 := Tryz.zeroValue4
  t21 := Tryz.underlying21
  a21 := Tryz.isAgg21
  z21 := Tryz.sizeOf21
  v21 := Tryz.zeroValue21 }
theorem Tryz.utf8_ValidRune (r : Int) (w : World) :
    Calls Tryz.prog 174 #[.int .i32 r] w fun e w' => e = .returned (.bool (Lib.validRune r)) ∧ w' = w := Any.utf8_ValidRune Tryz.lays119 r w
def Tryz.lays137_ren : Go.Shelf.Ren := ⟨fun | 137 => 60 | 217 => 95 | 266 => 121 | n => n, fun | 9 => 9 | 5 => 5 | 3 => 3 | n => n, fun | n => n⟩
theorem Tryz.lays137 : Go.Proofs.Lays.n137 Tryz.prog Tryz.lays137_ren := {
  mixed := by kernel_rfl
  f137 := Tryz.func60.trans (congrArg some (by kernel_rfl))
  f217 := Tryz.func95.trans (congrArg some (by kernel_rfl))
  f266 := Tryz.func121.trans (congrArg some (by kernel_rfl))
  t3 := Tryz.underlying3
  a3 := Tryz.isAgg3
  z3 := Tryz.sizeOf3
  v3 := Tryz.zeroValue3
  t5 := Tryz.underlying5
  a5 := Tryz.isAgg5
  z5 := Tryz.sizeOf5
  v5 := Tryz.zeroValue5
  t9 := Tryz.underlying9
  a9 := Tryz.isAgg9
  z9 := Tryz.sizeOf9
  v9 := Tryz.zeroValue9 }
open Go.RowKit in
theorem Tryz.strings_IndexByte (s : ByteArray) (c : Int) (w : World) :
    Calls Tryz.prog 60 #[.string s, .int .u8 c] w fun e w' => e = .returned (.int .i64 (Lib.indexByte s.data.toList c.toNat.toUInt8)) ∧ w' = w := Any.strings_IndexByte Tryz.lays137 s c w
def Tryz.lays103_ren : Go.Shelf.Ren := ⟨fun | 103 => 164 | 210 => 171 | 206 => 161 | n => n, fun | 9 => 9 | 4 => 4 | 24 => 155 | 3 => 3 | n => n, fun | n => n⟩
theorem Tryz.lays103 : Go.Proofs.Lays.n103 Tryz.prog Tryz.lays103_ren := {
  mixed := by kernel_rfl
  f103 := Tryz.func164.trans (congrArg some (by kernel_rfl))
  f206 := Tryz.func161.trans (congrArg some (by kernel_rfl))
  f210 := Tryz.func171.trans (congrArg some (by kernel_rfl))
  t3 := Tryz.underlying3
  a3 := Tryz.isAgg3
  z3 := Tryz.sizeOf3
  v3 := Tryz.zeroValue3
  t4 := Tryz.underlying4
  a4 := Tryz.isAgg4
  z4 := Tryz.sizeOf4
  v4 := Tryz.zeroValue4
  t9 := Tryz.underlying9
  a9 := Tryz.isAgg9
  z9 := Tryz.sizeOf9
  v9 := Tryz.zeroValue9
  t24 := Tryz.underlying155
  a24 := Tryz.isAgg155
  z24 := Tryz.sizeOf155
  v24 := Tryz.zeroValue155 }
open Go.RowKit in
theorem Tryz.strings_CutPrefix (s p : ByteArray) (w : World) :
    Calls Tryz.prog 164 #[.string s, .string p] w fun e w' => e = .returned (.tuple #[.string ⟨(Lib.trimPrefix s.data.toList p.data.toList).toArray⟩, .bool (Lib.hasPrefix s.data.toList p.data.toList)]) ∧ w' = w := Any.strings_CutPrefix Tryz.lays103 s p w
def Tryz.lays104_ren : Go.Shelf.Ren := ⟨fun | 104 => 96 | 211 => 122 | 207 => 94 | n => n, fun | 9 => 9 | 4 => 4 | 24 => 155 | 3 => 3 | n => n, fun | n => n⟩
theorem Tryz.lays104 : Go.Proofs.Lays.n104 Tryz.prog Tryz.lays104_ren := {
  mixed := by kernel_rfl
  f104 := Tryz.func96.trans (congrArg some (by kernel_rfl))
  f207 := Tryz.func94.trans (congrArg some (by kernel_rfl))
  f211 := Tryz.func122.trans (congrArg some (by kernel_rfl))
  t3 := Tryz.underlying3
  a3 := Tryz.isAgg3
  z3 := Tryz.sizeOf3
  v3 := Tryz.zeroValue3
  t4 := Tryz.underlying4
  a4 := Tryz.isAgg4
  z4 := Tryz.sizeOf4
  v4 := Tryz.zeroValue4
  t9 := Tryz.underlying9
  a9 := Tryz.isAgg9
  z9 := Tryz.sizeOf9
  v9 := Tryz.zeroValue9
  t24 := Tryz.underlying155
  a24 := Tryz.isAgg155
  z24 := Tryz.sizeOf155
  v24 := Tryz.zeroValue155 }
open Go.RowKit in
theorem Tryz.strings_CutSuffix (s p : ByteArray) (w : World) (hs : s.size ≤ 9223372036854775807) :
    Calls Tryz.prog 96 #[.string s, .string p] w fun e w' => e = .returned (.tuple #[.string ⟨(Lib.trimSuffix s.data.toList p.data.toList).toArray⟩, .bool (Lib.hasSuffix s.data.toList p.data.toList)]) ∧ w' = w := Any.strings_CutSuffix Tryz.lays104 s p w hs
def Tryz.lays195_ren : Go.Shelf.Ren := ⟨fun | 195 => 91 | n => n, fun | 9 => 9 | 3 => 3 | 0 => 0 | 4 => 4 | n => n, fun | n => n⟩
theorem Tryz.lays195 : Go.Proofs.Lays.n195 Tryz.prog Tryz.lays195_ren := {
  mixed := by kernel_rfl
  f195 := Tryz.func91.trans (congrArg some (by kernel_rfl))
  t0 := Tryz.underlying0
  a0 := Tryz.isAgg0
  z0 := Tryz.sizeOf0
  v0 := Tryz.zeroValue0
  t3 := Tryz.underlying3
  a3 := Tryz.isAgg3
  z3 := Tryz.sizeOf3
  v3 := Tryz.zeroValue3
  t4 := Tryz.underlying4
  a4 := Tryz.isAgg4
  z4 := Tryz.sizeOf4
  v4 := Tryz.zeroValue4
  t9 := Tryz.underlying9
  a9 := Tryz.isAgg9
  z9 := Tryz.sizeOf9
  v9 := Tryz.zeroValue9 }
open Go.RowKit in
theorem Tryz.utf8_RuneCountInString (s : ByteArray) (w : World) (hs : s.size < 9223372036854775807) :
    Calls Tryz.prog 91 #[.string s] w fun e w' => e = .returned (.int .i64 (Lib.runeCount s)) ∧ ∃ pos, w' = w.iter s pos := Any.utf8_RuneCountInString Tryz.lays195 s w hs
def Tryz.lays145_ren : Go.Shelf.Ren := ⟨fun | 145 => 148 | 220 => 162 | 219 => 120 | 217 => 95 | 225 => 141 | 224 => 142 | 267 => 143 | 266 => 121 | 314 => 160 | n => n, fun | 9 => 9 | 4 => 4 | 59 => 208 | 3 => 3 | 5 => 5 | 46 => 207 | 146 => 218 | 51 => 214 | n => n, fun | 1 => 3 | n => n⟩
theorem Tryz.lays145 : Go.Proofs.Lays.n145 Tryz.prog Tryz.lays145_ren := {
  mixed := by kernel_rfl
  f145 := Tryz.func148.trans (congrArg some (by kernel_rfl))
  f217 := Tryz.func95.trans (congrArg some (by kernel_rfl))
  f219 := Tryz.func120.trans (congrArg some (by kernel_rfl))
  f220 := Tryz.func162.trans (congrArg some (by kernel_rfl))
  f224 := Tryz.func142.trans (congrArg some (by kernel_rfl))
  f225 := Tryz.func141.trans (congrArg some (by kernel_rfl))
  f266 := Tryz.func121.trans (congrArg some (by kernel_rfl))
  f267 := Tryz.func143.trans (congrArg some (by kernel_rfl))
  f314 := Tryz.func160.trans (congrArg some (by kernel_rfl))
  t3 := Tryz.underlying3
  a3 := Tryz.isAgg3
  z3 := Tryz.sizeOf3
  v3 := Tryz.zeroValue3
  t4 := Tryz.underlying4
  a4 := Tryz.isAgg4
  z4 := Tryz.sizeOf4
  v4 := Tryz.zeroValue4
  t5 := Tryz.underlying5
  a5 := Tryz.isAgg5
  z5 := Tryz.sizeOf5
  v5 := Tryz.zeroValue5
  t9 := Tryz.underlying9
  a9 := Tryz.isAgg9
  z9 := Tryz.sizeOf9
  v9 := Tryz.zeroValue9
  t46 := Tryz.underlying207
  a46 := Tryz.isAgg207
  z46 := Tryz.sizeOf207
  v46 := Tryz.zeroValue207
  t51 := Tryz.underlying214
  a51 := Tryz.isAgg214
  z51 := Tryz.sizeOf214
  v51 := Tryz.zeroValue214
  t59 := Tryz.underlying208
  a59 := Tryz.isAgg208
  z59 := Tryz.sizeOf208
  v59 := Tryz.zeroValue208
  t146 := Tryz.underlying218
  a146 := Tryz.isAgg218
  z146 := Tryz.sizeOf218
  v146 := Tryz.zeroValue218
  g1 := by kernel_rfl }
open Go.RowKit Go.Lib in
theorem Tryz.strings_Cut (s sep : ByteArray) (m : Int) (w : World) (hs : s.size < 4294967281) (hm : w.cell? ⟨3, 0, none⟩ = some (.int .i64 m)) :
    Calls Tryz.prog 148 #[.string s, .string sep] w fun e w' => e = .returned (.tuple #[.string ⟨(Lib.cut s.data.toList sep.data.toList).1.toArray⟩, .string ⟨(Lib.cut s.data.toList sep.data.toList).2.1.toArray⟩, .bool (Lib.cut s.data.toList sep.data.toList).2.2]) ∧ ∃ n, w' = w.drewN n := Any.strings_Cut Tryz.lays145 s sep m w hs hm
def Tryz.lays138_ren : Go.Shelf.Ren := ⟨fun | 138 => 57 | 195 => 91 | 218 => 92 | 143 => 93 | 219 => 120 | 217 => 95 | 225 => 141 | 224 => 142 | 267 => 143 | 266 => 121 | 314 => 160 | n => n, fun | 9 => 9 | 3 => 3 | 4 => 4 | 5 => 5 | 0 => 0 | 46 => 207 | 146 => 218 | 51 => 214 | n => n, fun | 1 => 3 | n => n⟩
theorem Tryz.lays138 : Go.Proofs.Lays.n138 Tryz.prog Tryz.lays138_ren := {
  mixed := by kernel_rfl
  f138 := Tryz.func57.trans (congrArg some (by kernel_rfl))
  f143 := Tryz.func93.trans (congrArg some (by kernel_rfl))
  f195 := Tryz.func91.trans (congrArg some (by kernel_rfl))
  f217 := Tryz.func95.trans (congrArg some (by kernel_rfl))
  f218 := Tryz.func92.trans (congrArg some (by kernel_rfl))
  f219 := Tryz.func120.trans (congrArg some (by kernel_rfl))
  f224 := Tryz.func142.trans (congrArg some (by kernel_rfl))
  f225 := Tryz.func141.trans (congrArg some (by kernel_rfl))
  f266 := Tryz.func121.trans (congrArg some (by kernel_rfl))
  f267 := Tryz.func143.trans (congrArg some (by kernel_rfl))
  f314 := Tryz.func160.trans (congrArg some (by kernel_rfl))
  t0 := Tryz.underlying0
  a0 := Tryz.isAgg0
  z0 := Tryz.sizeOf0
  v0 := Tryz.zeroValue0
  t3 := Tryz.underlying3
  a3 := Tryz.isAgg3
  z3 := Tryz.sizeOf3
  v3 := Tryz.zeroValue3
  t4 := Tryz.underlying4
  a4 := Tryz.isAgg4
  z4 := Tryz.sizeOf4
  v4 := Tryz.zeroValue4
  t5 := Tryz.underlying5
  a5 := Tryz.isAgg5
  z5 := Tryz.sizeOf5
  v5 := Tryz.zeroValue5
  t9 := Tryz.underlying9
  a9 := Tryz.isAgg9
  z9 := Tryz.sizeOf9
  v9 := Tryz.zeroValue9
  t46 := Tryz.underlying207
  a46 := Tryz.isAgg207
  z46 := Tryz.sizeOf207
  v46 := Tryz.zeroValue207
  t51 := Tryz.underlying214
  a51 := Tryz.isAgg214
  z51 := Tryz.sizeOf214
  v51 := Tryz.zeroValue214
  t146 := Tryz.underlying218
  a146 := Tryz.isAgg218
  z146 := Tryz.sizeOf218
  v146 := Tryz.zeroValue218
  g1 := by kernel_rfl }
open Go.RowKit Go.Lib in
theorem Tryz.strings_Count_one (s : ByteArray) (c : UInt8) (w : World) :
    Calls Tryz.prog 57 #[.string s, .string ⟨#[c]⟩] w fun e w' => e = .returned (.int .i64 (Lib.countByte s.data.toList c)) ∧ w' = w := Any.strings_Count_one Tryz.lays138 s c w
def Tryz.lays99_ren : Go.Shelf.Ren := ⟨fun | 99 => 147 | 206 => 161 | n => n, fun | 9 => 9 | 4 => 4 | 3 => 3 | n => n, fun | n => n⟩
theorem Tryz.lays99 : Go.Proofs.Lays.n99 Tryz.prog Tryz.lays99_ren := {
  mixed := by kernel_rfl
  f99 := Tryz.func147.trans (congrArg some (by kernel_rfl))
  f206 := Tryz.func161.trans (congrArg some (by kernel_rfl))
  t3 := Tryz.underlying3
  a3 := Tryz.isAgg3
  z3 := Tryz.sizeOf3
  v3 := Tryz.zeroValue3
  t4 := Tryz.underlying4
  a4 := Tryz.isAgg4
  z4 := Tryz.sizeOf4
  v4 := Tryz.zeroValue4
  t9 := Tryz.underlying9
  a9 := Tryz.isAgg9
  z9 := Tryz.sizeOf9
  v9 := Tryz.zeroValue9 }
open Go.RowKit Go.Lib in
theorem Tryz.strings_HasPrefix (s p : ByteArray) (w : World) :
    Calls Tryz.prog 147 #[.string s, .string p] w fun e w' => e = .returned (.bool (Lib.hasPrefix s.data.toList p.data.toList)) ∧ w' = w := Any.strings_HasPrefix Tryz.lays99 s p w
def Tryz.lays100_ren : Go.Shelf.Ren := ⟨fun | 100 => 58 | 207 => 94 | n => n, fun | 9 => 9 | 4 => 4 | 3 => 3 | n => n, fun | n => n⟩
theorem Tryz.lays100 : Go.Proofs.Lays.n100 Tryz.prog Tryz.lays100_ren := {
  mixed := by kernel_rfl
  f100 := Tryz.func58.trans (congrArg some (by kernel_rfl))
  f207 := Tryz.func94.trans (congrArg some (by kernel_rfl))
  t3 := Tryz.underlying3
  a3 := Tryz.isAgg3
  z3 := Tryz.sizeOf3
  v3 := Tryz.zeroValue3
  t4 := Tryz.underlying4
  a4 := Tryz.isAgg4
  z4 := Tryz.sizeOf4
  v4 := Tryz.zeroValue4
  t9 := Tryz.underlying9
  a9 := Tryz.isAgg9
  z9 := Tryz.sizeOf9
  v9 := Tryz.zeroValue9 }
open Go.RowKit Go.Lib in
theorem Tryz.strings_HasSuffix (s p : ByteArray) (w : World) (hs : s.size ≤ 9223372036854775807) :
    Calls Tryz.prog 58 #[.string s, .string p] w fun e w' => e = .returned (.bool (Lib.hasSuffix s.data.toList p.data.toList)) ∧ w' = w := Any.strings_HasSuffix Tryz.lays100 s p w hs
def Tryz.lays102_ren : Go.Shelf.Ren := ⟨fun | 102 => 34 | 209 => 66 | 207 => 94 | n => n, fun | 9 => 9 | 4 => 4 | 3 => 3 | n => n, fun | n => n⟩
theorem Tryz.lays102 : Go.Proofs.Lays.n102 Tryz.prog Tryz.lays102_ren := {
  mixed := by kernel_rfl
  f102 := Tryz.func34.trans (congrArg some (by kernel_rfl))
  f207 := Tryz.func94.trans (congrArg some (by kernel_rfl))
  f209 := Tryz.func66.trans (congrArg some (by kernel_rfl))
  t3 := Tryz.underlying3
  a3 := Tryz.isAgg3
  z3 := Tryz.sizeOf3
  v3 := Tryz.zeroValue3
  t4 := Tryz.underlying4
  a4 := Tryz.isAgg4
  z4 := Tryz.sizeOf4
  v4 := Tryz.zeroValue4
  t9 := Tryz.underlying9
  a9 := Tryz.isAgg9
  z9 := Tryz.sizeOf9
  v9 := Tryz.zeroValue9 }
open Go.RowKit Go.Lib in
theorem Tryz.strings_TrimSuffix (s p : ByteArray) (w : World) (hs : s.size ≤ 9223372036854775807) :
    Calls Tryz.prog 34 #[.string s, .string p] w fun e w' => e = .returned (.string ⟨(Lib.trimSuffix s.data.toList p.data.toList).toArray⟩) ∧ w' = w := Any.strings_TrimSuffix Tryz.lays102 s p w hs
def Tryz.lays152_ren : Go.Shelf.Ren := ⟨fun | 152 => 170 | 137 => 60 | 119 => 174 | 224 => 142 | 225 => 141 | 217 => 95 | 266 => 121 | n => n, fun | 9 => 9 | 21 => 21 | 3 => 3 | 4 => 4 | 5 => 5 | 0 => 0 | 46 => 207 | n => n, fun | n => n⟩
theorem Tryz.lays152 : Go.Proofs.Lays.n152 Tryz.prog Tryz.lays152_ren := {
  mixed := by kernel_rfl
  f119 := Tryz.func174.trans (congrArg some (by kernel_rfl))
  f137 := Tryz.func60.trans (congrArg some (by kernel_rfl))
  f152 := Tryz.func170.trans (congrArg some (by kernel_rfl))
  f217 := Tryz.func95.trans (congrArg some (by kernel_rfl))
  f224 := Tryz.func142.trans (congrArg some (by kernel_rfl))
  f225 := Tryz.func141.trans (congrArg some (by kernel_rfl))
  f266 := Tryz.func121.trans (congrArg some (by kernel_rfl))
  t0 := Tryz.underlying0
  a0 := Tryz.isAgg0
  z0 := Tryz.sizeOf0
  v0 := Tryz.zeroValue0
  t3 := Tryz.underlying3
  a3 := Tryz.isAgg3
  z3 := Tryz.sizeOf3
  v3 := Tryz.zeroValue3
  t4 := Tryz.underlying4
  a4 := Tryz.isAgg4
  z4 := Tryz.sizeOf4
  v4 := Tryz.zeroValue4
  t5 := Tryz.underlying5
  a5 := Tryz.isAgg5
  z5 := Tryz.sizeOf5
  v5 := Tryz.zeroValue5
  t9 := Tryz.underlying9
  a9 := Tryz.isAgg9
  z9 := Tryz.sizeOf9
  v9 := Tryz.zeroValue9
  t21 := Tryz.underlying21
  a21 := Tryz.isAgg21
  z21 := Tryz.sizeOf21
  v21 := Tryz.zeroValue21
  t46 := Tryz.underlying207
  a46 := Tryz.isAgg207
  z46 := Tryz.sizeOf207
  v46 := Tryz.zeroValue207 }
open Go.RowKit Go.Lib in
theorem Tryz.strings_IndexRune_ascii (s : ByteArray) (r : Int) (w : World) (h0 : 0 ≤ r) (h1 : r < 128) :
    Calls Tryz.prog 170 #[.string s, .int .i32 r] w fun e w' => e = .returned (.int .i64 (Lib.indexByte s.data.toList r.toNat.toUInt8)) ∧ w' = w := Any.strings_IndexRune_ascii Tryz.lays152 s r w h0 h1
end Go.Proofs
namespace Go.Proofs.YtcnjlbjpeklgkaaGreatDoor
set_option linter.unusedVariables false
set_option linter.unusedSimpArgs false

/-- a number's bytes -/
def numB (n : Nat) : List Int := if h : n < 128 then [(n : Int)] else ((128 + n % 128 : Nat) : Int) :: numB (n / 128)
termination_by n
decreasing_by omega
theorem numB_lt {n : Nat} (h : n < 128) : numB n = [(n : Int)] := by rw [numB, dif_pos h]
theorem numB_ge {n : Nat} (h : 128 ≤ n) : numB n = ((128 + n % 128 : Nat) : Int) :: numB (n / 128) := by rw [numB, dif_neg (by omega)]
def Byt (bs : List Int) : Prop := ∀ b ∈ bs, 0 ≤ b ∧ b ≤ 255
theorem Byt.nil : Byt [] := fun _ h => by cases h
theorem Byt.cons {b : Int} {bs : List Int} (h1 : 0 ≤ b) (h2 : b ≤ 255) (h : Byt bs) : Byt (b :: bs) := fun c hc => by
  rcases List.mem_cons.1 hc with rfl | hc
  · exact ⟨h1, h2⟩
  · exact h c hc
theorem Byt.app {a b : List Int} (h : Byt a) (g : Byt b) : Byt (a ++ b) := fun c hc => (List.mem_append.1 hc).elim (h c) (g c)
theorem numB_byt (n : Nat) : Byt (numB n) := by
  induction n using Nat.strongRecOn with
  | _ n ih =>
    by_cases h : n < 128
    · rw [numB_lt h]; exact Byt.cons (by omega) (by omega) Byt.nil
    · rw [numB_ge (by omega)]; exact Byt.cons (by omega) (by omega) (ih _ (by omega))
theorem numB_len {k n : Nat} (h : n < 128 ^ (k + 1)) : (numB n).length ≤ k + 1 := by
  induction k generalizing n with
  | zero => rw [numB_lt (by simpa using h)]; simp
  | succ k ih =>
    by_cases h1 : n < 128
    · rw [numB_lt h1]; simp
    · rw [numB_ge (by omega), List.length_cons]
      have : n / 128 < 128 ^ (k + 1) := by
        rw [Nat.div_lt_iff_lt_mul (by decide)]; rw [Nat.pow_succ] at h; exact h
      have := ih this
      omega
theorem numB_ne (n : Nat) : numB n ≠ [] := by
  by_cases h : n < 128
  · rw [numB_lt h]; simp
  · rw [numB_ge (by omega)]; simp
/-- what a fixnum is written as -/
def zig (a : Int) : Nat := if 0 ≤ a then (2 * a).toNat else (-2 * a - 1).toNat
def zag (n : Nat) : Int := if n % 2 = 0 then (n / 2 : Nat) else -((n / 2 : Nat) : Int) - 1
theorem zag_zig (a : Int) : zag (zig a) = a := by
  unfold zag zig
  split <;> split <;> omega
theorem zig_zag (n : Nat) : zig (zag n) = n := by
  unfold zag zig
  split <;> split <;> omega
/-- eight bytes, the lowest first -/
def le8 (a : Int) : List Int := (List.range 8).map fun i => a / 256 ^ i % 256
def un8 : List Int → Int
  | [] => 0
  | b :: bs => b + 256 * un8 bs
/-- eight bytes as an int of 64 bits -/
def sg8 (l : List Int) : Int := if un8 l < 9223372036854775808 then un8 l else un8 l - 18446744073709551616
theorem sg8_or (l : List Int) : (sg8 l = un8 l ∧ un8 l < 9223372036854775808) ∨ (sg8 l = un8 l - 18446744073709551616 ∧ 9223372036854775808 ≤ un8 l) := by
  unfold sg8
  by_cases h : un8 l < 9223372036854775808
  · exact .inl ⟨if_pos h, h⟩
  · exact .inr ⟨if_neg h, by omega⟩
theorem le8_eq (a : Int) : le8 a = [a % 256, a / 256 % 256, a / 65536 % 256, a / 16777216 % 256, a / 4294967296 % 256, a / 1099511627776 % 256, a / 281474976710656 % 256, a / 72057594037927936 % 256] := by
  show (List.range 8).map _ = _
  simp [List.range, List.range.loop]
theorem le8_byt (a : Int) : Byt (le8 a) := by
  rw [le8_eq]
  repeat' apply Byt.cons
  all_goals first | exact Byt.nil | omega
theorem sg8_le8 {a : Int} (h1 : -9223372036854775808 ≤ a) (h2 : a ≤ 9223372036854775807) : sg8 (le8 a) = a := by
  have key := sg8_or (le8 a)
  rw [le8_eq] at key ⊢
  simp only [un8] at key
  have e : a % 256 + 256 * (a / 256 % 256 + 256 * (a / 65536 % 256 + 256 * (a / 16777216 % 256 + 256 * (a / 4294967296 % 256 + 256 * (a / 1099511627776 % 256 + 256 * (a / 281474976710656 % 256 + 256 * (a / 72057594037927936 % 256 + 256 * 0))))))) = a % 18446744073709551616 := by omega
  rw [e] at key
  omega
theorem le8_sg8 {b0 b1 b2 b3 b4 b5 b6 b7 : Int} (h : Byt [b0, b1, b2, b3, b4, b5, b6, b7]) : le8 (sg8 [b0, b1, b2, b3, b4, b5, b6, b7]) = [b0, b1, b2, b3, b4, b5, b6, b7] := by
  have h0 := h b0 (by simp)
  have h1 := h b1 (by simp)
  have h2 := h b2 (by simp)
  have h3 := h b3 (by simp)
  have h4 := h b4 (by simp)
  have h5 := h b5 (by simp)
  have h6 := h b6 (by simp)
  have h7 := h b7 (by simp)
  clear h
  rw [le8_eq]
  have key : ∀ u : Int, (u = b0 + 256 * (b1 + 256 * (b2 + 256 * (b3 + 256 * (b4 + 256 * (b5 + 256 * (b6 + 256 * b7)))))) ∨ u = b0 + 256 * (b1 + 256 * (b2 + 256 * (b3 + 256 * (b4 + 256 * (b5 + 256 * (b6 + 256 * b7)))))) - 18446744073709551616) →
      [u % 256, u / 256 % 256, u / 65536 % 256, u / 16777216 % 256, u / 4294967296 % 256, u / 1099511627776 % 256, u / 281474976710656 % 256, u / 72057594037927936 % 256] = [b0, b1, b2, b3, b4, b5, b6, b7] := by
    intro u hu
    have e0 : u % 256 = b0 := by omega
    have e1 : u / 256 % 256 = b1 := by omega
    have e2 : u / 65536 % 256 = b2 := by omega
    have e3 : u / 16777216 % 256 = b3 := by omega
    have e4 : u / 4294967296 % 256 = b4 := by omega
    have e5 : u / 1099511627776 % 256 = b5 := by omega
    have e6 : u / 281474976710656 % 256 = b6 := by omega
    have e7 : u / 72057594037927936 % 256 = b7 := by omega
    rw [e0, e1, e2, e3, e4, e5, e6, e7]
  apply key
  have k2 := sg8_or [b0, b1, b2, b3, b4, b5, b6, b7]
  simp only [un8] at k2
  omega
theorem sg8_wf {l : List Int} (hl : l.length = 8) (h : Byt l) : -9223372036854775808 ≤ sg8 l ∧ sg8 l ≤ 9223372036854775807 := by
  match l, hl with
  | [b0, b1, b2, b3, b4, b5, b6, b7], _ =>
    have h0 := h b0 (by simp)
    have h1 := h b1 (by simp)
    have h2 := h b2 (by simp)
    have h3 := h b3 (by simp)
    have h4 := h b4 (by simp)
    have h5 := h b5 (by simp)
    have h6 := h b6 (by simp)
    have h7 := h b7 (by simp)
    clear h
    have k2 := sg8_or [b0, b1, b2, b3, b4, b5, b6, b7]
    simp only [un8] at k2
    omega

/-- how the operand of an instruction is written: 0 no such, 1 none, 2 a number, 3 a fixnum, 4 bits -/
def opS (op : Int) : Nat :=
  if op = 1 then 3 else if op = 5 then 4
  else if (2 ≤ op ∧ op ≤ 10) ∨ (14 ≤ op ∧ op ≤ 18) then 2
  else if (11 ≤ op ∧ op ≤ 13) ∨ (19 ≤ op ∧ op ≤ 22) ∨ (30 ≤ op ∧ op ≤ 75) then 1 else 0
def okI (x : Int × Int) : Prop :=
  opS x.1 ≠ 0 ∧ (opS x.1 = 1 → x.2 = 0) ∧ (opS x.1 = 2 → 0 ≤ x.2 ∧ x.2 ≤ 2097151) ∧ (opS x.1 = 3 → -1152921504606846976 ≤ x.2 ∧ x.2 ≤ 1152921504606846975) ∧ (opS x.1 = 4 → -9223372036854775808 ≤ x.2 ∧ x.2 ≤ 9223372036854775807)
def opB (x : Int × Int) : List Int :=
  if opS x.1 = 2 then numB x.2.toNat else if opS x.1 = 3 then numB (zig x.2) else if opS x.1 = 4 then le8 x.2 else []
def encI (x : Int × Int) : List Int := x.1 :: opB x
def okT (t : List Int) : Prop := t.length ≤ 4096
def encT (t : List Int) : List Int := numB t.length ++ t
/-- a function: params, locals, captures, code -/
def okF (f : Int × Int × Int × List (Int × Int)) : Prop :=
  (0 ≤ f.1 ∧ f.1 ≤ 8) ∧ (0 ≤ f.2.1 ∧ f.2.1 ≤ 64) ∧ (0 ≤ f.2.2.1 ∧ f.2.2.1 ≤ 64) ∧ f.2.2.2.length ≤ 4096 ∧ ∀ x ∈ f.2.2.2, okI x
def encF (f : Int × Int × Int × List (Int × Int)) : List Int :=
  numB f.1.toNat ++ (numB f.2.1.toNat ++ (numB f.2.2.1.toNat ++ (numB f.2.2.2.length ++ f.2.2.2.flatMap encI)))
/-- a program: globals, texts, functions -/
def okP (p : Int × List (List Int) × List (Int × Int × Int × List (Int × Int))) : Prop :=
  (0 ≤ p.1 ∧ p.1 ≤ 64) ∧ p.2.1.length ≤ 64 ∧ (∀ t ∈ p.2.1, okT t) ∧ (1 ≤ p.2.2.length ∧ p.2.2.length ≤ 64) ∧ ∀ f ∈ p.2.2, okF f
def encP (p : Int × List (List Int) × List (Int × Int × Int × List (Int × Int))) : List Int :=
  [104, 116, 104, 1] ++ (numB p.1.toNat ++ (numB p.2.1.length ++ (p.2.1.flatMap encT ++ (numB p.2.2.length ++ p.2.2.flatMap encF))))
end Go.Proofs.YtcnjlbjpeklgkaaGreatDoor
namespace Go.Proofs.YtcnjlbjpeklgkaaGreatDoor
set_option linter.unusedVariables false
set_option linter.unusedSimpArgs false

/-- what reading gives: an error and its place, or a thing and where the next part begins -/
abbrev Rd (α : Type) : Type := List Int → Nat → Sum (Int × Nat) (α × Nat)
def pureR {α : Type} (v : α) : Rd α := fun _ a => .inr (v, a)
def bndR {α β : Type} (R : Rd α) (S : α → Rd β) : Rd β := fun bs a => match R bs a with
  | .inl e => .inl e
  | .inr p => S p.1 bs p.2
/-- a part that has to be as asked: else it is wrong where it begins -/
noncomputable def chkR {α : Type} (R : Rd α) (ok : α → Prop) : Rd α := fun bs a => match R bs a with
  | .inl e => .inl e
  | .inr p => open Classical in if ok p.1 then .inr p else .inl (60, a)
def takeR (n : Nat) : Rd (List Int) := fun bs a => if n ≤ bs.length - a then .inr ((bs.drop a).take n, a + n) else .inl (61, bs.length)
/-- how many of the first bytes say that another one comes -/
def lead : Nat → List Int → Nat
  | 0, _ => 0
  | _ + 1, [] => 0
  | k + 1, b :: l => if b < 128 then 0 else lead k l + 1
def rowR : Rd (List Int) := fun bs a =>
  if lead 9 (bs.drop a) < 9 ∧ lead 9 (bs.drop a) < bs.length - a then .inr ((bs.drop a).take (lead 9 (bs.drop a) + 1), a + (lead 9 (bs.drop a) + 1))
  else if bs.length - a < 9 then .inl (61, bs.length) else .inl (60, a)
def valN : List Int → Nat
  | [] => 0
  | b :: r => (b % 128).toNat + 128 * valN r
def okRow (lo hi : Nat) (row : List Int) : Prop := (row.length = 1 ∨ row.getLast? ≠ some 0) ∧ lo ≤ valN row ∧ valN row ≤ hi
noncomputable def numR (lo hi : Nat) : Rd Nat := bndR (chkR rowR (okRow lo hi)) fun row => pureR (valN row)
def repR {α : Type} : Nat → Rd α → Rd (List α)
  | 0, _ => pureR []
  | n + 1, R => bndR R fun v => bndR (repR n R) fun vs => pureR (v :: vs)
noncomputable def opR : Rd Int := bndR (chkR (takeR 1) fun l => opS (l.headD 0) ≠ 0) fun l => pureR (l.headD 0)
noncomputable def argR (op : Int) : Rd (Int × Int) :=
  if opS op = 2 then bndR (numR 0 2097151) fun n => pureR (op, (n : Int))
  else if opS op = 3 then bndR (numR 0 2305843009213693951) fun n => pureR (op, zag n)
  else if opS op = 4 then bndR (takeR 8) fun l => pureR (op, sg8 l) else pureR (op, 0)
noncomputable def insR : Rd (Int × Int) := bndR opR argR
noncomputable def txtR : Rd (List Int) := bndR (numR 0 4096) takeR
noncomputable def funR : Rd (Int × Int × Int × List (Int × Int)) :=
  bndR (numR 0 8) fun a => bndR (numR 0 64) fun b => bndR (numR 0 64) fun c => bndR (numR 0 4096) fun n => bndR (repR n insR) fun l => pureR ((a : Int), (b : Int), (c : Int), l)
noncomputable def magR : List Int → Rd Unit
  | [] => pureR ()
  | c :: l => bndR (chkR (takeR 1) (· = [c])) fun _ => magR l
noncomputable def prgR : Rd (Int × List (List Int) × List (Int × Int × Int × List (Int × Int))) :=
  bndR (magR [104, 116, 104, 1]) fun _ => bndR (numR 0 64) fun g => bndR (numR 0 64) fun n => bndR (repR n txtR) fun ts => bndR (numR 1 64) fun m => bndR (repR m funR) fun fs => pureR ((g : Int), ts, fs)

/-! how a thing that is read goes on -/
theorem bnd_ok {α β : Type} {R : Rd α} {S : α → Rd β} {bs : List Int} {a e : Nat} {v : α} (h : R bs a = .inr (v, e)) : bndR R S bs a = S v bs e := by
  unfold bndR; rw [h]
theorem bnd_err {α β : Type} {R : Rd α} {S : α → Rd β} {bs : List Int} {a : Nat} {x : Int × Nat} (h : R bs a = .inl x) : bndR R S bs a = .inl x := by
  unfold bndR; rw [h]
theorem chk_ok {α : Type} {R : Rd α} {ok : α → Prop} {bs : List Int} {a e : Nat} {v : α} (h : R bs a = .inr (v, e)) (hv : ok v) : chkR R ok bs a = .inr (v, e) := by
  unfold chkR; rw [h]; exact if_pos hv
theorem chk_no {α : Type} {R : Rd α} {ok : α → Prop} {bs : List Int} {a e : Nat} {v : α} (h : R bs a = .inr (v, e)) (hv : ¬ ok v) : chkR R ok bs a = .inl (60, a) := by
  unfold chkR; rw [h]; exact if_neg hv
theorem chk_err {α : Type} {R : Rd α} {ok : α → Prop} {bs : List Int} {a : Nat} {x : Int × Nat} (h : R bs a = .inl x) : chkR R ok bs a = .inl x := by
  unfold chkR; rw [h]
theorem bnd_inv {α β : Type} {R : Rd α} {S : α → Rd β} {bs : List Int} {a : Nat} {y : Sum (Int × Nat) (β × Nat)} (h : bndR R S bs a = y) :
    (∃ x, R bs a = .inl x ∧ y = .inl x) ∨ ∃ v e, R bs a = .inr (v, e) ∧ S v bs e = y := by
  rcases hR : R bs a with x | ⟨v, e⟩
  · rw [bnd_err hR] at h; exact .inl ⟨x, rfl, h.symm⟩
  · rw [bnd_ok hR] at h; exact .inr ⟨v, e, rfl, h⟩
theorem chk_inv {α : Type} {R : Rd α} {ok : α → Prop} {bs : List Int} {a : Nat} {y : Sum (Int × Nat) (α × Nat)} (h : chkR R ok bs a = y) :
    (∃ x, R bs a = .inl x ∧ y = .inl x) ∨ (∃ v e, R bs a = .inr (v, e) ∧ ok v ∧ y = .inr (v, e)) ∨ ∃ v e, R bs a = .inr (v, e) ∧ ¬ ok v ∧ y = .inl (60, a) := by
  rcases hR : R bs a with x | ⟨v, e⟩
  · rw [chk_err hR] at h; exact .inl ⟨x, rfl, h.symm⟩
  · by_cases hv : ok v
    · rw [chk_ok hR hv] at h; exact .inr (.inl ⟨v, e, rfl, hv, h.symm⟩)
    · rw [chk_no hR hv] at h; exact .inr (.inr ⟨v, e, rfl, hv, h.symm⟩)
theorem rep_up {α : Type} {R : Rd α} {bs : List Int} : ∀ {i a e e2 : Nat} {vs : List α} {v : α}, repR i R bs a = .inr (vs, e) → R bs e = .inr (v, e2) → repR (i + 1) R bs a = .inr (vs ++ [v], e2)
  | 0, a, e, e2, vs, v, h, h2 => by
    cases h
    show bndR R _ bs a = _
    rw [bnd_ok h2]; rfl
  | i + 1, a, e, e2, vs, v, h, h2 => by
    rcases bnd_inv h with ⟨x, _, hx⟩ | ⟨u, e1, hu, hs⟩
    · cases hx
    rcases bnd_inv hs with ⟨x, _, hx⟩ | ⟨us, e3, hus, hp⟩
    · cases hx
    cases hp
    show bndR R _ bs a = _
    rw [bnd_ok hu, bnd_ok (rep_up hus h2)]
    rfl
theorem rep_err {α : Type} {R : Rd α} {bs : List Int} {x : Int × Nat} : ∀ {i n a e : Nat} {vs : List α}, repR i R bs a = .inr (vs, e) → R bs e = .inl x → i < n → repR n R bs a = .inl x
  | 0, n + 1, a, e, vs, h, h2, _ => by
    cases h
    exact bnd_err h2
  | i + 1, n + 1, a, e, vs, h, h2, hn => by
    rcases bnd_inv h with ⟨x, _, hx⟩ | ⟨u, e1, hu, hs⟩
    · cases hx
    rcases bnd_inv hs with ⟨x, _, hx⟩ | ⟨us, e3, hus, hp⟩
    · cases hx
    cases hp
    show bndR R _ bs a = _
    rw [bnd_ok hu, bnd_err (rep_err hus h2 (by omega))]
theorem rep_len {α : Type} {R : Rd α} {bs : List Int} : ∀ {i a e : Nat} {vs : List α}, repR i R bs a = .inr (vs, e) → vs.length = i
  | 0, a, e, vs, h => by cases h; rfl
  | i + 1, a, e, vs, h => by
    rcases bnd_inv h with ⟨x, _, hx⟩ | ⟨u, e1, hu, hs⟩
    · cases hx
    rcases bnd_inv hs with ⟨x, _, hx⟩ | ⟨us, e3, hus, hp⟩
    · cases hx
    cases hp
    simp [rep_len hus]
theorem take_ok {n a : Nat} {bs : List Int} (h : a + n ≤ bs.length) : takeR n bs a = .inr ((bs.drop a).take n, a + n) := if_pos (by omega)
theorem take_err {n a : Nat} {bs : List Int} (h : bs.length < a + n) (ha : a ≤ bs.length) : takeR n bs a = .inl (61, bs.length) := if_neg (by omega)
theorem lead_le : ∀ (k : Nat) (l : List Int), lead k l ≤ k ∧ lead k l ≤ l.length
  | 0, l => by simp [lead]
  | k + 1, [] => by simp [lead]
  | k + 1, b :: l => by
    have := lead_le k l
    unfold lead
    split <;> simp <;> omega
theorem lead_ge : ∀ (k : Nat) (l : List Int) (j : Nat) (b : Int), j < lead k l → l[j]? = some b → 128 ≤ b
  | 0, l, j, b, h, _ => by simp [lead] at h
  | k + 1, [], j, b, h, _ => by simp [lead] at h
  | k + 1, c :: l, j, b, h, hb => by
    unfold lead at h
    split at h
    · omega
    · cases j with
      | zero => simp at hb; omega
      | succ j => exact lead_ge k l j b (by omega) (by simpa using hb)
theorem lead_at : ∀ (k : Nat) (l : List Int) (b : Int), lead k l < k → l[lead k l]? = some b → b < 128
  | 0, l, b, h, _ => by simp [lead] at h
  | k + 1, [], b, h, hb => by simp [lead] at hb
  | k + 1, c :: l, b, h, hb => by
    unfold lead at h hb
    split at hb
    · simp at hb; omega
    · rename_i hc
      rw [if_neg hc] at h
      exact lead_at k l b (by omega) (by simpa using hb)
/-- the first byte below 128 tells it -/
theorem lead_is : ∀ (k : Nat) (l : List Int) (j : Nat), j ≤ k → j ≤ l.length → (∀ i b, i < j → l[i]? = some b → 128 ≤ b) → (j = k ∨ j = l.length ∨ ∃ b, l[j]? = some b ∧ b < 128) → lead k l = j
  | 0, l, j, h1, h2, h3, h4 => by simp [lead]; omega
  | k + 1, [], j, h1, h2, h3, h4 => by simp [lead] at *; omega
  | k + 1, c :: l, j, h1, h2, h3, h4 => by
    unfold lead
    cases j with
    | zero =>
      rcases h4 with h4 | h4 | ⟨b, hb, h4⟩
      · omega
      · simp at h4
      · simp at hb; rw [if_pos (by omega)]
    | succ j =>
      have hc := h3 0 c (by omega) (by simp)
      rw [if_neg (by omega), lead_is k l j (by omega) (by simpa using h2) (fun i b hi hb => h3 (i + 1) b (by omega) (by simpa using hb)) ?_]
      rcases h4 with h4 | h4 | ⟨b, hb, h4⟩
      · exact .inl (by omega)
      · exact .inr (.inl (by simpa using h4))
      · exact .inr (.inr ⟨b, by simpa using hb, h4⟩)
end Go.Proofs.YtcnjlbjpeklgkaaGreatDoor
