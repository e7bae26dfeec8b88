/- package show: nodes as a heap; what a leaf is told as -/
import Derived.Test.YtmfnkhonghemeaaDoorIh
import Derived.Test.YtmfnkhonghemeaaDoorIm
namespace Go.Proofs.YtmfnkhonghemeaaDoor
open Go.RowKit
set_option linter.unusedVariables false
set_option linter.unusedSimpArgs false

/-- a node -/
abbrev ndC (i k : Int) (r f e : Value) : Array Value := #[.int .i64 i, .int .i64 k, r, f, e]
theorem zero_int (w : World) : (zeroValue 3).run Tryd.prog w = .ok (.int .i64 0) w := by kernel_rfl
theorem infoN (i k : Int) (r f e : Value) : (Tryd.prog.info? 34).map (·.size) = some (#[Value.int .i64 i, Value.int .i64 k, r, f, e] : Array Value).size := by kernel_rfl
theorem load_nd {w : World} {g : Nat} {i k : Int} {r f e : Value} (hg : Bl w g #[.int .i64 i, .int .i64 k, r, f, e] 34) : (loadVar 34 ⟨g, 0, none⟩).run Tryd.prog w = .ok (.agg #[.int .i64 i, .int .i64 k, r, f, e]) w :=
  run_loadVar_row w g 34 34 _ (0, 0) _ hg Tryd.underlying34 rfl (infoN i k r f e)
theorem results_two {P : Program} {fn : Func} {p q : Tmp} {a b : TypeId} {t : Array Value} {w : World} {v1 v2 : Value} {A1 A2 : Addr} (hr : fn.results = #[.cell p a, .cell q b]) (hp : t.getD p undef = .pointer (some A1)) (hq : t.getD q undef = .pointer (some A2)) (r1 : (loadVar a A1).run P w = .ok v1 w) (r2 : (loadVar b A2).run P w = .ok v2 w) : (results fn t).run P w = .ok (.tuple #[v1, v2]) w := by
  have hp' : t[p]?.getD undef = .pointer (some A1) := by simpa using hp
  have hq' : t[q]?.getD undef = .pointer (some A2) := by simpa using hq
  simp only [results, hr]
  simp [Sem.run_bind, hp', hq', asAddr, r1, r2, Result.andThen]
set_option maxHeartbeats 2000000 in
/-- the node of a number, in a list of one -/
theorem node_one {W : World} {L c m : Nat} {f0 : Int → Option Value} {x i k ra la ca fa lf cf ea le ce : Int} (r f e : Value) (hr : ∃ a l c, r = .slice a l c) (hf : ∃ a l c, f = .slice a l c) (he : ∃ a l c, e = .slice a l c)
    (hm : MpAt W m f0) (hx : f0 x = some (.int .i64 0)) (hL : Bl W L #[.int .i64 i, .int .i64 k, r, f, e] 34) :
    Calls Tryd.prog 110 #[.agg #[.slice (some ⟨L, 0, none⟩) 1 c, .map (some m)], .agg #[.int .i64 2, .int .i64 x]] W fun e' w' => e' = .returned (.tuple #[.agg #[.int .i64 i, .int .i64 k, r, f, e], .agg #[.int .i64 0, .int .i64 0]]) ∧ Out 0 0 W w' := by
  obtain ⟨a1, l1, c1, rfl⟩ := hr
  obtain ⟨a2, l2, c2, rfl⟩ := hf
  obtain ⟨a3, l3, c3, rfl⟩ := he
  have o1 : Out 0 0 W ((((W.alloc (.cells #[.slice (some ⟨L, 0, none⟩) 1 c, .map (some m)] 45)).alloc (.cells #[.int .i64 2, .int .i64 x] 28)).alloc (.cells #[.int .i64 0, .int .i64 0, .slice none 0 0, .slice none 0 0, .slice none 0 0] 34)).alloc (.cells #[.int .i64 0, .int .i64 0] 38)) := ((((Out.refl _ _ _).alloc _).alloc _).alloc _).alloc _
  have lk := mp_look true Tryd.underlying43 Tryd.underlying3 (zero_int _) (hm.kept o1 (.inr (Nat.zero_le _))) x
  rw [hx] at lk
  simp only [Option.getD_some, Option.isSome_some, if_true] at lk
  have L1 := hL.kept o1 (.inr (Nat.zero_le _))
  have l0 := L1.cell (i := 0) rfl
  have l1 := L1.cell (i := 1) rfl
  have l2 := L1.cell (i := 2) rfl
  have l3 := L1.cell (i := 3) rfl
  have l4 := L1.cell (i := 4) rfl
  have hll := hL.lt
  have HO := hid_mk o1
  clear hm hL hx o1 L1
  go_enter Tryd.func110, Tryd.ntmps110
  go_wp2_with fail
  refine bodyPost_ret (results_two Tryd.results110 rfl rfl (load_nd ?n) (load_flt ?f)) rfl ⟨rfl, ((((Out.refl _ _ _).alloc _).alloc _).alloc _).alloc _⟩
  case n => simpa only [size_alloc] using (Bl.new ((W.alloc (.cells #[.slice (some ⟨L, 0, none⟩) 1 c, .map (some m)] 45)).alloc (.cells #[.int .i64 2, .int .i64 x] 28)) #[.int .i64 i, .int .i64 k, .slice a1 _ c1, .slice a2 _ c2, .slice a3 _ c3] 34).alloc _
  case f => simpa only [size_alloc] using Bl.new (((W.alloc (.cells #[.slice (some ⟨L, 0, none⟩) 1 c, .map (some m)] 45)).alloc (.cells #[.int .i64 2, .int .i64 x] 28)).alloc (.cells #[.int .i64 i, .int .i64 k, .slice a1 _ c1, .slice a2 _ c2, .slice a3 _ c3] 34)) #[.int .i64 0, .int .i64 0] 38
end Go.Proofs.YtmfnkhonghemeaaDoor
