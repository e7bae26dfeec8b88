import Derived.Test.YtapjfokkcgdhhaaDoorQac
import Derived.LaidEql
import Derived.Stop.Asserts
import Derived.RowKitTokens
namespace Go.Proofs.YtapjfokkcgdhhaaDoor
open Go.RowKit Go.Extern.Stop Go.Stop Go.Extern
set_option linter.unusedVariables false
set_option linter.unusedSimpArgs false

theorem r_valueOfP (t : Addr) (w : World) : (ReflectliteValue.unpack (.iface 87 (.pointer (some t)))).run Tryd.prog w
    = .ok (.agg #[.pointer (some ⟨1, 87, none⟩), .pointer (some ⟨w.heap.size, 0, none⟩), .int .u64 150]) (w.alloc (.cells #[.pointer (some t)] 87)) := by kernel_rfl
theorem r_typeP (a : Addr) (w : World) : (ReflectliteValue.methodAny (ReflectliteValue.valueError "reflectlite.Value.Type" 0) (fun t _ _ _ => ReflectliteType.toType t) #[.agg #[.pointer (some ⟨1, 87, none⟩), .pointer (some a), .int .u64 150]]).run Tryd.prog w
    = .ok (.iface 112 (.agg #[.pointer (some ⟨1, 87, none⟩)])) w := by kernel_rfl
theorem r_kindP (w : World) : ((ReflectliteType.abiMethod fun t => (fun a : Nat => Value.int IntKind.u8 (a : Int)) <$> Rtype.kind t) #[.pointer (some ⟨1, 87, none⟩)]).run Tryd.prog w = .ok (.int .u8 22) w := by kernel_rfl
theorem r_kindW (w : World) : ((ReflectliteType.abiMethod fun t => (fun a : Nat => Value.int IntKind.u8 (a : Int)) <$> Rtype.kind t) #[.pointer (some ⟨1, 85, none⟩)]).run Tryd.prog w = .ok (.int .u8 25) w := by kernel_rfl
theorem m_one {v : Value} {h1 : Value → Sem Value} {h2 : Array Value → Sem Value} : ReflectliteValue.method.match_2 (fun _ => Sem Value) #[v] h1 h2 = h1 v := rfl
theorem m_two {v x : Value} {h1 : Value → Value → Sem Value} {h2 : Array Value → Sem Value} : ReflectliteValue.set.match_3 (fun _ => Sem Value) #[v, x] h1 h2 = h1 v x := rfl
theorem r_partsP (a : Addr) (w : World) : (ReflectliteValue.parts (.agg #[.pointer (some ⟨1, 87, none⟩), .pointer (some a), .int .u64 150])).run Tryd.prog w = .ok (some (87, a, 150)) w := by kernel_rfl
theorem r_isNilP (a p : Addr) (W : World) (ha : W.cell? a = some (.pointer (some p))) :
    (ReflectliteValue.method (ReflectliteValue.valueError "reflectlite.Value.IsNil" 0) ReflectliteValue.isNil #[.agg #[.pointer (some ⟨1, 87, none⟩), .pointer (some a), .int .u64 150]]).run Tryd.prog W = .ok (.bool false) W := by
  delta ReflectliteValue.method
  rw [m_one]
  simp only [Sem.run_bind, r_partsP, Result.andThen]
  simp [ReflectliteValue.isNil, loadVar, isAgg, underlying, Tryd.underlying87, ha, Result.andThen]
theorem r_elemT (w : World) : (ReflectliteType.method ReflectliteType.elem #[.agg #[.pointer (some ⟨1, 87, none⟩)]]).run Tryd.prog w = .ok (.iface 112 (.agg #[.pointer (some ⟨1, 85, none⟩)])) w := by kernel_rfl
theorem r_implW (w : World) : (ReflectliteType.relation "Implements" ReflectliteType.implements_ #[.agg #[.pointer (some ⟨1, 85, none⟩)], .iface 112 (.agg #[.pointer (some ⟨1, 82, none⟩)])]).run Tryd.prog w = .ok (.bool true) w := by kernel_rfl
theorem r_typeOfW (v : Value) (w : World) : (ReflectliteType.typeOf #[.iface 85 v]).run Tryd.prog w = .ok (.iface 112 (.agg #[.pointer (some ⟨1, 85, none⟩)])) w := by kernel_rfl
theorem r_asgW (w : World) : (ReflectliteType.relation "AssignableTo" ReflectliteType.assignableTo #[.agg #[.pointer (some ⟨1, 85, none⟩)], .iface 112 (.agg #[.pointer (some ⟨1, 85, none⟩)])]).run Tryd.prog w = .ok (.bool true) w := by kernel_rfl
theorem r_valueOfW (e a : Int) (w : World) : (ReflectliteValue.unpack (.iface 85 (.agg #[.int .i64 e, .int .i64 a]))).run Tryd.prog w
    = .ok (.agg #[.pointer (some ⟨1, 85, none⟩), .pointer (some ⟨w.heap.size, 0, none⟩), .int .u64 153]) (w.alloc (.cells #[.int .i64 e, .int .i64 a] 85)) := by kernel_rfl
theorem r_elemOfP (w : World) : (Rtype.elem? 87).run Tryd.prog w = .ok (some 85) w := by kernel_rfl
theorem r_mkW (p : Addr) (w : World) : (ReflectliteValue.mk 85 p ReflectliteValue.flagAddr).run Tryd.prog w = .ok (.agg #[.pointer (some ⟨1, 85, none⟩), .pointer (some p), .int .u64 409]) w := by kernel_rfl
theorem r_elemVP (a p : Addr) (W : World) (ha : W.cell? a = some (.pointer (some p))) :
    (ReflectliteValue.method (ReflectliteValue.valueError "reflectlite.Value.Elem" 0) ReflectliteValue.elem #[.agg #[.pointer (some ⟨1, 87, none⟩), .pointer (some a), .int .u64 150]]).run Tryd.prog W
      = .ok (.agg #[.pointer (some ⟨1, 85, none⟩), .pointer (some p), .int .u64 409]) W := by
  delta ReflectliteValue.method
  rw [m_one]
  simp only [Sem.run_bind, r_partsP, Result.andThen]
  simp [ReflectliteValue.elem, loadVar, isAgg, underlying, Tryd.underlying87, ha, Result.andThen, r_elemOfP, r_mkW]
theorem r_partsWa (a : Addr) (w : World) : (ReflectliteValue.parts (.agg #[.pointer (some ⟨1, 85, none⟩), .pointer (some a), .int .u64 409])).run Tryd.prog w = .ok (some (85, a, 409)) w := by kernel_rfl
theorem r_partsW (a : Addr) (w : World) : (ReflectliteValue.parts (.agg #[.pointer (some ⟨1, 85, none⟩), .pointer (some a), .int .u64 153])).run Tryd.prog w = .ok (some (85, a, 153)) w := by kernel_rfl
theorem r_directW (w : World) : (Rtype.directlyAssignable 85 85).run Tryd.prog w = .ok true w := by kernel_rfl
theorem infoW (x y : Int) : (Tryd.prog.info? 85).map (·.size) = some (#[Value.int .i64 x, Value.int .i64 y] : Array Value).size := by kernel_rfl
theorem r_setW (t b : Nat) (e a x y : Int) (W : World) (hb : Bl W b #[.int .i64 e, .int .i64 a] 85) (ht : Bl W t #[.int .i64 x, .int .i64 y] 85) :
    (ReflectliteValue.set #[.agg #[.pointer (some ⟨1, 85, none⟩), .pointer (some ⟨t, 0, none⟩), .int .u64 409], .agg #[.pointer (some ⟨1, 85, none⟩), .pointer (some ⟨b, 0, none⟩), .int .u64 153]]).run Tryd.prog W
      = .ok (.tuple #[]) ((W.setCell ⟨t, 0, none⟩ (.int .i64 e)).setCell ⟨t, 1, none⟩ (.int .i64 a)) := by
  have hL : (loadVar 85 ⟨b, 0, none⟩).run Tryd.prog W = .ok (.agg #[.int .i64 e, .int .i64 a]) W :=
    run_loadVar_row W b 85 85 _ (0, 0) _ hb Tryd.underlying85 rfl (infoW e a)
  have t0 := ht.cell (i := 0) rfl
  have z0 := ht.frozen 0
  have t1 := (ht.set 0 (.int .i64 e)).cell (i := 1) (v := .int .i64 y) rfl
  have z1 := (ht.set 0 (.int .i64 e)).frozen 1
  delta ReflectliteValue.set
  rw [m_two]
  simp only [Sem.run_bind, r_partsWa, r_partsW, Result.andThen]
  simp [ReflectliteValue.flagAddr, hL, Result.andThen, r_directW, storeVar, Value.cells, storeCells, Addr.add]
  rw [run_store Tryd.prog W ⟨t, 0, none⟩ _ _ (by rfl)]
  simp [t0, z0]
  rw [run_store Tryd.prog _ ⟨t, 1, none⟩ _ _ (by rfl)]
  simp [t1, z1]
end Go.Proofs.YtapjfokkcgdhhaaDoor
namespace Go.Proofs.YtapjfokkcgdhhaaDoor
open Go.RowKit Go.Extern.Stop Go.Stop Go.Extern
set_option linter.unusedVariables false
set_option linter.unusedSimpArgs false

theorem q_kind (h : Value) (w : World) : (Go.method 258 112 (.agg #[h]) "Kind").run Tryd.prog w = .ok (81, h) w := by kernel_rfl
theorem q_elem (h : Value) (w : World) : (Go.method 258 112 (.agg #[h]) "Elem").run Tryd.prog w = .ok (92, .agg #[h]) w := by kernel_rfl
theorem q_impl (h : Value) (w : World) : (Go.method 258 112 (.agg #[h]) "Implements").run Tryd.prog w = .ok (93, .agg #[h]) w := by kernel_rfl
theorem q_asg (h : Value) (w : World) : (Go.method 258 112 (.agg #[h]) "AssignableTo").run Tryd.prog w = .ok (90, .agg #[h]) w := by kernel_rfl
set_option maxRecDepth 100000 in
set_option maxHeartbeats 1000000 in
theorem as_hit {w : World} {t : Nat} {x y : Int} (e a : Int) (va : Nat) (hv : Bl w va #[.pointer (some ⟨t, 0, none⟩)] 87) (ht : Bl w t #[.int .i64 x, .int .i64 y] 85) :
    Calls Tryd.prog 49 #[.iface 85 (.agg #[.int .i64 e, .int .i64 a]), .iface 87 (.pointer (some ⟨t, 0, none⟩)), .agg #[.pointer (some ⟨1, 87, none⟩), .pointer (some ⟨va, 0, none⟩), .int .u64 150], .iface 112 (.agg #[.pointer (some ⟨1, 85, none⟩)])] w
      fun ev w' => ev = .returned (.bool true) ∧ Bl w' t #[.int .i64 e, .int .i64 a] 85 ∧ Out t (t + 1) w w' := by
  have h62 := @run_callFunc_extern Tryd.prog 57 _ ReflectliteType.typeOf Tryd.func57 (by kernel_rfl) (by kernel_rfl) (by kernel_rfl) (by kernel_rfl)
  have h95 := @run_callFunc_extern Tryd.prog 90 _ (ReflectliteType.relation "AssignableTo" ReflectliteType.assignableTo) Tryd.func90 (by kernel_rfl) (by kernel_rfl) (by kernel_rfl) (by kernel_rfl)
  have h63 := @run_callFunc_extern Tryd.prog 58 _ (ReflectliteValue.method (ReflectliteValue.valueError "reflectlite.Value.Elem" 0) ReflectliteValue.elem) Tryd.func58 (by kernel_rfl) (by kernel_rfl) (by kernel_rfl) (by kernel_rfl)
  have h51 := @run_callFunc_extern Tryd.prog 46 _ (fun args => ReflectliteValue.unpack (args.getD 0 (.tuple #[]))) Tryd.func46 (by kernel_rfl) (by kernel_rfl) (by kernel_rfl) (by kernel_rfl)
  have h64 := @run_callFunc_extern Tryd.prog 59 _ ReflectliteValue.set Tryd.func59 (by kernel_rfl) (by kernel_rfl) (by kernel_rfl) (by kernel_rfl)
  have tO := r_typeOfW
  have mA := q_asg
  have aW := r_asgW
  have vW := r_valueOfW e a
  have hn := Bl.new w #[.pointer (some ⟨1, 87, none⟩), .pointer (some ⟨va, 0, none⟩), .int .u64 150] 99
  have hv1 := hv.alloc (.cells #[.pointer (some ⟨1, 87, none⟩), .pointer (some ⟨va, 0, none⟩), .int .u64 150] 99)
  have el := r_elemVP ⟨va, 0, none⟩ ⟨t, 0, none⟩ _ (hv1.cell (i := 0) rfl)
  have ht1 := ht.alloc (.cells #[.pointer (some ⟨1, 87, none⟩), .pointer (some ⟨va, 0, none⟩), .int .u64 150] 99)
  have ht2 := ht1.alloc (.cells #[.int .i64 e, .int .i64 a] 85)
  have hb2 := Bl.new (w.alloc (.cells #[.pointer (some ⟨1, 87, none⟩), .pointer (some ⟨va, 0, none⟩), .int .u64 150] 99)) #[.int .i64 e, .int .i64 a] 85
  rw [size_alloc] at hb2
  have st := r_setW t (w.heap.size + 1) e a x y _ hb2 ht2
  have HB := hid_mk ((ht2.set 0 (.int .i64 e)).set 1 (.int .i64 a))
  have HO := hid_mk (((((Out.refl t (t + 1) w).alloc (.cells #[.pointer (some ⟨1, 87, none⟩), .pointer (some ⟨va, 0, none⟩), .int .u64 150] 99)).alloc (.cells #[.int .i64 e, .int .i64 a] 85)).setCell (p := ⟨t, 0, none⟩) (.inl ⟨Nat.le_refl _, Nat.lt_succ_self _⟩) (.int .i64 e)).setCell (p := ⟨t, 1, none⟩) (.inl ⟨Nat.le_refl _, Nat.lt_succ_self _⟩) (.int .i64 a))
  clear hn hv1 ht1 ht2 hb2
  go_enter Tryd.func49, Tryd.ntmps49
  go_wp2
  refine wp_loop_rounds 1 ?_
  rw [rounds_succ]
  go_wp2
  go_ret
  exact ⟨rfl, HB.out, HO.out⟩
/-- the listed variable -/
def Ty (w : World) : Prop := w.cell? ⟨0, 0, none⟩ = some (.iface 112 (.agg #[.pointer (some ⟨1, 82, none⟩)]))
theorem Ty.lo {w w' : World} {B : Nat} (h : Ty w) (o : Lo B w w') (hB : 1 ≤ B) : Ty w' := o.cell h (by omega)
theorem Ty.out {w w' : World} {lo hi : Nat} (h : Ty w) (o : Out lo hi w w') (hB : 1 ≤ lo ∨ hi = 0) : Ty w' := o.cell h (by omega)
theorem Ty.lt {w : World} (h : Ty w) : 0 < w.heap.size := cell_lt h
set_option maxRecDepth 100000 in
set_option maxHeartbeats 1000000 in
theorem As_hit {w : World} {t : Nat} {x y : Int} (e a : Int) (hT : Ty w) (ht : Bl w t #[.int .i64 x, .int .i64 y] 85) :
    Calls Tryd.prog 38 #[.iface 85 (.agg #[.int .i64 e, .int .i64 a]), .iface 87 (.pointer (some ⟨t, 0, none⟩))] w
      fun ev w' => ev = .returned (.bool true) ∧ Bl w' t #[.int .i64 e, .int .i64 a] 85 ∧ Out t (t + 1) w w' := by
  have h51 := @run_callFunc_extern Tryd.prog 46 _ (fun args => ReflectliteValue.unpack (args.getD 0 (.tuple #[]))) Tryd.func46 (by kernel_rfl) (by kernel_rfl) (by kernel_rfl) (by kernel_rfl)
  have h52 := @run_callFunc_extern Tryd.prog 47 _ (ReflectliteValue.methodAny (ReflectliteValue.valueError "reflectlite.Value.Type" 0) (fun t _ _ _ => ReflectliteType.toType t)) Tryd.func47 (by kernel_rfl) (by kernel_rfl) (by kernel_rfl) (by kernel_rfl)
  have h53 := @run_callFunc_extern Tryd.prog 48 _ (ReflectliteValue.method (ReflectliteValue.valueError "reflectlite.Value.IsNil" 0) ReflectliteValue.isNil) Tryd.func48 (by kernel_rfl) (by kernel_rfl) (by kernel_rfl) (by kernel_rfl)
  have h86 := @run_callFunc_extern Tryd.prog 81 _ (ReflectliteType.abiMethod fun t => do pure (.int .u8 (← Rtype.kind t))) Tryd.func81 (by kernel_rfl) (by kernel_rfl) (by kernel_rfl) (by kernel_rfl)
  have h97 := @run_callFunc_extern Tryd.prog 92 _ (ReflectliteType.method ReflectliteType.elem) Tryd.func92 (by kernel_rfl) (by kernel_rfl) (by kernel_rfl) (by kernel_rfl)
  have h98 := @run_callFunc_extern Tryd.prog 93 _ (ReflectliteType.relation "Implements" ReflectliteType.implements_) Tryd.func93 (by kernel_rfl) (by kernel_rfl) (by kernel_rfl) (by kernel_rfl)
  have f6 := r_valueOfP ⟨t, 0, none⟩
  have f7 := r_typeP
  have mK := q_kind
  have mE := q_elem
  have mI := q_impl
  have kP := r_kindP
  have kW := r_kindW
  have eP := r_elemT
  have iW := r_implW
  have n0 := Bl.new w #[.pointer (some ⟨t, 0, none⟩)] 87
  have n1 := n0.alloc (.cells #[.pointer (some ⟨1, 87, none⟩), .pointer (some ⟨w.heap.size, 0, none⟩), .int .u64 150] 99)
  have nI := r_isNilP ⟨w.heap.size, 0, none⟩ ⟨t, 0, none⟩ _ (n1.cell (i := 0) rfl)
  have hO : Out 0 0 w ((w.alloc (.cells #[.pointer (some ⟨t, 0, none⟩)] 87)).alloc (.cells #[.pointer (some ⟨1, 87, none⟩), .pointer (some ⟨w.heap.size, 0, none⟩), .int .u64 150] 99)) := ((Out.refl 0 0 w).alloc _).alloc _
  have hg : _ = _ := hT.out hO (.inr rfl)
  have HA := hid_mk (as_hit e a w.heap.size n1 (ht.kept hO (.inr (Nat.zero_le _))))
  have HO := hid_mk hO
  clear n0 n1 hO hT ht
  go_enter Tryd.func38, Tryd.ntmps38
  go_wp2_with (go_at_call 49; refine HA.out.mono ?_; rintro ev w2 ⟨rfl, hb2, ho2⟩)
  go_ret
  exact ⟨rfl, hb2, (HO.out.any _ _).trans ho2⟩
end Go.Proofs.YtapjfokkcgdhhaaDoor
