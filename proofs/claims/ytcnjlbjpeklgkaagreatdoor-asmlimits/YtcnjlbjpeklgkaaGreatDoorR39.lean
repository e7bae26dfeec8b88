import Derived.Test.YtcnjlbjpeklgkaaGreatDoorRows
import Derived.Test.YtcnjlbjpeklgkaaGreatDoorTie
import Derived.Test.YtcnjlbjpeklgkaaGreatDoorR38
import Derived.ProofKit
import Derived.LaidMore
import Derived.OpenShut
import Derived.Lay
import Derived.Lib.LaidU8
import Derived.HandedShaped
import Derived.Stop.LaidErr
import Derived.Stop.Joined
import Derived.SevenTiedAt
import Derived.Handed
namespace Go.Proofs.YtcnjlbjpeklgkaaGreatDoor
open Go.ChangeShapes Go.WideShapes Go.ChangeAt Go.RowKit
set_option linter.unusedVariables false
set_option linter.unusedSimpArgs false
set_option maxRecDepth 100000

theorem own : ownKnob Tryz.prog.godebug = none := by kernel_rfl
theorem laid_out : laidOutB Tryz.prog = true := by kernel_rfl
def laidP : List (String × DataW Unit) := [("math/bits.deBruijn32tab", Rows.laid_math_bits_deBruijn32tab), ("math/bits.deBruijn64tab", Rows.laid_math_bits_deBruijn64tab), ("internal/strconv.uint64pow10", Rows.laid_internal_strconv_uint64pow10), ("unicode/utf8.acceptRanges", Rows.laid_unicode_utf8_acceptRanges)]
def laidL : List (String × DataW Unit) := laidP ++ [("errors.errorType", Rows.laid_errors_errorType), ("hearth/asm.names", Rows.laid_hearth_asm_names), ("hearth/asm.immediates", Rows.laid_hearth_asm_immediates), ("unicode/utf8.first", Rows.laid_unicode_utf8_first)]
def laidQ : List (String × DataW Unit) := laidP ++ [("hearth/asm.names", Rows.laid_hearth_asm_names), ("hearth/asm.immediates", Rows.laid_hearth_asm_immediates), ("unicode/utf8.first", Rows.laid_unicode_utf8_first)]
/-- a world that meets the condition -/
noncomputable def laidWorld (os : Go.Os) : World :=
  let w0 := World.laidAll Tryz.prog os laidQ
  { w0 with heap := w0.heap.modify 1 fun
      | .cells _ t frozen => .cells #[.iface 187 (.agg #[.pointer (some ⟨9, 135, none⟩)])] t frozen
      | o => o }
theorem door_met (os : Go.Os) (args : Array Value) : laidMetH Tryz.prog laidL ((laidWorld os).forCall (fun _ _ => 0) ⟨#[], args, []⟩).memory :=
  laidMetH_of_parts (laidMet_of_run' 8 (by kernel_rfl) (by kernel_rfl)) (by kernel_rfl)
end Go.Proofs.YtcnjlbjpeklgkaaGreatDoor
namespace Go.Proofs.YtcnjlbjpeklgkaaGreatDoor
open Go.ChangeShapes Go.WideShapes Go.ChangeAt Go.RowKit
set_option linter.unusedVariables false
set_option linter.unusedSimpArgs false
set_option maxRecDepth 100000

theorem et_at : Tryz.prog.globalNamed "errors.errorType" = some 1 := by kernel_rfl
theorem rt_at : (Tryz.prog.cutTypes.find? (·.1 == "internal/reflectlite.rtype")).map (·.2) = some 187 := by kernel_rfl
theorem one_row : ((List.range 260).filter fun t => Tryz.prog.rowNamed t [101, 114, 114, 111, 114]) = [135] := by kernel_rfl
theorem ty_size : Tryz.prog.types.size = 260 := by kernel_rfl
theorem laid_two {W : World} (h : laidMetH Tryz.prog laidL W) : laidMet Tryz.prog (laidL.filter fun x => x.2.handleName?.isNone) W ∧ handlesMet Tryz.prog [("errors.errorType", Rows.laid_errors_errorType)] W := by
  unfold laidMetH at h
  have e : (laidL.filter fun x => x.2.handleName?.isSome) = [("errors.errorType", Rows.laid_errors_errorType)] := rfl
  rw [e] at h
  exact h
theorem ty_of {W : World} (h : handlesMet Tryz.prog [("errors.errorType", Rows.laid_errors_errorType)] W) : Ty W := by
  obtain ⟨name, u, ty, e1, e2, e3, e4, e5⟩ := h _ (List.mem_singleton.2 rfl)
  have en : name = [101, 114, 114, 111, 114] := (Option.some.inj e1).symm
  subst en
  obtain rfl := Option.some.inj (rt_at.symm.trans e2)
  have hm : ty ∈ (List.range 260).filter fun t => Tryz.prog.rowNamed t [101, 114, 114, 111, 114] := List.mem_filter.2 ⟨List.mem_range.2 (by rw [← ty_size]; exact e3), e4⟩
  rw [one_row] at hm
  obtain rfl := List.mem_singleton.1 hm
  have hh : typeHandle Tryz.prog 135 = .pointer (some ⟨9, 135, none⟩) := by kernel_rfl
  rw [hh] at e5
  unfold Ty
  simpa using World.var?_cell et_at e5 0
theorem str_tab {W : World} {g : Nat} {t : TypeId} {n : Nat} {nm : String} {ss : List ByteArray} (hg0 : Tryz.prog.globalNamed nm = some g) (ht0 : (Tryz.prog.globals[g]?).map (·.type) = some t) (ht : Tryz.prog.underlying t = some (.array n 9)) (hc : Tryz.prog.cellsOf 9 = 1) (hn : ss.length = n)
    (h : Lib.VarReads Tryz.prog W nm (.agg (ss.map fun s => .lit (.string s.data.toList)))) : W.rangeAt g 0 (ss.map Value.string) := by
  obtain ⟨g', t', cs, fuel, p, hg, hty, hvar, hd⟩ := h
  obtain rfl := Option.some.inj (hg0.symm.trans hg)
  obtain rfl := Option.some.inj (ht0.symm.trans hty)
  intro j v hj
  rw [List.getElem?_map] at hj
  obtain ⟨s, hs, rfl⟩ := Option.map_eq_some_iff.1 hj
  have hjn : j < n := by rw [← hn]; exact (List.getElem?_eq_some_iff.1 hs).1
  obtain ⟨fuel', d, q, hdi, he⟩ := Lib.array_elem ht hd j hjn
  rw [List.getElem?_map, hs] at hdi
  cases hdi
  rw [hc] at he
  obtain ⟨s', e0, f0, _⟩ := DataW.trod_string Tryz.underlying9 he
  have hss : s' = s := by
    have := f0
    cases s'; cases s
    simp at this
    congr 1
    first | exact this.1 | exact this.1.symm | exact this.2 | exact this.2.symm
  subst hss
  rw [Nat.zero_add, World.var?_cell hg hvar j, ← Array.getElem?_toList]
  have := congrArg (fun l => l[0]?) e0
  simpa [List.getElem?_take, List.getElem?_drop] using this
theorem reads_at {W : World} (h : laidMetH Tryz.prog laidL W) {n : String} {d : DataW Unit} (k : Nat) (hk : laidQ[k]? = some (n, d)) : Lib.VarReads Tryz.prog W n d := by
  have h1 := (laid_two h).1
  have e : (laidL.filter fun x => x.2.handleName?.isNone) = laidQ := rfl
  rw [e] at h1
  exact Lib.laidMet.reads h1 (List.mem_of_getElem? hk)
theorem nm_laid : (Rows.laid_hearth_asm_names : DataW Unit) = .agg (((List.range 76).map nmS).map fun s => .lit (.string s.data.toList)) := by kernel_rfl
theorem im_laid : (Rows.laid_hearth_asm_immediates : DataW Unit) = .agg (((List.range 6).map imS).map fun s => .lit (.string s.data.toList)) := by kernel_rfl
theorem pow_laid : (Rows.laid_internal_strconv_uint64pow10 : DataW Unit) = Lib.tabData .u64 Lib.pow10Tab := by kernel_rfl
theorem first_laid : (Rows.laid_unicode_utf8_first : DataW Unit) = Lib.firstData := by kernel_rfl
theorem acc_laid : (Rows.laid_unicode_utf8_acceptRanges : DataW Unit) = Lib.acceptData := by kernel_rfl
theorem nt_of {W : World} (h : laidMetH Tryz.prog laidL W) : Nt W := by
  have h1 := reads_at h (n := "hearth/asm.names") 4 rfl
  have h2 := reads_at h (n := "hearth/asm.immediates") 5 rfl
  rw [nm_laid] at h1
  rw [im_laid] at h2
  have r1 := str_tab (g := 0) (t := 150) (n := 76) (by kernel_rfl) (by kernel_rfl) Tryz.underlying150 (by kernel_rfl) (by simp) h1
  have r2 := str_tab (g := 2) (t := 179) (n := 6) (by kernel_rfl) (by kernel_rfl) Tryz.underlying179 (by kernel_rfl) (by simp) h2
  rw [List.map_map] at r1 r2
  exact ⟨r1, r2⟩
theorem tpw_of {W : World} (h : laidMetH Tryz.prog laidL W) : Tpw W := by
  have h1 := reads_at h (n := "internal/strconv.uint64pow10") 2 rfl
  rw [pow_laid] at h1
  obtain ⟨g, t, cs, fuel, p, hg, hty, hvar, hd⟩ := h1
  obtain rfl := Option.some.inj (gPow.symm.trans hg)
  have tPow : (Tryz.prog.globals[4]?).map (·.type) = some 213 := by kernel_rfl
  obtain rfl := Option.some.inj (tPow.symm.trans hty)
  have hcs := Lib.cells_of_tab Tryz.underlying213 Tryz.underlying133 (by kernel_rfl) (by kernel_rfl) hd
  unfold Tpw Lib.TabIs
  rw [hvar]
  congr 1
  exact Array.toList_inj.1 (by rw [hcs])
theorem ut_of {W : World} (h : laidMetH Tryz.prog laidL W) : Lib.Utf8Tabs 5 6 W := by
  have h1 := reads_at h (n := "unicode/utf8.first") 6 rfl
  have h2 := reads_at h (n := "unicode/utf8.acceptRanges") 3 rfl
  rw [first_laid] at h1
  rw [acc_laid] at h2
  refine ⟨fun c hc => ?_, fun i hi => ?_⟩
  · obtain ⟨g, t, cs, fuel, p, hg, hty, hvar, hd⟩ := h1
    obtain rfl := Option.some.inj ((show Tryz.prog.globalNamed "unicode/utf8.first" = some 5 by kernel_rfl).symm.trans hg)
    obtain rfl := Option.some.inj ((show (Tryz.prog.globals[5]?).map (·.type) = some 227 by kernel_rfl).symm.trans hty)
    have hcs := Lib.cells_of_tab Tryz.underlying227 Tryz.underlying5 (by kernel_rfl) (by kernel_rfl) hd
    have := World.var?_cell hg hvar c
    rw [this, ← Array.getElem?_toList, hcs]
    simp [Lib.firstTab, hc]
  · obtain ⟨g, t, cs, fuel, p, hg, hty, hvar, hd⟩ := h2
    obtain rfl := Option.some.inj ((show Tryz.prog.globalNamed "unicode/utf8.acceptRanges" = some 6 by kernel_rfl).symm.trans hg)
    obtain rfl := Option.some.inj ((show (Tryz.prog.globals[6]?).map (·.type) = some 230 by kernel_rfl).symm.trans hty)
    obtain ⟨fuel', d, q, hdi, he⟩ := Lib.array_elem Tryz.underlying230 hd i hi
    simp only [List.getElem?_map, List.getElem?_range hi, Option.map_some, Option.some.injEq] at hdi
    subst hdi
    have c2 : Tryz.prog.cellsOf 229 = 2 := by kernel_rfl
    have c1 : Tryz.prog.cellsOf 5 = 1 := by kernel_rfl
    rw [c2] at he
    have hcs := Lib.ints_of_struct Tryz.underlying229 (fun j f hj => by
      match j, hj with
      | 0, hj => simp at hj; subst hj; exact ⟨Tryz.underlying5, rfl, c1⟩
      | 1, hj => simp at hj; subst hj; exact ⟨Tryz.underlying5, rfl, c1⟩
      | j + 2, hj => simp at hj) (by rw [c2]; rfl) he
    have e0 := congrArg (·[0]?) hcs
    have e1 := congrArg (·[1]?) hcs
    simp only [List.getElem?_take, List.getElem?_drop] at e0 e1
    constructor
    · rw [World.var?_cell hg hvar (2 * i), ← Array.getElem?_toList]
      simpa [Nat.mul_comm] using e0
    · rw [World.var?_cell hg hvar (2 * i + 1), ← Array.getElem?_toList]
      simpa [Nat.mul_comm] using e1
theorem ml_of {W : World} (h : W.ShapedOpen Tryz.prog) : ∃ m, W.cell? ⟨3, 0, none⟩ = some (.int .i64 m) :=
  cell_of_shapedOpen_int (t := 3) (zero := #[.int .i64 0]) h (of_decide_eq_true (by kernel_rfl)) (by kernel_rfl) rfl (by kernel_rfl) (by kernel_rfl) Tryz.underlying3
theorem ng_of {W : World} (h : laidMetH Tryz.prog laidL W) : 9 ≤ W.heap.size := by
  obtain ⟨g, t, cs, fuel, p, hg, hty, hvar, hd⟩ := reads_at h (n := "math/bits.deBruijn64tab") 1 rfl
  obtain rfl : 9 - 1 = g := Option.some.inj ((show Tryz.prog.globalNamed "math/bits.deBruijn64tab" = some (9 - 1) by kernel_rfl).symm.trans hg)
  unfold World.var? at hvar
  rw [hg] at hvar
  simp only [Option.bind_some] at hvar
  by_cases hb : 9 - 1 < W.heap.size
  · omega
  · rw [Array.getElem?_eq_none (by omega)] at hvar
    cases hvar
theorem gx_of {W : World} (h : laidMetH Tryz.prog laidL W) (hs : W.ShapedOpen Tryz.prog) : Gx W :=
  ⟨⟨ml_of hs, ut_of h⟩, nt_of h, ty_of (laid_two h).2, tpw_of h, ng_of h⟩
end Go.Proofs.YtcnjlbjpeklgkaaGreatDoor
namespace Go.Proofs.YtcnjlbjpeklgkaaGreatDoor
open Go.ChangeShapes Go.WideShapes Go.ChangeAt Go.RowKit
set_option linter.unusedVariables false
set_option linter.unusedSimpArgs false

theorem str_sz {P : Program} {w : World} {r : Reach} {b0 : Nat} {t : TypeId} {s : ByteArray} (ht : P.underlying t = some .string) (h : Value.okWide P w r b0 t (.string s)) : (s.size : Int) ≤ 9223372036854775807 := by
  have h2 : IntKind.i64.max = 9223372036854775807 := rfl
  simp only [Value.okWide, ht, Cell.okWide, Cell.ok] at h
  simp at h
  omega
theorem returns_both {H : Type} {enc : TypeId × Value → H} {a : Assume} {C : Checked} {os : Go.Os} {f : FuncId} {fn : Func} {s : ChangeSpec} {conds : List PathCond} {apart fresh handsOn again : Bool} {X : World → Array Value → Prop}
    (hX : ∀ (w w' : World) (args : Array Value), w.heap = w'.heap → X w args → X w' args)
    (own : ownKnob C.prog.godebug = none) (started : os.Started) (noInit : C.prog.inits.idxOf? f = none) (hfn : C.prog.funcs[f]? = some fn)
    (witness : ∃ (w : World) (tape : Tape) (i : Input), w.os = os ∧ (w.forCall tape i).Shaped C.prog ∧ i.vars = [] ∧ Input.okWide C.prog (w.forCall tape i) .any w.heap.size f i ∧
      ((s.pre enc C.prog fn conds apart (w.forCall tape i).memory i.args ∧ X (w.forCall tape i).memory i.args) ∧ sizedMet enc C.prog fn (OpenSpec.ofChange s) apart (w.forCall tape i).memory i.args) ∧ a.holds C.prog (lone (Frame.enter C.prog f i.args .normal) [] (w.forCall tape i)))
    (contract : ∀ (W : World) (base : Nat) (args : Array Value) (ds gs : List (DataW H)) (before : List MemPlace),
      (∀ (j : Nat) t v, fn.params[j]? = some t → args[j]? = some v → Value.okWide C.prog W .any base t v) →
      DataW.Whole enc C.prog fn.params.toList s.vars apart W args.toList ds gs before →
      conds.all (PathCond.test C.prog ⟨fn.params.toList, ds, s.plain.varTypes C.prog, gs⟩) = true →
      (DataW.weightsEach C.prog (fn.params.toList ++ s.plain.varTypes C.prog) (ds ++ gs)).all (· ≤ reachBytes) = true → X W args → W.ShapedOpen C.prog →
      a.holds C.prog (lone (Frame.enter C.prog f args .normal) [] W) →
      Calls C.prog f args W fun e W' => ∃ v, e = .returned v ∧ s.post enc C.prog fn apart fresh handsOn again W args v W') :
    ReturnsInHanded a C os f .any (fun w args => (s.pre enc C.prog fn conds apart w args ∧ X w args) ∧ sizedMet enc C.prog fn (OpenSpec.ofChange s) apart w args) (s.post enc C.prog fn apart fresh handsOn again) := by
  refine returnsInHanded_of_calls own started noInit witness ?_
  intro w tape i _ hsh _ hok hpre hholds
  obtain ⟨_, _, _, fn', hfn', _, _, _, _, hval⟩ := hok
  have e : fn' = fn := Option.some.inj (hfn'.symm.trans hfn)
  subst e
  obtain ⟨⟨⟨ds, gs, before, hw, hc⟩, hx⟩, hz⟩ := hpre
  have hw' := DataW.Whole.of_heap (w' := w.forCall tape i) (by rfl) hw
  refine (contract (w.forCall tape i) w.heap.size i.args ds gs before hval hw' hc (hz.weights hw) (hX _ _ _ (by rfl) hx) hsh hholds).mono fun e W' ⟨v, he, hp⟩ => ?_
  subst he
  exact ChangeSpec.post_blind hp
end Go.Proofs.YtcnjlbjpeklgkaaGreatDoor
