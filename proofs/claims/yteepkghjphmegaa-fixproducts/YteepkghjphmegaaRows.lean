/-
  No cell of these rows narrows 'for every input' (looked for: loops, veiled, ifaces, maps, wideKeys, modest, calm, conditions, laid).
  DERIVED. THE GIVEN ROWS OF THIS SEAT. 6 by the template 'for every input the law returns true; each argument reads behind the call as it read before'; 0 by the template 'total and deterministic' (their statements: YteepkghjphmegaaTotals.lean).
  GIVEN WITH THE SEED: the statements are not yours to turn. If you find one false, say at which input.
  Laid BY PROGRAM, IN A SANDBOX (cutbox-rows.mjs): the forced cells as the released guide's own fill.sh prints them over the translation 33967cb8b8509f60… (all of the seat's roots in one cut). By AI agents, Wed Nov 11 2026. No macro, syntax, notation, axiom, sorry.
-/
import Derived.Test.YteepkghjphmegaaChecked
import GoSem.Claim
import GoSem.ClaimJoined
import GoSem.ClaimMapViews
import Derived.JoinedTies
import Derived.KernelRfl
namespace Go.Proofs.Yteepkghjphmegaa
/- THE CELL 'sum', in the pinned program and in every row, IS THE sha256 OF THE DUMP (.gsa) THAT YteepkghjphmegaaProg.lean LOADS. Nothing in Lean hashes anything: it is a label: what it is worth is what the hold of that sum in a sandbox is worth. -/
noncomputable def Try.pinned : Pinned := { name := "yteepkghjphmegaa", sum := "33967cb8b8509f60d747937fbc4e9f4f137fab126b4628c68622e289b927aaec", checked := Try.checked }
namespace Rows
def none {H : Type} : Left H := { results := [], args := [] }

/-- 'hearthlaw1.FixWraps': WHATEVER THE INPUT: true; the input reads as it did. -/
def fixWrapsSpec : ChangeSpec := { name := "fixWraps", fn := fun _ => fun
  | [d] => { results := [.lit (.bool true)], args := [d] }
  | _ => none }
def fixWrapsRow : OpenClaim := { program := "yteepkghjphmegaa", sum := "33967cb8b8509f60d747937fbc4e9f4f137fab126b4628c68622e289b927aaec", func := "hearth/hearthlaw1.FixWraps", spec := "fixWraps", inPlace := ["math.Float64frombits", "math.Float64bits"], apart := false }
def FixWrapsSaid : Prop := fixWrapsRow.holds Try.pinned (OpenSpec.ofChange fixWrapsSpec)

/-- ITS FALSE NEIGHBOUR: 'it returns false'. Refute it at one input. -/
def fixWrapsWrong : ChangeSpec := { name := "fixWraps", fn := fun _ => fun
  | [d] => { results := [.lit (.bool false)], args := [d] }
  | _ => none }
def FixWrapsWrongFalsely : Prop := fixWrapsRow.holds Try.pinned (OpenSpec.ofChange fixWrapsWrong)

/-- 'hearthlaw1.FixWhole': WHATEVER THE INPUT: true; the input reads as it did. -/
def fixWholeSpec : ChangeSpec := { name := "fixWhole", fn := fun _ => fun
  | [d1, d2] => { results := [.lit (.bool true)], args := [d1, d2] }
  | _ => none }
def fixWholeRow : OpenClaim := { program := "yteepkghjphmegaa", sum := "33967cb8b8509f60d747937fbc4e9f4f137fab126b4628c68622e289b927aaec", func := "hearth/hearthlaw1.FixWhole", spec := "fixWhole", inPlace := ["math.Float64frombits", "math.Float64bits"], apart := false }
def FixWholeSaid : Prop := fixWholeRow.holds Try.pinned (OpenSpec.ofChange fixWholeSpec)

/-- ITS FALSE NEIGHBOUR: 'it returns false'. Refute it at one input. -/
def fixWholeWrong : ChangeSpec := { name := "fixWhole", fn := fun _ => fun
  | [d1, d2] => { results := [.lit (.bool false)], args := [d1, d2] }
  | _ => none }
def FixWholeWrongFalsely : Prop := fixWholeRow.holds Try.pinned (OpenSpec.ofChange fixWholeWrong)

/-- 'hearthlaw1.FixBits': WHATEVER THE INPUT: true; the input reads as it did. -/
def fixBitsSpec : ChangeSpec := { name := "fixBits", fn := fun _ => fun
  | [d] => { results := [.lit (.bool true)], args := [d] }
  | _ => none }
def fixBitsRow : OpenClaim := { program := "yteepkghjphmegaa", sum := "33967cb8b8509f60d747937fbc4e9f4f137fab126b4628c68622e289b927aaec", func := "hearth/hearthlaw1.FixBits", spec := "fixBits", inPlace := ["math.Float64frombits", "math.Float64bits"], apart := false }
def FixBitsSaid : Prop := fixBitsRow.holds Try.pinned (OpenSpec.ofChange fixBitsSpec)

/-- ITS FALSE NEIGHBOUR: 'it returns false'. Refute it at one input. -/
def fixBitsWrong : ChangeSpec := { name := "fixBits", fn := fun _ => fun
  | [d] => { results := [.lit (.bool false)], args := [d] }
  | _ => none }
def FixBitsWrongFalsely : Prop := fixBitsRow.holds Try.pinned (OpenSpec.ofChange fixBitsWrong)

/-- 'hearthlaw1.FixSums': WHATEVER THE INPUT: true; the input reads as it did. -/
def fixSumsSpec : ChangeSpec := { name := "fixSums", fn := fun _ => fun
  | [d1, d2] => { results := [.lit (.bool true)], args := [d1, d2] }
  | _ => none }
def fixSumsRow : OpenClaim := { program := "yteepkghjphmegaa", sum := "33967cb8b8509f60d747937fbc4e9f4f137fab126b4628c68622e289b927aaec", func := "hearth/hearthlaw1.FixSums", spec := "fixSums", inPlace := ["math.Float64frombits", "math.Float64bits"], apart := false }
def FixSumsSaid : Prop := fixSumsRow.holds Try.pinned (OpenSpec.ofChange fixSumsSpec)

/-- ITS FALSE NEIGHBOUR: 'it returns false'. Refute it at one input. -/
def fixSumsWrong : ChangeSpec := { name := "fixSums", fn := fun _ => fun
  | [d1, d2] => { results := [.lit (.bool false)], args := [d1, d2] }
  | _ => none }
def FixSumsWrongFalsely : Prop := fixSumsRow.holds Try.pinned (OpenSpec.ofChange fixSumsWrong)

/-- 'hearthlaw1.FixProducts': WHATEVER THE INPUT: true; the input reads as it did. -/
def fixProductsSpec : ChangeSpec := { name := "fixProducts", fn := fun _ => fun
  | [d1, d2] => { results := [.lit (.bool true)], args := [d1, d2] }
  | _ => none }
def fixProductsRow : OpenClaim := { program := "yteepkghjphmegaa", sum := "33967cb8b8509f60d747937fbc4e9f4f137fab126b4628c68622e289b927aaec", func := "hearth/hearthlaw1.FixProducts", spec := "fixProducts", inPlace := ["math.Float64frombits", "math.Float64bits"], apart := false }
def FixProductsSaid : Prop := fixProductsRow.holds Try.pinned (OpenSpec.ofChange fixProductsSpec)

/-- ITS FALSE NEIGHBOUR: 'it returns false'. Refute it at one input. -/
def fixProductsWrong : ChangeSpec := { name := "fixProducts", fn := fun _ => fun
  | [d1, d2] => { results := [.lit (.bool false)], args := [d1, d2] }
  | _ => none }
def FixProductsWrongFalsely : Prop := fixProductsRow.holds Try.pinned (OpenSpec.ofChange fixProductsWrong)

/-- 'hearthlaw1.FixLess': WHATEVER THE INPUT: true; the input reads as it did. -/
def fixLessSpec : ChangeSpec := { name := "fixLess", fn := fun _ => fun
  | [d1, d2] => { results := [.lit (.bool true)], args := [d1, d2] }
  | _ => none }
def fixLessRow : OpenClaim := { program := "yteepkghjphmegaa", sum := "33967cb8b8509f60d747937fbc4e9f4f137fab126b4628c68622e289b927aaec", func := "hearth/hearthlaw1.FixLess", spec := "fixLess", inPlace := ["math.Float64frombits", "math.Float64bits"], apart := false }
def FixLessSaid : Prop := fixLessRow.holds Try.pinned (OpenSpec.ofChange fixLessSpec)

/-- ITS FALSE NEIGHBOUR: 'it returns false'. Refute it at one input. -/
def fixLessWrong : ChangeSpec := { name := "fixLess", fn := fun _ => fun
  | [d1, d2] => { results := [.lit (.bool false)], args := [d1, d2] }
  | _ => none }
def FixLessWrongFalsely : Prop := fixLessRow.holds Try.pinned (OpenSpec.ofChange fixLessWrong)

/- THE SECOND FORM. 'bulk': how many values and letters a reading holds, each counted each time it is reached (what is shared counts as often as it is met; a slice's spare places count too). A statement '..UptoSaid' is the law's where the arguments, and the package variables that the reading takes, are together of bulk at most 1048576: NARROWER than '..Said'. Prove '..Said' where nothing that the law and all that it calls make is longer than what came in: it says more and counts as full. Else prove '..UptoSaid'. A law counts once. -/
mutual
def uptoBulk {H : Type} : DataW H → Nat
  | .lit (.string bytes) => bytes.length + 1
  | .lit _ => 1
  | .nil => 1
  | .ptr d => uptoBulk d + 1
  | .slice elems spare => uptoBulkAll elems + uptoBulkAll spare + 1
  | .agg parts => uptoBulkAll parts + 1
  | .iface _ d => uptoBulk d + 1
  | .map entries => uptoBulkEntries entries + 1
  | .held _ => 1
def uptoBulkAll {H : Type} : List (DataW H) → Nat
  | [] => 0
  | d :: r => uptoBulk d + uptoBulkAll r
def uptoBulkEntries {H : Type} : List (Lit × DataW H) → Nat
  | [] => 0
  | x :: r => uptoBulkEntry x + uptoBulkEntries r
def uptoBulkEntry {H : Type} : Lit × DataW H → Nat
  | (.string bytes, d) => bytes.length + uptoBulk d + 1
  | (_, d) => uptoBulk d + 1
 end
def uptoSmall : (H : Type) → List (DataW H) → Bool := fun _ ds => decide (uptoBulkAll ds ≤ 1048576)
def OpenSpec.upto (s : _root_.Go.ChangeSpec) : _root_.Go.OpenSpec := { _root_.Go.OpenSpec.ofChange s with cond := some uptoSmall }

/-- 'hearthlaw1.FixWraps', WHERE WHAT IT READS IS OF BULK AT MOST 1048576: true; the input reads as it did. -/
def fixWrapsUptoRow : OpenClaim := { program := "yteepkghjphmegaa", sum := "33967cb8b8509f60d747937fbc4e9f4f137fab126b4628c68622e289b927aaec", func := "hearth/hearthlaw1.FixWraps", spec := "fixWraps", inPlace := ["math.Float64frombits", "math.Float64bits"], apart := false, narrowed := true }
def FixWrapsUptoSaid : Prop := fixWrapsUptoRow.holds Try.pinned (OpenSpec.upto fixWrapsSpec)

/-- 'hearthlaw1.FixWhole', WHERE WHAT IT READS IS OF BULK AT MOST 1048576: true; the input reads as it did. -/
def fixWholeUptoRow : OpenClaim := { program := "yteepkghjphmegaa", sum := "33967cb8b8509f60d747937fbc4e9f4f137fab126b4628c68622e289b927aaec", func := "hearth/hearthlaw1.FixWhole", spec := "fixWhole", inPlace := ["math.Float64frombits", "math.Float64bits"], apart := false, narrowed := true }
def FixWholeUptoSaid : Prop := fixWholeUptoRow.holds Try.pinned (OpenSpec.upto fixWholeSpec)

/-- 'hearthlaw1.FixBits', WHERE WHAT IT READS IS OF BULK AT MOST 1048576: true; the input reads as it did. -/
def fixBitsUptoRow : OpenClaim := { program := "yteepkghjphmegaa", sum := "33967cb8b8509f60d747937fbc4e9f4f137fab126b4628c68622e289b927aaec", func := "hearth/hearthlaw1.FixBits", spec := "fixBits", inPlace := ["math.Float64frombits", "math.Float64bits"], apart := false, narrowed := true }
def FixBitsUptoSaid : Prop := fixBitsUptoRow.holds Try.pinned (OpenSpec.upto fixBitsSpec)

/-- 'hearthlaw1.FixSums', WHERE WHAT IT READS IS OF BULK AT MOST 1048576: true; the input reads as it did. -/
def fixSumsUptoRow : OpenClaim := { program := "yteepkghjphmegaa", sum := "33967cb8b8509f60d747937fbc4e9f4f137fab126b4628c68622e289b927aaec", func := "hearth/hearthlaw1.FixSums", spec := "fixSums", inPlace := ["math.Float64frombits", "math.Float64bits"], apart := false, narrowed := true }
def FixSumsUptoSaid : Prop := fixSumsUptoRow.holds Try.pinned (OpenSpec.upto fixSumsSpec)

/-- 'hearthlaw1.FixProducts', WHERE WHAT IT READS IS OF BULK AT MOST 1048576: true; the input reads as it did. -/
def fixProductsUptoRow : OpenClaim := { program := "yteepkghjphmegaa", sum := "33967cb8b8509f60d747937fbc4e9f4f137fab126b4628c68622e289b927aaec", func := "hearth/hearthlaw1.FixProducts", spec := "fixProducts", inPlace := ["math.Float64frombits", "math.Float64bits"], apart := false, narrowed := true }
def FixProductsUptoSaid : Prop := fixProductsUptoRow.holds Try.pinned (OpenSpec.upto fixProductsSpec)

/-- 'hearthlaw1.FixLess', WHERE WHAT IT READS IS OF BULK AT MOST 1048576: true; the input reads as it did. -/
def fixLessUptoRow : OpenClaim := { program := "yteepkghjphmegaa", sum := "33967cb8b8509f60d747937fbc4e9f4f137fab126b4628c68622e289b927aaec", func := "hearth/hearthlaw1.FixLess", spec := "fixLess", inPlace := ["math.Float64frombits", "math.Float64bits"], apart := false, narrowed := true }
def FixLessUptoSaid : Prop := fixLessUptoRow.holds Try.pinned (OpenSpec.upto fixLessSpec)

end Rows
end Go.Proofs.Yteepkghjphmegaa
