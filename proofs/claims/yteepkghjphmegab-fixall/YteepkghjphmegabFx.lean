import Derived.Test.YteepkghjphmegabRows
import Derived.WalkKit
import Derived.ProofKit
import Derived.OpenShut
import Derived.Laws.FloatArith
import Derived.Laws.Externs
namespace Go.Proofs.Yteepkghjphmegab
open Go.ChangeShapes Go.WideShapes Go.ChangeAt Go.RowKit
set_option linter.unusedVariables false
set_option linter.unusedSimpArgs false

theorem ret_int {k : IntKind} {a b : Int} (h : a = b) : Ending.returned (.int k a) = .returned (.int k b) := by rw [h]
theorem ret_bool {a b : Bool} (h : a = b) : Ending.returned (.bool a) = .returned (.bool b) := by rw [h]
theorem below_seq {a b c : World} (h : Below a.heap.size a b) (g : Below b.heap.size b c) : Below a.heap.size a c := h.trans (g.mono h.size)
theorem calls_rel {P : Program} {f : FuncId} {args : Array Value} {w w0 : World} {post : Ending → Prop} (h : Calls P f args w (fun e w' => post e ∧ Below w.heap.size w w')) (h0 : Below w0.heap.size w0 w) :
    Calls P f args w (fun e w' => post e ∧ Below w0.heap.size w0 w') := h.mono fun _ _ ⟨he, hb⟩ => ⟨he, below_seq h0 hb⟩

/-- the fixnum that differs from v by a multiple of 2^61 -/
def fwrap (v : Int) : Int := (v + 1152921504606846976) % 2305843009213693952 - 1152921504606846976
def fitsB (v : Int) : Bool := decide (-1152921504606846976 ≤ v ∧ v ≤ 1152921504606846975)
def quotV (a b : Int) : Int := if fwrap b = 0 then 0 else fwrap ((fwrap a).tdiv (fwrap b))
def remV (a b : Int) : Int := if fwrap b = 0 then 0 else (fwrap a).tmod (fwrap b)

theorem wrap_shift (v : Int) : wrap64 (v * 8) / 8 = fwrap v := by unfold wrap64 fwrap; omega
theorem fwrap_wrap64 (v : Int) : fwrap (wrap64 v) = fwrap v := by unfold wrap64 fwrap; omega
theorem fwrap_bounds (v : Int) : -1152921504606846976 ≤ fwrap v ∧ fwrap v ≤ 1152921504606846975 := by unfold fwrap; omega

theorem fixWrap_any (v : Int) (w : World) :
    Calls Try.prog 17 #[.int .i64 v] w fun e w' => e = .returned (.int .i64 (fwrap v)) ∧ w' = w := by
  go_enter Try.func17, Try.ntmps17
  go_wp2
  go_ret
  exact ⟨ret_int (wrap_shift v), rfl⟩

theorem fixFits_any (v : Int) (w : World) :
    Calls Try.prog 18 #[.int .i64 v] w fun e w' => e = .returned (.bool (fitsB v)) ∧ w' = w := by
  go_enter Try.func18, Try.ntmps18
  go_wp2
  all_goals go_ret
  all_goals refine ⟨ret_bool ?_, rfl⟩
  all_goals (unfold fitsB; rw [Bool.eq_iff_iff]; simp; try omega)

theorem fixAdd_any (a b : Int) (w : World) :
    Calls Try.prog 14 #[.int .i64 a, .int .i64 b] w fun e w' => e = .returned (.int .i64 (fwrap (a + b))) ∧ w' = w := by
  go_enter Try.func14, Try.ntmps14
  go_wp2_with (go_at_call 17; refine (fixWrap_any _ _).mono ?_; rintro e w' ⟨rfl, rfl⟩)
  go_ret
  exact ⟨ret_int (fwrap_wrap64 _), rfl⟩

theorem fixSub_any (a b : Int) (w : World) :
    Calls Try.prog 16 #[.int .i64 a, .int .i64 b] w fun e w' => e = .returned (.int .i64 (fwrap (a - b))) ∧ w' = w := by
  go_enter Try.func16, Try.ntmps16
  go_wp2_with (go_at_call 17; refine (fixWrap_any _ _).mono ?_; rintro e w' ⟨rfl, rfl⟩)
  go_ret
  exact ⟨ret_int (fwrap_wrap64 _), rfl⟩

theorem fixMul_any (a b : Int) (w : World) :
    Calls Try.prog 15 #[.int .i64 a, .int .i64 b] w fun e w' => e = .returned (.int .i64 (fwrap (a * b))) ∧ w' = w := by
  go_enter Try.func15, Try.ntmps15
  go_wp2_with (go_at_call 17; refine (fixWrap_any _ _).mono ?_; rintro e w' ⟨rfl, rfl⟩)
  go_ret
  exact ⟨ret_int (fwrap_wrap64 _), rfl⟩

theorem fixQuot_any (a b : Int) (w : World) :
    Calls Try.prog 19 #[.int .i64 a, .int .i64 b] w fun e w' => e = .returned (.int .i64 (quotV a b)) ∧ w' = w := by
  have ha := fwrap_bounds a
  have hb := fwrap_bounds b
  have hq : wrap64 ((fwrap a).tdiv (fwrap b)) = (fwrap a).tdiv (fwrap b) → True := fun _ => trivial
  clear hq
  by_cases h : fwrap b = 0
  · go_enter Try.func19, Try.ntmps19
    go_wp2_with (go_at_call 17; refine (fixWrap_any _ _).mono ?_; rintro e w' ⟨rfl, rfl⟩)
    go_ret
    exact ⟨ret_int (by unfold quotV; rw [if_pos h]), rfl⟩
  · have h0 : (fwrap b == 0) = false := by simpa using h
    have h1 : (0 == fwrap b) = false := by simp; omega
    go_enter Try.func19, Try.ntmps19
    go_wp2_with (go_at_call 17; refine (fixWrap_any _ _).mono ?_; rintro e w' ⟨rfl, rfl⟩)
    go_ret
    refine ⟨ret_int ?_, rfl⟩
    unfold quotV; rw [if_neg h]
    first | rfl | exact fwrap_wrap64 _
theorem fixRem_any (a b : Int) (w : World) :
    Calls Try.prog 20 #[.int .i64 a, .int .i64 b] w fun e w' => e = .returned (.int .i64 (remV a b)) ∧ w' = w := by
  have ha := fwrap_bounds a
  have hb := fwrap_bounds b
  by_cases h : fwrap b = 0
  · go_enter Try.func20, Try.ntmps20
    go_wp2_with (go_at_call 17; refine (fixWrap_any _ _).mono ?_; rintro e w' ⟨rfl, rfl⟩)
    go_ret
    exact ⟨ret_int (by unfold remV; rw [if_pos h]), rfl⟩
  · have h0 : (fwrap b == 0) = false := by simpa using h
    have h1 : (0 == fwrap b) = false := by simp; omega
    go_enter Try.func20, Try.ntmps20
    go_wp2_with (go_at_call 17; refine (fixWrap_any _ _).mono ?_; rintro e w' ⟨rfl, rfl⟩)
    go_ret
    refine ⟨ret_int ?_, rfl⟩
    unfold remV; rw [if_neg h]

/-! floats -/
def pat (v : Int) : Nat := (IntKind.u64.wrap v).toNat
def noNum : Int := 9221120237041090561
def bitsOf (n : Nat) : Int := if (FloatKind.f64.format.order n n != some Ordering.eq) = true then noNum else wrap64 n
def floR (op : BinOp) (a b : Int) : Int :=
  match floatBits op .f64 (pat a) (pat b) with
  | some r => bitsOf r
  | none => noNum
def lessB (a b : Int) : Bool := FloatKind.f64.format.order (pat a) (pat b) == some Ordering.lt

theorem frombits_run (v : Int) (w : World) : (callFunc 61 #[.int .u64 v]).run Try.prog w = .ok (.value (.float .f64 v.toNat)) w := by
  rw [run_callFunc_extern (e := Extern.MathFloatBits.float64frombits) Try.func61 (by kernel_rfl) (by kernel_rfl) (by kernel_rfl) (by kernel_rfl)]
  rfl
theorem tobits_run (v : Nat) (w : World) : (callFunc 39 #[.float .f64 v]).run Try.prog w = .ok (.value (.int .u64 v)) w := by
  rw [run_callFunc_extern (e := Extern.MathFloatBits.float64bits) Try.func39 (by kernel_rfl) (by kernel_rfl) (by kernel_rfl) (by kernel_rfl)]
  rfl

theorem fixFloat_any (v : Int) (w : World) :
    Calls Try.prog 37 #[.int .i64 v] w fun e w' => e = .returned (.float .f64 (pat v)) ∧ w' = w := by
  have hd := fun v w => frombits_run v w
  go_enter Try.func37, Try.ntmps37
  go_wp2
  go_ret
  exact ⟨rfl, rfl⟩

theorem isNaN_any (v : Nat) (w : World) :
    Calls Try.prog 38 #[.float .f64 v] w fun e w' => e = .returned (.bool (FloatKind.f64.format.order v v != some Ordering.eq)) ∧ w' = w := by
  go_enter Try.func38, Try.ntmps38
  go_wp2
  go_ret
  exact ⟨rfl, rfl⟩

theorem fixBits_any (v : Nat) (w : World) :
    Calls Try.prog 24 #[.float .f64 v] w fun e w' => e = .returned (.int .i64 (bitsOf v)) ∧ w' = w := by
  have hd := fun v w => tobits_run v w
  by_cases h : (FloatKind.f64.format.order v v != some Ordering.eq) = true
  · go_enter Try.func24, Try.ntmps24
    go_wp2_with (go_at_call 38; refine (isNaN_any _ _).mono ?_; rintro e w' ⟨rfl, rfl⟩)
    go_ret
    exact ⟨ret_int (by unfold bitsOf; rw [if_pos h]; rfl), rfl⟩
  · have h' := Bool.eq_false_iff.mpr h
    clear h
    go_enter Try.func24, Try.ntmps24
    go_wp2_with (first | (go_at_call 38; refine (isNaN_any _ _).mono ?_; rintro e w' ⟨rfl, rfl⟩) | go_in)
    go_ret
    exact ⟨ret_int (by unfold bitsOf; rw [if_neg (by rw [h']; exact Bool.false_ne_true)]), rfl⟩

/-! ### reckoning with floats -/
theorem order_nan {n : Nat} {s : Bool} {t : Nat} (h : FloatKind.f64.format.read n = .nan s t) : FloatKind.f64.format.order n n = none := by
  unfold Ieee.Format.order; rw [h]; rfl
theorem bitsOf_nan {n : Nat} {s : Bool} {t : Nat} (h : FloatKind.f64.format.read n = .nan s t) : bitsOf n = noNum := by
  unfold bitsOf; rw [order_nan h]; rfl
theorem read_nan (s k : Nat) (hs : s < 2) (hk : k < 4503599627370495) :
    ∃ b t, FloatKind.f64.format.read (s * 9223372036854775808 + 9218868437227405312 + 1 + k) = .nan b t := by
  refine ⟨(s * 9223372036854775808 + 9218868437227405312 + 1 + k) / 9223372036854775808 % 2 == 1, (9218868437227405312 + 1 + k) - 9218868437227405312, ?_⟩
  have e : (s * 9223372036854775808 + 9218868437227405312 + 1 + k) % 9223372036854775808 = 9218868437227405312 + 1 + k := by omega
  have e1 : FloatKind.f64.format.signWeight = 9223372036854775808 := by decide
  have e2 : FloatKind.f64.format.infRung = 9218868437227405312 := by decide
  have e3 : FloatKind.f64.format.binade = 4503599627370496 := by decide
  unfold Ieee.Format.read
  simp only [e1, e2, e3, e]
  rw [if_neg (by omega), if_neg (by omega), if_neg (by omega)]
theorem run_float_nan {P : Program} (op : BinOp) (t : TypeId) (x y : Nat) (w : World) (ho : op = .add ∨ op = .sub ∨ op = .mul ∨ op = .quo) (h : floatBits op .f64 x y = none) :
    ∃ n, bitsOf n = noNum ∧ (binOp op t (.float .f64 x) (.float .f64 y)).run P w = .ok (.float .f64 n) w.drew := by
  obtain ⟨b, u, hr⟩ := read_nan ((w.tape w.drawn (.nanBits .f64 x y)) % 2) ((w.tape w.drawn (.nanBits .f64 x y)) / 2 % 4503599627370495) (by omega) (by omega)
  refine ⟨_, bitsOf_nan hr, ?_⟩
  unfold floatBits at h
  rcases ho with rfl | rfl | rfl | rfl <;> simp only at h <;> simp [binOp, Op.floatArith, h, Question.forced, Question.cut]

theorem fixFloAdd_any (a b : Int) (w : World) :
    Calls Try.prog 23 #[.int .i64 a, .int .i64 b] w fun e w' => e = .returned (.int .i64 (floR .add a b)) ∧ Below w.heap.size w w' := by
  cases h : floatBits .add .f64 (pat a) (pat b) with
  | some r =>
    have hr := fun t => run_float_arith (P := Try.prog) w .add t .f64 (pat a) (pat b) r h
    have H : Hid (floatBits .add .f64 (pat a) (pat b) = some r) := h
    clear h
    go_enter Try.func23, Try.ntmps23
    go_wp2_with (first | (go_at_call 37; refine (fixFloat_any _ _).mono ?_; rintro e w' ⟨rfl, rfl⟩) | (go_at_call 24; refine (fixBits_any _ _).mono ?_; rintro e w' ⟨rfl, rfl⟩))
    go_ret
    exact ⟨ret_int (by unfold floR; rw [H.out]), Below.refl _ _⟩
  | none =>
    obtain ⟨n, hn, hr⟩ : ∃ n, bitsOf n = noNum ∧ ∀ t, (binOp .add t (.float .f64 (pat a)) (.float .f64 (pat b))).run Try.prog w = .ok (.float .f64 n) w.drew := by
      obtain ⟨n, hn, hr⟩ := run_float_nan (P := Try.prog) .add 0 (pat a) (pat b) w (by simp) h
      exact ⟨n, hn, fun t => hr⟩
    have H : Hid (floatBits .add .f64 (pat a) (pat b) = none) := h
    have N : Hid (bitsOf n = noNum) := hn
    clear h hn
    go_enter Try.func23, Try.ntmps23
    go_wp2_with (first | (go_at_call 37; refine (fixFloat_any _ _).mono ?_; rintro e w' ⟨rfl, rfl⟩) | (go_at_call 24; refine (fixBits_any _ _).mono ?_; rintro e w' ⟨rfl, rfl⟩))
    go_ret
    exact ⟨ret_int (by unfold floR; rw [H.out]; exact N.out), (Below.refl _ _).drew⟩

theorem fixFloSub_any (a b : Int) (w : World) :
    Calls Try.prog 54 #[.int .i64 a, .int .i64 b] w fun e w' => e = .returned (.int .i64 (floR .sub a b)) ∧ Below w.heap.size w w' := by
  cases h : floatBits .sub .f64 (pat a) (pat b) with
  | some r =>
    have hr := fun t => run_float_arith (P := Try.prog) w .sub t .f64 (pat a) (pat b) r h
    have H : Hid (floatBits .sub .f64 (pat a) (pat b) = some r) := h
    clear h
    go_enter Try.func54, Try.ntmps54
    go_wp2_with (first | (go_at_call 37; refine (fixFloat_any _ _).mono ?_; rintro e w' ⟨rfl, rfl⟩) | (go_at_call 24; refine (fixBits_any _ _).mono ?_; rintro e w' ⟨rfl, rfl⟩))
    go_ret
    exact ⟨ret_int (by unfold floR; rw [H.out]), Below.refl _ _⟩
  | none =>
    obtain ⟨n, hn, hr⟩ : ∃ n, bitsOf n = noNum ∧ ∀ t, (binOp .sub t (.float .f64 (pat a)) (.float .f64 (pat b))).run Try.prog w = .ok (.float .f64 n) w.drew := by
      obtain ⟨n, hn, hr⟩ := run_float_nan (P := Try.prog) .sub 0 (pat a) (pat b) w (by simp) h
      exact ⟨n, hn, fun t => hr⟩
    have H : Hid (floatBits .sub .f64 (pat a) (pat b) = none) := h
    have N : Hid (bitsOf n = noNum) := hn
    clear h hn
    go_enter Try.func54, Try.ntmps54
    go_wp2_with (first | (go_at_call 37; refine (fixFloat_any _ _).mono ?_; rintro e w' ⟨rfl, rfl⟩) | (go_at_call 24; refine (fixBits_any _ _).mono ?_; rintro e w' ⟨rfl, rfl⟩))
    go_ret
    exact ⟨ret_int (by unfold floR; rw [H.out]; exact N.out), (Below.refl _ _).drew⟩

theorem fixFloMul_any (a b : Int) (w : World) :
    Calls Try.prog 56 #[.int .i64 a, .int .i64 b] w fun e w' => e = .returned (.int .i64 (floR .mul a b)) ∧ Below w.heap.size w w' := by
  cases h : floatBits .mul .f64 (pat a) (pat b) with
  | some r =>
    have hr := fun t => run_float_arith (P := Try.prog) w .mul t .f64 (pat a) (pat b) r h
    have H : Hid (floatBits .mul .f64 (pat a) (pat b) = some r) := h
    clear h
    go_enter Try.func56, Try.ntmps56
    go_wp2_with (first | (go_at_call 37; refine (fixFloat_any _ _).mono ?_; rintro e w' ⟨rfl, rfl⟩) | (go_at_call 24; refine (fixBits_any _ _).mono ?_; rintro e w' ⟨rfl, rfl⟩))
    go_ret
    exact ⟨ret_int (by unfold floR; rw [H.out]), Below.refl _ _⟩
  | none =>
    obtain ⟨n, hn, hr⟩ : ∃ n, bitsOf n = noNum ∧ ∀ t, (binOp .mul t (.float .f64 (pat a)) (.float .f64 (pat b))).run Try.prog w = .ok (.float .f64 n) w.drew := by
      obtain ⟨n, hn, hr⟩ := run_float_nan (P := Try.prog) .mul 0 (pat a) (pat b) w (by simp) h
      exact ⟨n, hn, fun t => hr⟩
    have H : Hid (floatBits .mul .f64 (pat a) (pat b) = none) := h
    have N : Hid (bitsOf n = noNum) := hn
    clear h hn
    go_enter Try.func56, Try.ntmps56
    go_wp2_with (first | (go_at_call 37; refine (fixFloat_any _ _).mono ?_; rintro e w' ⟨rfl, rfl⟩) | (go_at_call 24; refine (fixBits_any _ _).mono ?_; rintro e w' ⟨rfl, rfl⟩))
    go_ret
    exact ⟨ret_int (by unfold floR; rw [H.out]; exact N.out), (Below.refl _ _).drew⟩

theorem fixFloDiv_any (a b : Int) (w : World) :
    Calls Try.prog 58 #[.int .i64 a, .int .i64 b] w fun e w' => e = .returned (.int .i64 (floR .quo a b)) ∧ Below w.heap.size w w' := by
  cases h : floatBits .quo .f64 (pat a) (pat b) with
  | some r =>
    have hr := fun t => run_float_arith (P := Try.prog) w .quo t .f64 (pat a) (pat b) r h
    have H : Hid (floatBits .quo .f64 (pat a) (pat b) = some r) := h
    clear h
    go_enter Try.func58, Try.ntmps58
    go_wp2_with (first | (go_at_call 37; refine (fixFloat_any _ _).mono ?_; rintro e w' ⟨rfl, rfl⟩) | (go_at_call 24; refine (fixBits_any _ _).mono ?_; rintro e w' ⟨rfl, rfl⟩))
    go_ret
    exact ⟨ret_int (by unfold floR; rw [H.out]), Below.refl _ _⟩
  | none =>
    obtain ⟨n, hn, hr⟩ : ∃ n, bitsOf n = noNum ∧ ∀ t, (binOp .quo t (.float .f64 (pat a)) (.float .f64 (pat b))).run Try.prog w = .ok (.float .f64 n) w.drew := by
      obtain ⟨n, hn, hr⟩ := run_float_nan (P := Try.prog) .quo 0 (pat a) (pat b) w (by simp) h
      exact ⟨n, hn, fun t => hr⟩
    have H : Hid (floatBits .quo .f64 (pat a) (pat b) = none) := h
    have N : Hid (bitsOf n = noNum) := hn
    clear h hn
    go_enter Try.func58, Try.ntmps58
    go_wp2_with (first | (go_at_call 37; refine (fixFloat_any _ _).mono ?_; rintro e w' ⟨rfl, rfl⟩) | (go_at_call 24; refine (fixBits_any _ _).mono ?_; rintro e w' ⟨rfl, rfl⟩))
    go_ret
    exact ⟨ret_int (by unfold floR; rw [H.out]; exact N.out), (Below.refl _ _).drew⟩

theorem fixFloLess_any (a b : Int) (w : World) :
    Calls Try.prog 21 #[.int .i64 a, .int .i64 b] w fun e w' => e = .returned (.bool (lessB a b)) ∧ w' = w := by
  go_enter Try.func21, Try.ntmps21
  go_wp2_with (go_at_call 37; refine (fixFloat_any _ _).mono ?_; rintro e w' ⟨rfl, rfl⟩)
  go_ret
  exact ⟨rfl, rfl⟩

theorem alive_add : fwrap (1152921504606846975 + 1) = -1152921504606846976 := by decide
theorem alive_mul : fwrap (3 * 5) = 15 := by decide
theorem alive_flo : floR .add 4607182418800017408 4611686018427387904 = 4613937818241073152 := by decide +kernel
theorem alive_any (w : World) : Calls Try.prog 9 #[] w fun e w' => e = .returned (.bool true) ∧ Below w.heap.size w w' := by
  have h1 := alive_add
  have h2 := alive_mul
  have h3 := alive_flo
  go_enter Try.func9, Try.ntmps9
  go_wp2_with (first | (go_at_call 14; refine (fixAdd_any _ _ _).mono ?_; rintro e w' ⟨rfl, rfl⟩) | (go_at_call 15; refine (fixMul_any _ _ _).mono ?_; rintro e w' ⟨rfl, rfl⟩) | (go_at_call 23; refine (fixFloAdd_any _ _ _).mono ?_; rintro e w1 ⟨rfl, hg⟩))
  go_ret
  exact ⟨rfl, by assumption⟩

end Go.Proofs.Yteepkghjphmegab
