/- branches, in short -/
import Derived.Test.YtmfnkhonghemeaaDoorTk
namespace Go.Proofs.YtmfnkhonghemeaaDoor
open Go.RowKit
set_option linter.unusedVariables false
set_option linter.unusedSimpArgs false

/-- one of 1 comes up -/
theorem rd1 (i : Nat) {P : Program} {md : Region.Mode} {ops : Array Oper} {Q : Exit → Act → World → Prop} {S : World → Prop} {fuel : Nat} {listed : Array Bool} {a a' : Act} {w : World} {li : Array Bool} {oi : Oper}
    (hi : ∀ K' : Act → World → Prop, Shut (∀ a w, S w → (S w → wpAnyH P md ops Q S fuel li a w) → K' a w) → if Region.wanted oi (yielded ops a'.tmps) = true then Oper.wp P oi a' w K' Q else K' (a'.put oi.dst undef) w)
    (hr : Region.ready md ops listed = [i] := by kernel_rfl) (qi : ops[i]? = some oi := by exact rfl)
    (pi : listed.setIfInBounds i true = li := by (try simp only [List.setIfInBounds_toArray, List.set_cons_zero, List.set_cons_succ]); exact rfl)
    (ha : a = a' := by (try simp only [Act.put, xa, xb, xc, xd, xe, xf]); exact rfl) : wpAnyH P md ops Q S (fuel + 1) listed a w := by
  subst ha pi
  exact wpAnyH_ready hr (by simp) (AllReadyH.cons qi hi AllReadyH.nil)
/-- one of 2 comes up -/
theorem rd2 (i j : Nat) {P : Program} {md : Region.Mode} {ops : Array Oper} {Q : Exit → Act → World → Prop} {S : World → Prop} {fuel : Nat} {listed : Array Bool} {a a' : Act} {w : World} {li lj : Array Bool} {oi oj : Oper}
    (hi : ∀ K' : Act → World → Prop, Shut (∀ a w, S w → (S w → wpAnyH P md ops Q S fuel li a w) → K' a w) → if Region.wanted oi (yielded ops a'.tmps) = true then Oper.wp P oi a' w K' Q else K' (a'.put oi.dst undef) w)
    (hj : ∀ K' : Act → World → Prop, Shut (∀ a w, S w → (S w → wpAnyH P md ops Q S fuel lj a w) → K' a w) → if Region.wanted oj (yielded ops a'.tmps) = true then Oper.wp P oj a' w K' Q else K' (a'.put oj.dst undef) w)
    (hr : Region.ready md ops listed = [i, j] := by kernel_rfl) (qi : ops[i]? = some oi := by exact rfl) (qj : ops[j]? = some oj := by exact rfl)
    (pi : listed.setIfInBounds i true = li := by (try simp only [List.setIfInBounds_toArray, List.set_cons_zero, List.set_cons_succ]); exact rfl) (pj : listed.setIfInBounds j true = lj := by (try simp only [List.setIfInBounds_toArray, List.set_cons_zero, List.set_cons_succ]); exact rfl)
    (ha : a = a' := by (try simp only [Act.put, xa, xb, xc, xd, xe, xf]); exact rfl) : wpAnyH P md ops Q S (fuel + 1) listed a w := by
  subst ha pi pj
  exact wpAnyH_ready hr (by simp) (AllReadyH.cons qi hi (AllReadyH.cons qj hj AllReadyH.nil))
/-- one of 3 comes up -/
theorem rd3 (i j k : Nat) {P : Program} {md : Region.Mode} {ops : Array Oper} {Q : Exit → Act → World → Prop} {S : World → Prop} {fuel : Nat} {listed : Array Bool} {a a' : Act} {w : World} {li lj lk : Array Bool} {oi oj ok : Oper}
    (hi : ∀ K' : Act → World → Prop, Shut (∀ a w, S w → (S w → wpAnyH P md ops Q S fuel li a w) → K' a w) → if Region.wanted oi (yielded ops a'.tmps) = true then Oper.wp P oi a' w K' Q else K' (a'.put oi.dst undef) w)
    (hj : ∀ K' : Act → World → Prop, Shut (∀ a w, S w → (S w → wpAnyH P md ops Q S fuel lj a w) → K' a w) → if Region.wanted oj (yielded ops a'.tmps) = true then Oper.wp P oj a' w K' Q else K' (a'.put oj.dst undef) w)
    (hk : ∀ K' : Act → World → Prop, Shut (∀ a w, S w → (S w → wpAnyH P md ops Q S fuel lk a w) → K' a w) → if Region.wanted ok (yielded ops a'.tmps) = true then Oper.wp P ok a' w K' Q else K' (a'.put ok.dst undef) w)
    (hr : Region.ready md ops listed = [i, j, k] := by kernel_rfl) (qi : ops[i]? = some oi := by exact rfl) (qj : ops[j]? = some oj := by exact rfl) (qk : ops[k]? = some ok := by exact rfl)
    (pi : listed.setIfInBounds i true = li := by (try simp only [List.setIfInBounds_toArray, List.set_cons_zero, List.set_cons_succ]); exact rfl) (pj : listed.setIfInBounds j true = lj := by (try simp only [List.setIfInBounds_toArray, List.set_cons_zero, List.set_cons_succ]); exact rfl) (pk : listed.setIfInBounds k true = lk := by (try simp only [List.setIfInBounds_toArray, List.set_cons_zero, List.set_cons_succ]); exact rfl)
    (ha : a = a' := by (try simp only [Act.put, xa, xb, xc, xd, xe, xf]); exact rfl) : wpAnyH P md ops Q S (fuel + 1) listed a w := by
  subst ha pi pj pk
  exact wpAnyH_ready hr (by simp) (AllReadyH.cons qi hi (AllReadyH.cons qj hj (AllReadyH.cons qk hk AllReadyH.nil)))
/-- one of 4 comes up -/
theorem rd4 (i j k l : Nat) {P : Program} {md : Region.Mode} {ops : Array Oper} {Q : Exit → Act → World → Prop} {S : World → Prop} {fuel : Nat} {listed : Array Bool} {a a' : Act} {w : World} {li lj lk ll : Array Bool} {oi oj ok ol : Oper}
    (hi : ∀ K' : Act → World → Prop, Shut (∀ a w, S w → (S w → wpAnyH P md ops Q S fuel li a w) → K' a w) → if Region.wanted oi (yielded ops a'.tmps) = true then Oper.wp P oi a' w K' Q else K' (a'.put oi.dst undef) w)
    (hj : ∀ K' : Act → World → Prop, Shut (∀ a w, S w → (S w → wpAnyH P md ops Q S fuel lj a w) → K' a w) → if Region.wanted oj (yielded ops a'.tmps) = true then Oper.wp P oj a' w K' Q else K' (a'.put oj.dst undef) w)
    (hk : ∀ K' : Act → World → Prop, Shut (∀ a w, S w → (S w → wpAnyH P md ops Q S fuel lk a w) → K' a w) → if Region.wanted ok (yielded ops a'.tmps) = true then Oper.wp P ok a' w K' Q else K' (a'.put ok.dst undef) w)
    (hl : ∀ K' : Act → World → Prop, Shut (∀ a w, S w → (S w → wpAnyH P md ops Q S fuel ll a w) → K' a w) → if Region.wanted ol (yielded ops a'.tmps) = true then Oper.wp P ol a' w K' Q else K' (a'.put ol.dst undef) w)
    (hr : Region.ready md ops listed = [i, j, k, l] := by kernel_rfl) (qi : ops[i]? = some oi := by exact rfl) (qj : ops[j]? = some oj := by exact rfl) (qk : ops[k]? = some ok := by exact rfl) (ql : ops[l]? = some ol := by exact rfl)
    (pi : listed.setIfInBounds i true = li := by (try simp only [List.setIfInBounds_toArray, List.set_cons_zero, List.set_cons_succ]); exact rfl) (pj : listed.setIfInBounds j true = lj := by (try simp only [List.setIfInBounds_toArray, List.set_cons_zero, List.set_cons_succ]); exact rfl) (pk : listed.setIfInBounds k true = lk := by (try simp only [List.setIfInBounds_toArray, List.set_cons_zero, List.set_cons_succ]); exact rfl) (pl : listed.setIfInBounds l true = ll := by (try simp only [List.setIfInBounds_toArray, List.set_cons_zero, List.set_cons_succ]); exact rfl)
    (ha : a = a' := by (try simp only [Act.put, xa, xb, xc, xd, xe, xf]); exact rfl) : wpAnyH P md ops Q S (fuel + 1) listed a w := by
  subst ha pi pj pk pl
  exact wpAnyH_ready hr (by simp) (AllReadyH.cons qi hi (AllReadyH.cons qj hj (AllReadyH.cons qk hk (AllReadyH.cons ql hl AllReadyH.nil))))
/-- all have come up -/
theorem dn {P : Program} {md : Region.Mode} {ops : Array Oper} {Q : Exit → Act → World → Prop} {S : World → Prop} {fuel : Nat} {listed : Array Bool} {a a' : Act} {w : World} (h : Q .normal a' w) (hr : Region.ready md ops listed = [] := by kernel_rfl) (ha : a = a' := by (try simp only [Act.put, xa, xb, xc, xd, xe, xf]); exact rfl) : wpAnyH P md ops Q S fuel listed a w := by
  subst ha
  exact wpAnyH_done hr h _
theorem z0 {P : Prop} {n : Nat} : P ∨ 0 ≤ n := .inr (Nat.zero_le _)
end Go.Proofs.YtmfnkhonghemeaaDoor
