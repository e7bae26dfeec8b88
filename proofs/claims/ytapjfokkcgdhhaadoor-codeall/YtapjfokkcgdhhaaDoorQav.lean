import Derived.Test.YtapjfokkcgdhhaaDoorQau
import Derived.Test.YtapjfokkcgdhhaaDoorQah
namespace Go.Proofs.YtapjfokkcgdhhaaDoor
open Go.RowKit
set_option linter.unusedVariables false
set_option linter.unusedSimpArgs false

set_option maxRecDepth 100000 in
set_option maxHeartbeats 1000000 in
theorem rnumber_err {w : World} {p B : Nat} {ba : Option Addr} {n c : Nat} {bs : List Int} {x : Int × Nat} (h : RQ w p B ba n c bs (.inl x)) (lo hi : Int) :
    Calls Tryd.prog 31 #[.pointer (some ⟨p, 0, none⟩), .int .i64 lo, .int .i64 hi] w fun e w' => e = .returned (.int .i64 0) ∧ RQ w' p B ba n c bs (.inl x) ∧ Fx (fun k => k = p) w w' := by
  have HH := hid_mk h
  obtain ⟨h1, h2, h3, h4, h5, h6, a, h7, h8⟩ := h
  have k1 : w.cell? ⟨p, 1, none⟩ = some (.int .i64 a) := h8.cell (i := 1) rfl
  have k3 : w.cell? ⟨p, 3, none⟩ = some (.int .i64 x.1) := h8.cell (i := 3) rfl
  have e0 : (x.1 == 0) = false := by simpa using h6
  have e1 : decide (x.1 = 0) = false := by simpa using h6
  clear h1 h2 h3 h4 h5 h6 h7 h8
  go_enter Tryd.func31, Tryd.ntmps31
  go_wp2
  go_loopw [10] (fun c w2 => c = .int .i64 0 ∧ w2 = w) (fun _ _ => 0)
  case atStart => exact ⟨rfl, rfl⟩
  case round =>
    obtain ⟨rfl, rfl⟩ := hrel
    go_wp2_with (go_at_call 30; refine (rbad_no HH.out _ _).mono ?_; rintro r w4 ⟨rfl, h4, x4⟩; have HE := hid_mk (And.intro h4 x4); clear h4 x4)
    go_ret
    exact ⟨rfl, HE.out⟩
/-- in the midst of an instruction: the result's cells, the instruction's, the reader -/
def IQ (w W : World) (p B : Nat) (ba : Option Addr) (n c : Nat) (bs : List Int) (b0 b1 : Nat) (u v : Int) (s : Sum (Int × Nat) Nat) : Prop := Bl W b0 #[.int .i64 0, .int .i64 0] 61 ∧ Bl W b1 #[.int .i64 u, .int .i64 v] 61 ∧ RQ W p B ba n c bs s ∧ Fx (fun k => k = p) w W ∧ p < w.heap.size ∧ B ≤ p ∧ w.heap.size ≤ b0 ∧ b0 < b1
section
variable {w W W2 : World} {p B : Nat} {ba : Option Addr} {n c : Nat} {bs : List Int} {b0 b1 : Nat} {u v : Int} {s s2 : Sum (Int × Nat) Nat}
theorem IQ.call (h : IQ w W p B ba n c bs b0 b1 u v s) (hr : RQ W2 p B ba n c bs s2) (x : Fx (fun k => k = p) W W2) : IQ w W2 p B ba n c bs b0 b1 u v s2 := by
  obtain ⟨h1, h2, h3, h4, h5, h5', h6, h7⟩ := h
  exact ⟨h1.fx x (by omega), h2.fx x (by omega), hr, h4.trans x, h5, h5', h6, h7⟩
theorem IQ.quiet (h : IQ w W p B ba n c bs b0 b1 u v s) (o : Out 0 0 W W2) : IQ w W2 p B ba n c bs b0 b1 u v s := h.call (h.2.2.1.quiet o) (Fx.of_out o)
theorem IQ.setA (h : IQ w W p B ba n c bs b0 b1 u v s) (v' : Int) : IQ w (W.setCell ⟨b1, 1, none⟩ (.int .i64 v')) p B ba n c bs b0 b1 u v' s := by
  obtain ⟨h1, h2, h3, h4, h5, h5', h6, h7⟩ := h
  have x : Fx (fun k => k = b1) W (W.setCell ⟨b1, 1, none⟩ (.int .i64 v')) := (Fx.refl (fun k => k = b1) W).set (p := ⟨b1, 1, none⟩) (.inl rfl) _
  exact ⟨h1.fx x (by omega), h2.set 1 (.int .i64 v'), h3.fx x (fun k hk => by subst hk; omega), ⟨x.1.trans h4.1, x.2.1.trans h4.2.1, x.2.2.1.trans h4.2.2.1, Nat.le_trans h4.size x.size, fun k z1 z2 => (x.2.2.2.2 k (Nat.lt_of_lt_of_le z1 h4.size) (fun e => by omega)).trans (h4.2.2.2.2 k z1 z2)⟩, h5, h5', h6, h7⟩
theorem IQ.fin (h : IQ w W p B ba n c bs b0 b1 u v s) : Bl ((W.setCell ⟨b0, 0, none⟩ (.int .i64 u)).setCell ⟨b0, 1, none⟩ (.int .i64 v)) b0 #[.int .i64 u, .int .i64 v] 61 ∧ RQ ((W.setCell ⟨b0, 0, none⟩ (.int .i64 u)).setCell ⟨b0, 1, none⟩ (.int .i64 v)) p B ba n c bs s ∧ Fx (fun k => k = p) w ((W.setCell ⟨b0, 0, none⟩ (.int .i64 u)).setCell ⟨b0, 1, none⟩ (.int .i64 v)) := by
  obtain ⟨h1, h2, h3, h4, h5, h5', h6, h7⟩ := h
  have x : Fx (fun k => k = b0) W ((W.setCell ⟨b0, 0, none⟩ (.int .i64 u)).setCell ⟨b0, 1, none⟩ (.int .i64 v)) := ((Fx.refl (fun k => k = b0) W).set (p := ⟨b0, 0, none⟩) (.inl rfl) _).set (p := ⟨b0, 1, none⟩) (.inl rfl) _
  exact ⟨(h1.set 0 (.int .i64 u)).set 1 (.int .i64 v), h3.fx x (fun k hk => by subst hk; omega), ⟨x.1.trans h4.1, x.2.1.trans h4.2.1, x.2.2.1.trans h4.2.2.1, Nat.le_trans h4.size x.size, fun k z1 z2 => (x.2.2.2.2 k (Nat.lt_of_lt_of_le z1 h4.size) (fun e => by omega)).trans (h4.2.2.2.2 k z1 z2)⟩⟩
end
theorem bnd_ocs {α β : Type} {R : Rd α} {f : α → β} {bs : List Int} {a : Nat} : ocs (bndR R (fun v => pureR (f v)) bs a) = ocs (R bs a) := by
  unfold bndR
  rcases R bs a with x | ⟨v, e⟩ <;> rfl
theorem bnd_val {f : Nat → Int × Int} {R : Rd Nat} {bs : List Int} {a q : Nat} {v y : Int × Int} (h : bndR R (fun v => pureR (f v)) bs a = .inr (v, q)) (hy : y = f (ocn (R bs a))) : v = y := by
  rcases bnd_inv h with ⟨x, _, hx⟩ | ⟨u, e1, hu, hs⟩
  · cases hx
  · cases hs
    rw [hy, hu]
    rfl
theorem ocn_le {hi : Nat} {bs : List Int} {a : Nat} : ocn (numR 0 hi bs a) ≤ hi := by
  rcases h : numR 0 hi bs a with x | ⟨v, e⟩
  · exact Nat.zero_le _
  · exact (num_in h).2
theorem un8_dn : ∀ {row : List Int} {i : Nat} {y : Int}, row[i]? = some y → un8 (row.drop i) = y + 256 * un8 (row.drop (i + 1))
  | [], i, y, h => by simp at h
  | x :: r, 0, y, h => by
    simp at h
    subst h
    rfl
  | x :: r, i + 1, y, h => by
    rw [List.drop_succ_cons, List.drop_succ_cons]
    exact un8_dn (by simpa using h)
/-- what an instruction's reading leaves -/
def RIQ (w : World) (p B : Nat) (ba : Option Addr) (n c : Nat) (bs : List Int) (R : Sum (Int × Nat) ((Int × Int) × Nat)) (e : Ending) (w' : World) : Prop := ∃ x y, e = .returned (.agg #[.int .i64 x, .int .i64 y]) ∧ RQ w' p B ba n c bs (ocs R) ∧ Fx (fun k => k = p) w w' ∧ ∀ v q, R = .inr (v, q) → v = (x, y)
set_option maxRecDepth 100000 in
set_option maxHeartbeats 1000000 in
theorem qins_any {w : World} {p B : Nat} {ba : Option Addr} {n c : Nat} {bs : List Int} {a : Nat} (h : RQ w p B ba n c bs (.inr a)) :
    Calls Tryd.prog 44 #[.pointer (some ⟨p, 0, none⟩)] w (RIQ w p B ba n c bs (insR bs a)) := by
  obtain ⟨b0, hb0⟩ : ∃ b0, w.heap.size = b0 := ⟨_, rfl⟩
  have o0 : Out 0 0 w (w.alloc (.cells #[.int .i64 0, .int .i64 0] 61)) := (Out.refl 0 0 w).alloc _
  have B0 := Bl.new w #[.int .i64 0, .int .i64 0] 61
  rw [hb0] at B0
  obtain ⟨V, hV⟩ : ∃ V, w.alloc (.cells #[.int .i64 0, .int .i64 0] 61) = V := ⟨_, rfl⟩
  rw [hV] at o0 B0
  have hR := h.quiet o0
  have k1 : V.cell? ⟨p, 1, none⟩ = some (.int .i64 a) := hR.2.2.2.2.2.2.cell (i := 1) rfl
  have HH : Hid (bs.length = n ∧ Byt bs ∧ n ≤ 65536 ∧ a ≤ n ∧ p < w.heap.size ∧ B ≤ p) := hid_mk ⟨h.2.1, h.1.1, h.2.2.2.2.1, h.2.2.2.2.2.1, h.2.2.2.2.2.2.lt, h.2.2.1⟩
  have H0 : Hid (Bl V b0 #[.int .i64 0, .int .i64 0] 61 ∧ Out 0 0 w V ∧ w.heap.size = b0 ∧ RQ V p B ba n c bs (.inr a)) := hid_mk ⟨B0, o0, hb0, hR⟩
  clear h hR o0 B0
  by_cases hin : a + 1 ≤ n
  · have HP := hid_mk (rpart_go H0.out.2.2.2 1 hin)
    have HA := hid_mk hin
    clear hin
    go_enter Tryd.func44, Tryd.ntmps44
    go_wp2_with fail
    (try rw [hV])
    (try rw [hb0])
    clear hV hb0
    refine HP.out.mono ?_
    rintro e w2 ⟨A', C', rfl, hC, hB2, hR2, x2⟩
    obtain ⟨b, hb⟩ : ∃ b, bs[a]? = some b := ⟨_, List.getElem?_eq_getElem (by have := HH.out.1; have := HA.out; omega)⟩
    obtain ⟨g, off, rfl, c1, hbb0, hbb1⟩ := byte_in hB2 hb
    have j3 : w2.cell? ⟨p, 3, none⟩ = some (.int .i64 0) := hR2.2.2.2.2.2.2.cell (i := 3) rfl
    have m5 : wrap64 b = b := by unfold wrap64; omega
    have m4 : IntKind.i64.wrap b = b := by simp [IntKind.wrap, IntKind.signed, IntKind.bits]; omega
    have hle := opS_le b
    have hcase : opS b = 0 ∨ opS b = 1 ∨ opS b = 2 ∨ opS b = 3 ∨ opS b = 4 := by omega
    have HR2 := hid_mk (And.intro hR2 x2)
    clear hC hB2 hR2 x2 hbb0 hbb1 hle HP
    go_wp2_with fail
    obtain ⟨hR2, x2⟩ := HR2.out
    obtain ⟨b1, hb1⟩ : ∃ b1, w2.heap.size = b1 := ⟨_, rfl⟩
    obtain ⟨V3, hV3⟩ : ∃ V3, w2.alloc (.cells #[.int .i64 b, .int .i64 0] 61) = V3 := ⟨_, rfl⟩
    have HQ : Hid (IQ w V3 p B ba n c bs b0 b1 b 0 (.inr (a + 1))) := hid_mk (by
      have o3 : Out 0 0 w2 V3 := by rw [← hV3]; exact (Out.refl 0 0 w2).alloc _
      obtain ⟨g1, g2, g3, g4⟩ := H0.out
      obtain ⟨-, -, -, -, g5, g6⟩ := HH.out
      have g7 := g1.lt
      exact ⟨(g1.fx x2 (by omega)).kept o3 (.inr (Nat.zero_le _)), by rw [← hV3, ← hb1]; exact Bl.new _ _ _, hR2.quiet o3, ((Fx.of_out g2).trans x2).trans (Fx.of_out o3), g5, g6, by omega, by have := x2.size; omega⟩)
    rw [hV3]
    (try rw [hb1])
    clear hV3 hb1 c1 j3 m5 m4 hR2 x2 HR2
    refine (roperand_any V3 b).mono ?_
    rintro e w3 ⟨rfl, rfl⟩
    rcases hcase with hs | hs | hs | hs | hs
    · have HI : Hid (insR bs a = .inl (60, a)) := hid_mk (op_no hb hs)
      have hro : roV b = 4 := by unfold roV; rw [hs]; rfl
      rw [hro]
      have HB := hid_mk (rbad_ok HQ.out.2.2.1 60 (by decide) a)
      clear hro hb hs
      go_wp2_with fail
      refine HB.out.mono ?_
      rintro e w4 ⟨rfl, h4, x4⟩
      have HQ4 := hid_mk (HQ.out.call h4 x4)
      have y0 : w4.cell? ⟨b1, 0, none⟩ = some (.int .i64 b) := HQ4.out.2.1.cell (i := 0) rfl
      have y1 : w4.cell? ⟨b1, 1, none⟩ = some (.int .i64 0) := HQ4.out.2.1.cell (i := 1) rfl
      have y2 : w4.cell? ⟨b0, 0, none⟩ = some (.int .i64 0) := HQ4.out.1.cell (i := 0) rfl
      have y3 : w4.cell? ⟨b0, 1, none⟩ = some (.int .i64 0) := HQ4.out.1.cell (i := 1) rfl
      have z0 := HQ4.out.1.frozen 0
      have z1 := HQ4.out.1.frozen 1
      have z3 := HQ4.out.2.1.frozen 1
      clear h4 x4 HB
      go_wp2
      obtain ⟨f1, f2, f3⟩ := HQ4.out.fin
      exact ret_cell Tryd.results44 rfl rfl (load_ins f1) ⟨_, _, rfl, by rw [HI.out]; exact f2, f3, fun v q hq => by rw [HI.out] at hq; cases hq⟩
    · have HI : Hid (insR bs a = .inr ((b, 0), a + 1)) := hid_mk (by unfold insR; rw [bnd_ok (op_ok hb (by omega))]; unfold argR; rw [hs]; rfl)
      have hro : roV b = 0 := by unfold roV; rw [hs]; rfl
      rw [hro]
      clear hro hb hs
      have y0 : w3.cell? ⟨b1, 0, none⟩ = some (.int .i64 b) := HQ.out.2.1.cell (i := 0) rfl
      have y1 : w3.cell? ⟨b1, 1, none⟩ = some (.int .i64 0) := HQ.out.2.1.cell (i := 1) rfl
      have y2 : w3.cell? ⟨b0, 0, none⟩ = some (.int .i64 0) := HQ.out.1.cell (i := 0) rfl
      have y3 : w3.cell? ⟨b0, 1, none⟩ = some (.int .i64 0) := HQ.out.1.cell (i := 1) rfl
      have z0 := HQ.out.1.frozen 0
      have z1 := HQ.out.1.frozen 1
      have z3 := HQ.out.2.1.frozen 1
      go_wp2
      obtain ⟨f1, f2, f3⟩ := HQ.out.fin
      exact ret_cell Tryd.results44 rfl rfl (load_ins f1) ⟨_, _, rfl, by rw [HI.out]; exact f2, f3, fun v q hq => by rw [HI.out] at hq; cases hq; rfl⟩
    · have HI : Hid (insR bs a = bndR (numR 0 2097151) (fun v => pureR (b, (v : Int))) bs (a + 1)) := hid_mk (by unfold insR; rw [bnd_ok (op_ok hb (by omega))]; unfold argR; rw [hs]; rfl)
      have hro : roV b = 1 := by unfold roV; rw [hs]; rfl
      rw [hro]
      clear hro hb hs
      have HNm := hid_mk (rnumber_any HQ.out.2.2.1 0 2097151 0 2097151 rfl rfl)
      go_wp2_with fail
      refine HNm.out.mono ?_
      rintro e w4 ⟨rfl, h4, x4⟩
      obtain ⟨m, hm⟩ : ∃ m, ocn (numR 0 2097151 bs (a + 1)) = m := ⟨_, rfl⟩
      rw [hm]
      have q4 := HQ.out.call h4 x4
      have y0 : w4.cell? ⟨b1, 0, none⟩ = some (.int .i64 b) := q4.2.1.cell (i := 0) rfl
      have y1 : w4.cell? ⟨b1, 1, none⟩ = some (.int .i64 0) := q4.2.1.cell (i := 1) rfl
      have y2 : w4.cell? ⟨b0, 0, none⟩ = some (.int .i64 0) := q4.1.cell (i := 0) rfl
      have y3 : w4.cell? ⟨b0, 1, none⟩ = some (.int .i64 0) := q4.1.cell (i := 1) rfl
      have z0 := q4.1.frozen 0
      have z1 := q4.1.frozen 1
      have z3 := q4.2.1.frozen 1
      have HQ5 := hid_mk (And.intro q4 hm)
      have q5 := q4.setA (m : Int)
      have y4 : (w4.setCell ⟨b1, 1, none⟩ (.int .i64 (m : Int))).cell? ⟨b1, 0, none⟩ = some (.int .i64 b) := q5.2.1.cell (i := 0) rfl
      have y5 : (w4.setCell ⟨b1, 1, none⟩ (.int .i64 (m : Int))).cell? ⟨b1, 1, none⟩ = some (.int .i64 (m : Int)) := q5.2.1.cell (i := 1) rfl
      have y6 : (w4.setCell ⟨b1, 1, none⟩ (.int .i64 (m : Int))).cell? ⟨b0, 0, none⟩ = some (.int .i64 0) := q5.1.cell (i := 0) rfl
      have y7 : (w4.setCell ⟨b1, 1, none⟩ (.int .i64 (m : Int))).cell? ⟨b0, 1, none⟩ = some (.int .i64 0) := q5.1.cell (i := 1) rfl
      have z4 := q5.1.frozen 0
      have z5 := q5.1.frozen 1
      clear h4 x4 HNm q4 hm q5
      go_wp2
      obtain ⟨f1, f2, f3⟩ := (HQ5.out.1.setA (m : Int)).fin
      exact ret_cell Tryd.results44 rfl rfl (load_ins f1) ⟨_, _, rfl, by rw [HI.out, bnd_ocs]; exact f2, f3, fun v q hq => by rw [HI.out] at hq; exact bnd_val hq (by rw [← HQ5.out.2])⟩
    · have HI : Hid (insR bs a = bndR (numR 0 2305843009213693951) (fun v => pureR (b, zag v)) bs (a + 1)) := hid_mk (by unfold insR; rw [bnd_ok (op_ok hb (by omega))]; unfold argR; rw [hs]; rfl)
      have hro : roV b = 2 := by unfold roV; rw [hs]; rfl
      rw [hro]
      clear hro hb hs
      have HNm := hid_mk (rnumber_any HQ.out.2.2.1 0 2305843009213693951 0 2305843009213693951 rfl rfl)
      go_wp2_with fail
      refine HNm.out.mono ?_
      rintro e w4 ⟨rfl, h4, x4⟩
      obtain ⟨m, hm⟩ : ∃ m, ocn (numR 0 2305843009213693951 bs (a + 1)) = m := ⟨_, rfl⟩
      rw [hm]
      have q4 := HQ.out.call h4 x4
      have y0 : w4.cell? ⟨b1, 0, none⟩ = some (.int .i64 b) := q4.2.1.cell (i := 0) rfl
      have y1 : w4.cell? ⟨b1, 1, none⟩ = some (.int .i64 0) := q4.2.1.cell (i := 1) rfl
      have y2 : w4.cell? ⟨b0, 0, none⟩ = some (.int .i64 0) := q4.1.cell (i := 0) rfl
      have y3 : w4.cell? ⟨b0, 1, none⟩ = some (.int .i64 0) := q4.1.cell (i := 1) rfl
      have z0 := q4.1.frozen 0
      have z1 := q4.1.frozen 1
      have z3 := q4.2.1.frozen 1
      have hml : m ≤ 2305843009213693951 := by rw [← hm]; exact ocn_le
      obtain ⟨h, hh⟩ : ∃ h, m / 2 = h := ⟨_, rfl⟩
      have t1 : Int.tdiv (m : Int) 2 = (h : Int) := by rw [Int.tdiv_eq_ediv_of_nonneg (by omega)]; omega
      have t2 : wrap64 (h : Int) = (h : Int) := by unfold wrap64; omega
      have q5 := q4.setA (h : Int)
      have y50 : (w4.setCell ⟨b1, 1, none⟩ (.int .i64 (h : Int))).cell? ⟨b1, 0, none⟩ = some (.int .i64 b) := q5.2.1.cell (i := 0) rfl
      have y51 : (w4.setCell ⟨b1, 1, none⟩ (.int .i64 (h : Int))).cell? ⟨b1, 1, none⟩ = some (.int .i64 (h : Int)) := q5.2.1.cell (i := 1) rfl
      have y52 : (w4.setCell ⟨b1, 1, none⟩ (.int .i64 (h : Int))).cell? ⟨b0, 0, none⟩ = some (.int .i64 0) := q5.1.cell (i := 0) rfl
      have y53 : (w4.setCell ⟨b1, 1, none⟩ (.int .i64 (h : Int))).cell? ⟨b0, 1, none⟩ = some (.int .i64 0) := q5.1.cell (i := 1) rfl
      have z50 := q5.1.frozen 0
      have z51 := q5.1.frozen 1
      have z53 := q5.2.1.frozen 1
      by_cases hpar : m % 2 = 0
      · have t3 : Int.tmod (m : Int) 2 = 0 := by rw [Int.tmod_eq_emod_of_nonneg (by omega)]; omega
        have HQ5 : Hid (IQ w w4 p B ba n c bs b0 b1 b 0 (ocs (numR 0 2305843009213693951 bs (a + 1))) ∧ ocn (numR 0 2305843009213693951 bs (a + 1)) = m ∧ zag m = (h : Int)) := hid_mk ⟨q4, hm, by unfold zag; rw [if_pos hpar, hh]⟩
        clear h4 x4 HNm q4 hm q5 hml hh hpar
        go_wp2
        obtain ⟨f1, f2, f3⟩ := (HQ5.out.1.setA (h : Int)).fin
        exact ret_cell Tryd.results44 rfl rfl (load_ins f1) ⟨_, _, rfl, by rw [HI.out, bnd_ocs]; exact f2, f3, fun v q hq => by rw [HI.out] at hq; exact bnd_val hq (by rw [HQ5.out.2.1, HQ5.out.2.2])⟩
      · have t3 : Int.tmod (m : Int) 2 = 1 := by rw [Int.tmod_eq_emod_of_nonneg (by omega)]; omega
        have t4 : wrap64 (-(h : Int)) = -(h : Int) := by unfold wrap64; omega
        have t5 : wrap64 (-(h : Int) - 1) = -(h : Int) - 1 := by unfold wrap64; omega
        have q6 := q5.setA (-(h : Int) - 1)
        have y60 : ((w4.setCell ⟨b1, 1, none⟩ (.int .i64 (h : Int))).setCell ⟨b1, 1, none⟩ (.int .i64 (-(h : Int) - 1))).cell? ⟨b1, 0, none⟩ = some (.int .i64 b) := q6.2.1.cell (i := 0) rfl
        have y61 : ((w4.setCell ⟨b1, 1, none⟩ (.int .i64 (h : Int))).setCell ⟨b1, 1, none⟩ (.int .i64 (-(h : Int) - 1))).cell? ⟨b1, 1, none⟩ = some (.int .i64 (-(h : Int) - 1)) := q6.2.1.cell (i := 1) rfl
        have y62 : ((w4.setCell ⟨b1, 1, none⟩ (.int .i64 (h : Int))).setCell ⟨b1, 1, none⟩ (.int .i64 (-(h : Int) - 1))).cell? ⟨b0, 0, none⟩ = some (.int .i64 0) := q6.1.cell (i := 0) rfl
        have y63 : ((w4.setCell ⟨b1, 1, none⟩ (.int .i64 (h : Int))).setCell ⟨b1, 1, none⟩ (.int .i64 (-(h : Int) - 1))).cell? ⟨b0, 1, none⟩ = some (.int .i64 0) := q6.1.cell (i := 1) rfl
        have z60 := q6.1.frozen 0
        have z61 := q6.1.frozen 1
        have z63 := q6.2.1.frozen 1
        have HQ5 : Hid (IQ w w4 p B ba n c bs b0 b1 b 0 (ocs (numR 0 2305843009213693951 bs (a + 1))) ∧ ocn (numR 0 2305843009213693951 bs (a + 1)) = m ∧ zag m = -(h : Int) - 1) := hid_mk ⟨q4, hm, by unfold zag; rw [if_neg hpar, hh]⟩
        clear h4 x4 HNm q4 hm q5 hml hh hpar q6
        go_wp2
        obtain ⟨f1, f2, f3⟩ := ((HQ5.out.1.setA (h : Int)).setA (-(h : Int) - 1)).fin
        exact ret_cell Tryd.results44 rfl rfl (load_ins f1) ⟨_, _, rfl, by rw [HI.out, bnd_ocs]; exact f2, f3, fun v q hq => by rw [HI.out] at hq; exact bnd_val hq (by rw [HQ5.out.2.1, HQ5.out.2.2])⟩
    · have HI : Hid (insR bs a = bndR (takeR 8) (fun l => pureR (b, sg8 l)) bs (a + 1)) := hid_mk (by unfold insR; rw [bnd_ok (op_ok hb (by omega))]; unfold argR; rw [hs]; rfl)
      have hro : roV b = 3 := by unfold roV; rw [hs]; rfl
      rw [hro]
      clear hro hb hs
      by_cases h8 : a + 1 + 8 ≤ n
      · have HNm := hid_mk (rpart_go HQ.out.2.2.1 8 h8)
        have HI2 : Hid (takeR 8 bs (a + 1) = .inr ((bs.drop (a + 1)).take 8, a + 1 + 8) ∧ ((bs.drop (a + 1)).take 8).length = 8) := hid_mk ⟨take_ok (by have := HH.out.1; omega), by rw [List.length_take, List.length_drop]; have := HH.out.1; omega⟩
        clear h8
        go_wp2_with fail
        refine HNm.out.mono ?_
        rintro e w4 ⟨A8, C8, rfl, hC8, hB8, h4, x4⟩
        obtain ⟨row, hrow⟩ : ∃ row, (bs.drop (a + 1)).take 8 = row := ⟨_, rfl⟩
        rw [hrow] at hB8
        have q4 := HQ.out.call h4 x4
        have HI3 : Hid (takeR 8 bs (a + 1) = .inr (row, a + 1 + 8) ∧ row.length = 8 ∧ Byt row) := hid_mk ⟨hrow ▸ HI2.out.1, hrow ▸ HI2.out.2, hB8.1⟩
        obtain ⟨g8, o8, rfl, hc8⟩ : ∃ g8 o8, A8 = some ⟨g8, o8, none⟩ ∧ ∀ (j : Nat) x, row[j]? = some x → w4.cell? ⟨g8, o8 + j, none⟩ = some (.int .u8 x) := by
          rcases hB8.2 with q | ⟨g8, o8, q, -, q3⟩
          · rw [q] at HI3; exact absurd HI3.out.2.1 (by decide)
          · exact ⟨g8, o8, q, q3⟩
        have HC := hid_mk hc8
        have HQ4 := hid_mk q4
        have w87 : wrap64 (8 - 1) = 7 := by unfold wrap64; omega
        clear h4 x4 HNm q4 hc8 hB8 hrow HI2 hC8
        go_wp2
        go_loopw [8, 9] (fun uv kv W => ∃ (j : Nat), kv = .int .i64 ((j : Int) - 1) ∧ j ≤ 8 ∧ uv = .int .u64 (un8 (row.drop j)) ∧ W = w4) (fun _ kv _ => (intOf kv + 1).toNat)
        case atStart => exact ⟨8, rfl, by omega, by rw [List.drop_of_length_le (by have := HI3.out.2.1; omega)]; rfl, rfl⟩
        case round =>
          obtain ⟨j, rfl, hj8, rfl, rfl⟩ := hrel
          by_cases hj : 1 ≤ j
          · obtain ⟨i, rfl⟩ : ∃ i, j = i + 1 := ⟨j - 1, by omega⟩
            obtain ⟨y, hy⟩ : ∃ y, row[i]? = some y := ⟨_, List.getElem?_eq_getElem (by have := HI3.out.2.1; omega)⟩
            have e1 : ((i + 1 : Nat) : Int) - 1 = (i : Int) := by omega
            rw [e1]
            have d1 := HC.out i y hy
            have l1 : decide (0 ≤ (i : Int)) = true := by simp
            have lt8 : (i : Int) < 8 := by omega
            have hyb := HI3.out.2.2 y (List.mem_of_getElem? hy)
            have hun := un8_dn hy
            obtain ⟨U, hU⟩ : ∃ U, un8 (row.drop (i + 1)) = U := ⟨_, rfl⟩
            have hUl := un8_lt (row.drop (i + 1)) (HI3.out.2.2.drop _)
            have hp : (256 : Int) ^ (row.drop (i + 1)).length ≤ 256 ^ 7 := by
              rw [List.length_drop, HI3.out.2.1]
              have : ∀ k : Nat, k ≤ 7 → (256 : Int) ^ k ≤ 256 ^ 7 := by decide
              exact this _ (by omega)
            have hp7 : (256 : Int) ^ 7 = 72057594037927936 := by decide
            rw [hU] at hun hUl ⊢
            obtain ⟨U2, hU2⟩ : ∃ U2, U * 256 = U2 := ⟨_, rfl⟩
            obtain ⟨U3, hU3⟩ : ∃ U3, U2 + y = U3 := ⟨_, rfl⟩
            have hb2 : U2 ≤ 18446744073709551360 ∧ 0 ≤ U2 := by omega
            have m1 : IntKind.u64.wrap (U * 256) = U2 := by rw [hU2]; simp [IntKind.wrap, IntKind.signed, IntKind.bits]; omega
            have m2 : IntKind.u64.wrap y = y := by simp [IntKind.wrap, IntKind.signed, IntKind.bits]; omega
            have m3 : IntKind.u64.wrap (U2 + y) = U3 := by rw [hU3]; simp [IntKind.wrap, IntKind.signed, IntKind.bits]; omega
            have HE : Hid (i + 1 ≤ 8 ∧ U3 = un8 (row.drop i)) := hid_mk ⟨hj8, by rw [hun]; omega⟩
            have ws : wrap64 ((i : Int) - 1) = (i : Int) - 1 := by unfold wrap64; omega
            clear hj8 hj hy e1 hyb hun hU hUl hp hp7 hU2 hU3 hb2
            go_wp2
            exact ⟨⟨i, by first | rfl | rw [ws], by have := HE.out.1; omega, by first | rw [HE.out.2] | rw [m3, HE.out.2], by trivial⟩, by simp [intOf]; try omega⟩
          · obtain rfl : j = 0 := by omega
            have l1 : decide (0 ≤ ((0 : Nat) : Int) - 1) = false := by decide
            have l2 : decide ((0 : Int) ≤ -1) = false := by decide
            have e0 : ((0 : Nat) : Int) - 1 = -1 := rfl
            rw [e0]
            rw [List.drop_zero]
            obtain ⟨U, hU⟩ : ∃ U, un8 row = U := ⟨_, rfl⟩
            obtain ⟨z, hz⟩ : ∃ z, sg8 row = z := ⟨_, rfl⟩
            rw [hU]
            have hzz : IntKind.i64.wrap U = z := by
              have hl := un8_lt row HI3.out.2.2
              rw [HI3.out.2.1, show (256 : Int) ^ 8 = 18446744073709551616 by decide] at hl
              rw [← hz]; unfold sg8; rw [hU] at hl ⊢
              simp [IntKind.wrap, IntKind.signed, IntKind.bits]
              split <;> split <;> omega
            have hzw : wrap64 U = z := by rw [wrap64_i, hzz]
            have q4 := HQ4.out
            have HZ := hid_mk hz
            have y0 : wr.cell? ⟨b1, 0, none⟩ = some (.int .i64 b) := q4.2.1.cell (i := 0) rfl
            have y1 : wr.cell? ⟨b1, 1, none⟩ = some (.int .i64 0) := q4.2.1.cell (i := 1) rfl
            have y2 : wr.cell? ⟨b0, 0, none⟩ = some (.int .i64 0) := q4.1.cell (i := 0) rfl
            have y3 : wr.cell? ⟨b0, 1, none⟩ = some (.int .i64 0) := q4.1.cell (i := 1) rfl
            have z0 := q4.1.frozen 0
            have z1 := q4.1.frozen 1
            have z3 := q4.2.1.frozen 1
            have q5 := q4.setA z
            have y50 : (wr.setCell ⟨b1, 1, none⟩ (.int .i64 z)).cell? ⟨b1, 0, none⟩ = some (.int .i64 b) := q5.2.1.cell (i := 0) rfl
            have y51 : (wr.setCell ⟨b1, 1, none⟩ (.int .i64 z)).cell? ⟨b1, 1, none⟩ = some (.int .i64 z) := q5.2.1.cell (i := 1) rfl
            have y52 : (wr.setCell ⟨b1, 1, none⟩ (.int .i64 z)).cell? ⟨b0, 0, none⟩ = some (.int .i64 0) := q5.1.cell (i := 0) rfl
            have y53 : (wr.setCell ⟨b1, 1, none⟩ (.int .i64 z)).cell? ⟨b0, 1, none⟩ = some (.int .i64 0) := q5.1.cell (i := 1) rfl
            have z50 := q5.1.frozen 0
            have z51 := q5.1.frozen 1
            have z53 := q5.2.1.frozen 1
            clear hU hz hj hj8 q4 q5
            go_wp2
            obtain ⟨f1, f2, f3⟩ := (HQ4.out.setA z).fin
            exact ret_cell Tryd.results44 rfl rfl (load_ins f1) ⟨_, _, rfl, by rw [HI.out, bnd_ocs, HI3.out.1]; exact f2, f3, fun v q hq => by rw [HI.out, bnd_ok HI3.out.1, HZ.out] at hq; cases hq; rfl⟩
      · have HNm := hid_mk (rpart_end HQ.out.2.2.1 8 (by omega))
        have HI2 : Hid (takeR 8 bs (a + 1) = .inl (61, n)) := hid_mk (by rw [take_err (by have := HH.out.1; omega) (by have := HH.out.1; have := HA.out; omega), HH.out.1])
        clear h8
        go_wp2_with fail
        refine HNm.out.mono ?_
        rintro e w4 ⟨rfl, h4, x4⟩
        have HQ4 := hid_mk (HQ.out.call h4 x4)
        have w01 : wrap64 (0 - 1) = -1 := by unfold wrap64; omega
        clear h4 x4 HNm
        go_wp2
        go_loopw [8, 9] (fun uv kv W => kv = .int .i64 (-1) ∧ uv = .int .u64 0 ∧ W = w4) (fun _ _ _ => 0)
        case atStart => exact ⟨rfl, rfl, rfl⟩
        case round =>
          obtain ⟨rfl, rfl, rfl⟩ := hrel
          have q4 := HQ4.out
          have y0 : wr.cell? ⟨b1, 0, none⟩ = some (.int .i64 b) := q4.2.1.cell (i := 0) rfl
          have y1 : wr.cell? ⟨b1, 1, none⟩ = some (.int .i64 0) := q4.2.1.cell (i := 1) rfl
          have y2 : wr.cell? ⟨b0, 0, none⟩ = some (.int .i64 0) := q4.1.cell (i := 0) rfl
          have y3 : wr.cell? ⟨b0, 1, none⟩ = some (.int .i64 0) := q4.1.cell (i := 1) rfl
          have z0 := q4.1.frozen 0
          have z1 := q4.1.frozen 1
          have z3 := q4.2.1.frozen 1
          have q5 := q4.setA 0
          have y50 : (wr.setCell ⟨b1, 1, none⟩ (.int .i64 0)).cell? ⟨b1, 0, none⟩ = some (.int .i64 b) := q5.2.1.cell (i := 0) rfl
          have y51 : (wr.setCell ⟨b1, 1, none⟩ (.int .i64 0)).cell? ⟨b1, 1, none⟩ = some (.int .i64 0) := q5.2.1.cell (i := 1) rfl
          have y52 : (wr.setCell ⟨b1, 1, none⟩ (.int .i64 0)).cell? ⟨b0, 0, none⟩ = some (.int .i64 0) := q5.1.cell (i := 0) rfl
          have y53 : (wr.setCell ⟨b1, 1, none⟩ (.int .i64 0)).cell? ⟨b0, 1, none⟩ = some (.int .i64 0) := q5.1.cell (i := 1) rfl
          have z50 := q5.1.frozen 0
          have z51 := q5.1.frozen 1
          have z53 := q5.2.1.frozen 1
          have l2 : decide ((0 : Int) ≤ -1) = false := by decide
          clear q4 q5
          go_wp2
          obtain ⟨f1, f2, f3⟩ := (HQ4.out.setA 0).fin
          exact ret_cell Tryd.results44 rfl rfl (load_ins f1) ⟨_, _, rfl, by rw [HI.out, bnd_ocs, HI2.out]; exact f2, f3, fun v q hq => by rw [HI.out, bnd_err HI2.out] at hq; cases hq⟩
  · have hae : a = n := by have := HH.out.2.2.2.1; omega
    have HP := hid_mk (rpart_end H0.out.2.2.2 1 (by omega))
    have HI := hid_mk (op_end (bs := bs) (a := a) (by rw [HH.out.1, hae]))
    have HA := hid_mk hae
    clear hin hae
    go_enter Tryd.func44, Tryd.ntmps44
    go_wp2_with fail
    (try rw [hV])
    (try rw [hb0])
    clear hV hb0
    refine HP.out.mono ?_
    rintro e w2 ⟨rfl, hR2, x2⟩
    have g1 := H0.out.1.fx x2 (by have := H0.out.1.lt; have := HH.out.2.2.2.2.1; have := H0.out.2.2.1; omega)
    have HE := hid_mk (And.intro hR2 (And.intro x2 g1))
    have y2 : w2.cell? ⟨b0, 0, none⟩ = some (.int .i64 0) := g1.cell (i := 0) rfl
    have y3 : w2.cell? ⟨b0, 1, none⟩ = some (.int .i64 0) := g1.cell (i := 1) rfl
    have z0 := g1.frozen 0
    have z1 := g1.frozen 1
    obtain ⟨-, -, -, -, -, -, a2, -, b7⟩ := hR2
    have j3 : w2.cell? ⟨p, 3, none⟩ = some (.int .i64 61) := b7.cell (i := 3) rfl
    clear b7 x2 g1 HP
    go_wp2
    have x5 : Fx (fun k => k = b0) w2 ((w2.setCell ⟨b0, 0, none⟩ (.int .i64 0)).setCell ⟨b0, 1, none⟩ (.int .i64 0)) := ((Fx.refl (fun k => k = b0) w2).set (p := ⟨b0, 0, none⟩) (.inl rfl) _).set (p := ⟨b0, 1, none⟩) (.inl rfl) _
    have g2 := HE.out.2.2
    refine ret_cell Tryd.results44 rfl rfl (load_ins ((g2.set 0 (.int .i64 0)).set 1 (.int .i64 0))) ⟨_, _, rfl, ?_, ?_, fun v q hq => by rw [HI.out] at hq; cases hq⟩
    · rw [HI.out, HA.out]; exact HE.out.1.fx x5 (fun k hk => by subst hk; have := HH.out; have := H0.out.2.2.1; omega)
    · have h4 := (Fx.of_out (S := fun k => k = p) H0.out.2.1).trans HE.out.2.1
      exact ⟨x5.1.trans h4.1, x5.2.1.trans h4.2.1, x5.2.2.1.trans h4.2.2.1, Nat.le_trans h4.size x5.size, fun k z1 z2 => (x5.2.2.2.2 k (Nat.lt_of_lt_of_le z1 h4.size) (fun e => by have := H0.out.2.2.1; omega)).trans (h4.2.2.2.2 k z1 z2)⟩
end Go.Proofs.YtapjfokkcgdhhaaDoor
