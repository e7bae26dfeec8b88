import Derived.Test.YtcpignkjlnjjmaaGreatDoorNa29
import Derived.Test.YtcpignkjlnjjmaaGreatDoorNa27
import Derived.Test.YtcpignkjlnjjmaaGreatDoorNa17
namespace Go.Proofs.YtcpignkjlnjjmaaGreatDoor
open Go.RowKit
set_option linter.unusedVariables false
set_option linter.unusedSimpArgs false

/-- bytes as a number, the first one lowest -/
def pkU : List Int → Int
  | [] => 0
  | b :: bs => b + 256 * pkU bs
def Byt (bs : List Int) : Prop := ∀ b ∈ bs, 0 ≤ b ∧ b ≤ 255
theorem pkU_snoc (bs : List Int) (b : Int) : pkU (bs ++ [b]) = pkU bs + 256 ^ bs.length * b := by
  induction bs with
  | nil => simp [pkU]
  | cons c cs ih =>
    show c + 256 * pkU (cs ++ [b]) = c + 256 * pkU cs + 256 ^ (cs.length + 1) * b
    rw [ih, Int.pow_succ, Int.mul_add, Int.mul_comm (256 ^ cs.length) 256, Int.mul_assoc]
    omega
theorem pkU_lt {bs : List Int} (h : Byt bs) : 0 ≤ pkU bs ∧ pkU bs < 256 ^ bs.length := by
  induction bs with
  | nil => simp [pkU]
  | cons c cs ih =>
    have h1 := h c (by simp)
    have h2 := ih fun b hb => h b (by simp [hb])
    show 0 ≤ c + 256 * pkU cs ∧ c + 256 * pkU cs < 256 ^ (cs.length + 1)
    rw [Int.pow_succ]
    omega
theorem or_u (c t : Int) (k : Nat) (h1 : 0 ≤ c) (h2 : c * 2 ^ k + t < 18446744073709551616) (t1 : 0 ≤ t) (t2 : t < 2 ^ k) : bits .or .u64 t (c * 2 ^ k) = t + c * 2 ^ k := by
  have hp : (0 : Int) < 2 ^ k := Int.pow_pos (by decide)
  have hc : 0 ≤ c * 2 ^ k := Int.mul_nonneg h1 (Int.le_of_lt hp)
  have e : bits .or .u64 t (c * 2 ^ k) = IntKind.wrap .u64 ((BitVec.ofInt 64 t ||| BitVec.ofInt 64 (c * 2 ^ k)).toNat : Nat) := rfl
  have e1 : (c * 2 ^ k % 18446744073709551616).toNat = 2 ^ k * c.toNat := by
    rw [Int.emod_eq_of_lt hc (by omega), Int.toNat_mul h1 (Int.le_of_lt hp), Nat.mul_comm]
    congr 1
  have e2 : (t % 18446744073709551616).toNat = t.toNat := by omega
  have e3 : t.toNat < 2 ^ k := by
    have : ((2 ^ k : Nat) : Int) = (2 : Int) ^ k := by simp
    omega
  have h : (BitVec.ofInt 64 t ||| BitVec.ofInt 64 (c * 2 ^ k)).toNat = 2 ^ k * c.toNat + t.toNat := by
    rw [BitVec.or_comm, BitVec.toNat_or, ofInt_nat, ofInt_nat, e1, e2, Nat.two_pow_add_eq_or_of_lt e3]
  have e4 : ((2 ^ k * c.toNat + t.toNat : Nat) : Int) = c * 2 ^ k + t := by
    rw [Int.natCast_add, Int.natCast_mul, Int.toNat_of_nonneg h1, Int.toNat_of_nonneg t1, Int.natCast_pow, Int.mul_comm]
    simp
  rw [e, h, e4]
  generalize c * 2 ^ k = z at *
  simp [IntKind.wrap, IntKind.signed, IntKind.bits]
  omega
theorem pow256 (i : Nat) : (256 : Int) ^ i = 2 ^ (8 * i) := by
  rw [Int.pow_mul]
  rfl
theorem pow_small {i : Nat} (h : i < 8) : (2 : Int) ^ (8 * i) ≤ 72057594037927936 := by
  have : i = 0 ∨ i = 1 ∨ i = 2 ∨ i = 3 ∨ i = 4 ∨ i = 5 ∨ i = 6 ∨ i = 7 := by omega
  rcases this with rfl | rfl | rfl | rfl | rfl | rfl | rfl | rfl <;> decide
theorem pack_step {bs : List Int} {i : Nat} {b : Int} (h : Byt bs) (hb : bs[i]? = some b) (h8 : i < 8) : bits .or .u64 (pkU (bs.take i)) (IntKind.u64.wrap (b * 2 ^ (8 * i))) = pkU (bs.take (i + 1)) := by
  have hi := (List.getElem?_eq_some_iff.1 hb).1
  have hbb := h b (List.mem_of_getElem? hb)
  have hl := pkU_lt (bs := bs.take i) fun c hc => h c (List.mem_of_mem_take hc)
  have hlen : (bs.take i).length = i := by rw [List.length_take]; omega
  rw [hlen, pow256] at hl
  have hp := pow_small h8
  have hp0 : (0 : Int) < 2 ^ (8 * i) := Int.pow_pos (by decide)
  have hm : b * 2 ^ (8 * i) ≤ 255 * 72057594037927936 := Int.le_trans (Int.mul_le_mul_of_nonneg_right hbb.2 (Int.le_of_lt hp0)) (Int.mul_le_mul_of_nonneg_left hp (by decide))
  have hm0 : 0 ≤ b * 2 ^ (8 * i) := Int.mul_nonneg hbb.1 (Int.le_of_lt hp0)
  have hw : IntKind.u64.wrap (b * 2 ^ (8 * i)) = b * 2 ^ (8 * i) := by
    generalize b * 2 ^ (8 * i) = z at *
    simp [IntKind.wrap, IntKind.signed, IntKind.bits]
    omega
  rw [hw, or_u b _ (8 * i) hbb.1 (by generalize b * 2 ^ (8 * i) = z at *; omega) hl.1 hl.2]
  rw [List.take_add_one, hb]
  show _ = pkU (bs.take i ++ [b])
  rw [pkU_snoc, hlen, pow256, Int.mul_comm b]
/-- a slice of bytes: what its cells hold -/
def BytesAt (w : World) (p : Option Addr) (bs : List Int) : Prop := Byt bs ∧ (bs = [] ∨ ∃ g off, p = some ⟨g, off, none⟩ ∧ ∀ j b, bs[j]? = some b → w.cell? ⟨g, off + j, none⟩ = some (.int .u8 b))
set_option maxRecDepth 100000 in
set_option maxHeartbeats 1000000 in
theorem pack_any {w : World} {p : Option Addr} {bs : List Int} {cap : Nat} (h : BytesAt w p bs) (h8 : bs.length ≤ 8) :
    Calls Tryz.prog 26 #[.slice p bs.length cap] w fun e w' => e = .returned (.int .i64 (wrap64 (pkU bs))) ∧ w' = w := by
  have HB := hid_mk h
  clear h
  go_enter Tryz.func26, Tryz.ntmps26
  go_wp2_with fail
  go_loopw [3, 8] (fun x y wr => ∃ i : Nat, i ≤ bs.length ∧ x = .int .u64 (pkU (bs.take i)) ∧ y = .int .i64 i ∧ wr = w) (fun _ y _ => bs.length - (intOf y).toNat)
  case atStart => exact ⟨0, Nat.zero_le _, by simp [pkU], rfl, rfl⟩
  case round =>
    obtain ⟨i, i1, rfl, rfl, rfl⟩ := hrel
    have i0 : (0 : Int) ≤ (i : Int) := by omega
    by_cases hgo : i < bs.length
    · have g1 : (i : Int) < (bs.length : Int) := by omega
      have g8 : (i : Int) < 8 := by omega
      obtain ⟨b, hb⟩ : ∃ b, bs[i]? = some b := ⟨_, List.getElem?_eq_getElem hgo⟩
      have hbb := HB.out.1 b (List.mem_of_getElem? hb)
      rcases HB.out.2 with e | ⟨g, off, rfl, hc⟩
      · rw [e] at hgo; simp at hgo
      have c1 := hc i b hb
      obtain ⟨x, hx⟩ : ∃ x, pkU (bs.take i) = x := ⟨_, rfl⟩
      rw [hx]
      clear hc
      go_wp2_with fail
      rw [← hx]
      refine ⟨⟨i + 1, hgo, ?_, by go_num, trivial⟩, ?_⟩
      · rw [pack_step HB.out.1 hb (by omega)]
      · simp [intOf]; omega
    · have g1 : (bs.length : Int) ≤ (i : Int) := by omega
      have e : i = bs.length := by omega
      subst e
      go_wp2
      go_ret
      rw [List.take_length]
      exact ⟨rfl, rfl⟩
end Go.Proofs.YtcpignkjlnjjmaaGreatDoor
namespace Go.Proofs.YtcpignkjlnjjmaaGreatDoor
open Go.RowKit
set_option linter.unusedVariables false
set_option linter.unusedSimpArgs false

/-- the words of a new text: its length, and j words of its bytes -/
def mtC (n : Nat) (a : Int) (W : Nat → Int) (bs : List Int) : Nat → Nat → Int
  | 0 => pokeW n W (a + 1) bs.length
  | j + 1 => pokeW n (mtC n a W bs j) (a + 2 + j) (wrap64 (pkU ((bs.drop (8 * j)).take 8)))
def mtW (n : Nat) (a : Int) (W : Nat → Int) (bs : List Int) : Nat → Int := mtC n a W bs ((bs.length + 7) / 8)
section
variable {w : World} {lo hi hb : Nat} {s : Nat → Nat} {n cap : Nat} {st : Sp}
set_option maxRecDepth 100000 in
set_option maxHeartbeats 4000000 in
theorem MakeText_ok (h : SpAt w lo hi s n cap st) (hH : w.cell? ⟨hb, 0, none⟩ = some (.pointer (some ⟨s 14, 0, none⟩))) (hout : hb < lo ∨ hi ≤ hb) {p : Option Addr} {bs : List Int} {cb : Nat} (hB : BytesAt w p bs) (hcb : bs.length ≤ cb) (hpo : ∀ g off, p = some ⟨g, off, none⟩ → g < lo ∨ hi ≤ g) (hpl : bs.length ≤ 4096) {z a fa : Int} (hz : sizeB 4 bs.length = true) (hzv : sizeV 4 bs.length = z) (z1 : -9223372036854775808 ≤ z) (z2 : z ≤ 9223372036854775807) (hl : st.last < 4611686018427387904) (ha : (alF n st 4 z 0).1 = a) (he : (alF n st 4 z 0).2.1 = 0) (hf : (alF n st 4 z 0).2.2.1 = fa) {b1 b2 b3 b4 : Int} (hM : (rawOf n (alF n st 4 z 0).2.2.2).M a = some (b1, b2, b3, b4)) :
    Calls Tryz.prog 8 #[.pointer (some ⟨hb, 0, none⟩), .slice p bs.length cb] w fun e w' => e = .returned (.tuple #[.agg #[.int .i64 2, .int .i64 a], .agg #[.int .i64 0, .int .i64 0]]) ∧ SpAt w' lo hi s n cap (wSpO (alF n st 4 z 0).2.2.2 (mtW n a (alF n st 4 z 0).2.2.2.W bs)) ∧ Out lo hi w w' := by
  have hmf : ∀ (fn : Fn) (first cap : Array Value) (w : World), (Instr.makeFunc fn first cap).run Tryz.prog w = .ok (.func fn first cap) w := fun _ _ _ _ => rfl
  have Hh := hid_mk h
  have fR := hid_mk (two_first (w := w) (o := .cells #[.int .i64 0, .int .i64 0] 31) (o2 := .cells #[.int .i64 0, .int .i64 0] 33))
  have fF := hid_mk (two_second (w := w) (o := .cells #[.int .i64 0, .int .i64 0] 31) (o2 := .cells #[.int .i64 0, .int .i64 0] 33))
  have HO := hid_mk (((Out.refl 0 0 w).alloc (.cells #[.int .i64 0, .int .i64 0] 31)).alloc (.cells #[.int .i64 0, .int .i64 0] 33))
  obtain ⟨gv, hgv⟩ : ∃ g, w.heap.size = g := ⟨_, rfl⟩
  have Hgv := hid_mk hgv
  obtain ⟨V1, hV1⟩ : ∃ V, (w.alloc (.cells #[.int .i64 0, .int .i64 0] 31)).alloc (.cells #[.int .i64 0, .int .i64 0] 33) = V := ⟨_, rfl⟩
  rw [hV1, hgv] at fR fF
  rw [hV1] at HO
  have hH1 := HO.out.cell hH (.inr (Nat.zero_le _))
  have HH1 := hid_mk hH1
  have Hout := hid_mk hout
  have HBy := hid_mk (And.intro hB hpo)
  have hli : (bs.length : Int) ≤ 4096 := by omega
  clear h hH hout hB hpo
  have HTk := hid_mk (take_ok (Hh.out.quiet HO.out) hH1 Hout.out 4 bs.length 0 hz hzv z1 z2 hl ha he hf hM)
  have Ha : Hid (∀ V, SpAt V lo hi s n cap (alF n st 4 z 0).2.2.2 → 0 ≤ a ∧ a + b2 ≤ 64 * n ∧ 1 ≤ b2 ∧ b2 ≤ 1024 ∧ n ≤ 4096) := fun V hV => by
    have q := arenaO hV.2 a _ hM
    exact ⟨q.1, q.2.1, q.2.2.1, q.2.2.2, hV.1.n2⟩
  generalize (alF n st 4 z 0).2.2.2 = S2 at *
  clear hz hzv z1 z2 hl ha he hf hM hH1
  go_enter_defers Tryz.func8, Tryz.ntmps8
  go_wp2_with fail
  (try rw [hV1])
  (try rw [hgv])
  clear hV1 hgv
  refine (oself_any _ _).mono ?_
  rintro e w5 ⟨rfl, he⟩
  rw [he]
  clear he w5
  go_wp2_with fail
  refine HTk.out.mono ?_
  rintro e X3 ⟨rfl, S3, q3⟩
  replace Ha := hid_mk (Ha.out X3 S3)
  obtain ⟨gb, hgb⟩ : ∃ g, X3.heap.size = g := ⟨_, rfl⟩
  obtain ⟨V4, hV4⟩ : ∃ V, X3.alloc (.cells #[.int .i64 a, .int .i64 b1, .int .i64 b2, .int .i64 b3, .int .i64 b4] 44) = V := ⟨_, rfl⟩
  have o4 : Out 0 0 X3 V4 := by rw [← hV4]; exact (Out.refl 0 0 _).alloc _
  have f4 : V4.heap[gb]? = some (.cells #[.int .i64 a, .int .i64 b1, .int .i64 b2, .int .i64 b3, .int .i64 b4] 44 (0, 0)) := by rw [← hV4, ← hgb]; exact heap_alloc_new _ _
  have Hgb : Hid (hi ≤ gb) := by have h1 := S3.1.top; rw [← hgb]; exact h1
  have HB4 := hid_mk f4
  have HS4 := hid_mk (S3.quiet o4)
  have HQ1 := hid_mk (q3.trans (o4.any lo hi))
  obtain ⟨y0, y1, y2, y3, y4, y5⟩ := blk5 f4
  have y6 := HQ1.out.cell HH1.out Hout.out
  have hwr : IntKind.i64.wrap (a + 1) = a + 1 := by have h2 := Ha.out; rw [IntKind.wrap_i64]; omega
  clear S3 q3 o4 f4
  go_wp2_with fail
  (try rw [hV4])
  (try rw [hgb])
  clear hV4 hgb
  refine wp_region_held_drew (S := fun w' => w'.cell? ⟨hb, 0, none⟩ = some (.pointer (some ⟨s 14, 0, none⟩)) ∧ w'.cell? ⟨gb, 0, none⟩ = some (.int .i64 a)) (by kernel_rfl) ?hS61 (fun hHeld => ?rest61)
  case hS61 => exact ⟨y6, y0⟩
  obtain ⟨Z0, hZ⟩ : ∃ Z, V4.drew = Z := ⟨_, rfl⟩
  have O : Out 0 0 V4 Z0 := by rw [← hZ]; exact (Out.refl 0 0 _).drew
  rw [hZ] at hHeld ⊢
  clear hZ
  refine wpAnyH_take (i := 0) (v := ?v62) rfl (by kernel_rfl) (by kernel_rfl) (by kernel_rfl) (fun _ _ _ h => leaves_tmps (results_put2 Tryz.results8 (by decide) (by decide) _ _) _ _ _ h) (Or.inl ⟨by rfl, ?hy62⟩) (by assumption) ?rest62
  case hy62 => (intro w hSw; (try dsimp only at hSw); simp only [xa, xb, xc]; go_simp; (try with_reducible rfl))
  (try simp only [Act.put, xa, xb, xc, xd, xe, xf])
  refine wpAnyH_take (i := 1) (v := ?v63) rfl (by kernel_rfl) (by kernel_rfl) (by kernel_rfl) (fun _ _ _ h => leaves_tmps (results_put2 Tryz.results8 (by decide) (by decide) _ _) _ _ _ h) (Or.inl ⟨by rfl, ?hy63⟩) (by assumption) ?rest63
  case hy63 => (intro w hSw; (try dsimp only at hSw); simp only [xa, xb, xc]; go_simp; (try with_reducible rfl))
  (try simp only [Act.put, xa, xb, xc, xd, xe, xf])
  refine wpAnyH_take (i := 2) (v := ?v64) rfl (by kernel_rfl) (by kernel_rfl) (by kernel_rfl) (fun _ _ _ h => leaves_tmps (results_put2 Tryz.results8 (by decide) (by decide) _ _) _ _ _ h) (Or.inl ⟨by rfl, ?hy64⟩) (by assumption) ?rest64
  case hy64 => (intro w hSw; (try dsimp only at hSw); simp only [xa, xb, xc]; go_simp; (try with_reducible rfl))
  (try simp only [Act.put, xa, xb, xc, xd, xe, xf])
  refine wpAnyH_take (i := 3) (v := ?v65) rfl (by kernel_rfl) (by kernel_rfl) (by kernel_rfl) (fun _ _ _ h => leaves_tmps (results_put2 Tryz.results8 (by decide) (by decide) _ _) _ _ _ h) (Or.inl ⟨by rfl, ?hy65⟩) (by assumption) ?rest65
  case hy65 => (intro w hSw; (try dsimp only at hSw); simp only [xa, xb, xc]; go_simp; (try with_reducible rfl))
  (try simp only [Act.put, xa, xb, xc, xd, xe, xf])
  refine wpAnyH_take (i := 4) (v := ?v66) rfl (by kernel_rfl) (by kernel_rfl) (by kernel_rfl) (fun _ _ _ h => leaves_tmps (results_put2 Tryz.results8 (by decide) (by decide) _ _) _ _ _ h) (Or.inl ⟨by rfl, ?hy66⟩) (by assumption) ?rest66
  case hy66 => (intro w hSw; (try dsimp only at hSw); simp only [xa, xb, xc]; go_simp; (try with_reducible rfl))
  (try simp only [Act.put, xa, xb, xc, xd, xe, xf])
  refine wpAnyH_take (i := 5) (v := ?v67) rfl (by kernel_rfl) (by kernel_rfl) (by kernel_rfl) (fun _ _ _ h => leaves_tmps (results_put2 Tryz.results8 (by decide) (by decide) _ _) _ _ _ h) (Or.inl ⟨by rfl, ?hy67⟩) (by assumption) ?rest67
  case hy67 => (intro w hSw; (try dsimp only at hSw); simp only [xa, xb, xc]; go_simp; (try with_reducible rfl))
  (try simp only [Act.put, xa, xb, xc, xd, xe, xf])
  refine wpAnyH_take (i := 6) (v := ?v68) rfl (by kernel_rfl) (by kernel_rfl) (by kernel_rfl) (fun _ _ _ h => leaves_tmps (results_put2 Tryz.results8 (by decide) (by decide) _ _) _ _ _ h) (Or.inl ⟨by rfl, ?hy68⟩) (by assumption) ?rest68
  case hy68 => (intro w hSw; (try dsimp only at hSw); simp only [xa, xb, xc]; go_simp; (try with_reducible rfl))
  (try simp only [Act.put, xa, xb, xc, xd, xe, xf])
  refine wpAnyH_take (i := 7) (v := ?v69) rfl (by kernel_rfl) (by kernel_rfl) (by kernel_rfl) (fun _ _ _ h => leaves_tmps (results_put2 Tryz.results8 (by decide) (by decide) _ _) _ _ _ h) (Or.inl ⟨by rfl, ?hy69⟩) (by assumption) ?rest69
  case hy69 => (intro w hSw; (try dsimp only at hSw); simp only [xa, xb, xc]; go_simp; (try with_reducible rfl))
  (try simp only [Act.put, xa, xb, xc, xd, xe, xf])
  refine wpAnyH_take (i := 8) (v := ?v70) rfl (by kernel_rfl) (by kernel_rfl) (by kernel_rfl) (fun _ _ _ h => leaves_tmps (results_put2 Tryz.results8 (by decide) (by decide) _ _) _ _ _ h) (Or.inl ⟨by rfl, ?hy70⟩) (by assumption) ?rest70
  case hy70 => (intro w hSw; (try dsimp only at hSw); simp only [xa, xb, xc]; go_simp; (try with_reducible rfl))
  (try simp only [Act.put, xa, xb, xc, xd, xe, xf])
  refine wpAnyH_ready (rs := [9]) (by kernel_rfl) (by simp) ?_
  refine AllReadyH.cons rfl (fun KK hK => ?_) AllReadyH.nil
  simp only [xa, xb, xc]
  go_simp
  refine (spPokeO (HS4.out.quiet O) (a + 1) (bs.length : Int)).mono ?_
  rintro e X6 ⟨rfl, P6, q6⟩
  refine hK.out _ _ ?hS71 (fun hHeld2 => ?rest71)
  case hS71 => exact ⟨q6.cell hHeld.1 Hout.out, q6.cell hHeld.2 (.inr Hgb.out)⟩
  clear hK KK
  (try clear hHeld)
  have hHeld := hHeld2
  clear hHeld2
  (try simp only [Act.put, xa, xb, xc, xd, xe, xf])
  refine wpAnyH_done (by kernel_rfl) ?_ _
  have HS6 := hid_mk P6
  have HQ6 := hid_mk ((O.any lo hi).trans q6)
  clear hHeld P6 q6 O y0 y1 y2 y3 y4 y5 y6
  go_wp2_with fail
  go_loopw [7] (fun y wr => ∃ j : Nat, 8 * j ≤ bs.length + 7 ∧ y = .int .i64 ((8 * j : Nat) : Int) ∧ SpAt wr lo hi s n cap (wSpO S2 (mtC n a S2.W bs j)) ∧ Out lo hi X6 wr) (fun y _ => bs.length + 8 - (intOf y).toNat)
  case atStart => exact ⟨0, by omega, rfl, HS6.out, Out.refl _ _ _⟩
  case round =>
    obtain ⟨j, j1, rfl, hS, hO⟩ := hrel
    have Hrel := hid_mk (And.intro hS hO)
    clear hS hO
    by_cases hj : 8 * j < bs.length
    · have b1' : ((8 * j : Nat) : Int) < (bs.length : Int) := by omega
      have b0 : (0 : Int) ≤ ((8 * j : Nat) : Int) := by omega
      have hHq := HQ1.out.trans (HQ6.out.trans Hrel.out.2)
      obtain ⟨y0, _, _, _, _, _⟩ := blk5 ((HQ6.out.trans Hrel.out.2).heap HB4.out (.inr Hgb.out))
      have y6 := hHq.cell HH1.out Hout.out
      rcases HBy.out.1.2 with e | ⟨g, off, rfl, hc⟩
      · rw [e] at hj; simp at hj
      have hgo := HBy.out.2 g off rfl
      have hci : (bs.length : Int) ≤ (cb : Int) := by omega
      obtain ⟨i, hi8⟩ : ∃ i, 8 * j = i := ⟨_, rfl⟩
      rw [hi8] at b1' b0 ⊢
      have bi : (i : Int) ≤ 4096 := by omega
      have Hi8 := hid_mk hi8
      have hwr2 : IntKind.i64.wrap (a + 2) = a + 2 := by have h2 := Ha.out; rw [IntKind.wrap_i64]; omega
      have hwr3 : IntKind.i64.wrap (a + 2 + (j : Int)) = a + 2 + (j : Int) := by have h2 := Ha.out; rw [IntKind.wrap_i64]; omega
      have hq8 : Int.tdiv (i : Int) 8 = (j : Int) := by rw [Int.tdiv_eq_ediv_of_nonneg (by omega)]; omega
      have hwj : IntKind.i64.wrap (j : Int) = (j : Int) := by rw [IntKind.wrap_i64]; omega
      have HC : Hid (∀ X, Out 0 0 wr X → BytesAt X (some ⟨g, off + i, none⟩) ((bs.drop i).take 8)) := fun X o => by
        refine ⟨fun b hb => HBy.out.1.1 b (List.mem_of_mem_drop (List.mem_of_mem_take hb)), .inr ⟨g, off + i, rfl, fun k b hk => ?_⟩⟩
        have hk' : bs[i + k]? = some b := by
          rw [List.getElem?_take] at hk
          split at hk
          · rwa [List.getElem?_drop] at hk
          · cases hk
        have h1 := hc (i + k) b hk'
        rw [← Nat.add_assoc] at h1
        exact o.cell (hHq.cell (HO.out.cell h1 (.inr (Nat.zero_le _))) hgo) (.inr (Nat.zero_le _))
      have hlen : ((bs.drop i).take 8).length = min 8 (bs.length - i) := by simp
      obtain ⟨L, hL⟩ : ∃ L, ((bs.drop i).take 8).length = L := ⟨_, rfl⟩
      have HPk : Hid (∀ X, Out 0 0 wr X → Calls Tryz.prog 26 #[.slice (some ⟨g, off + i, none⟩) L (cb - i)] X fun e w' => e = .returned (.int .i64 (wrap64 (pkU ((bs.drop i).take 8)))) ∧ w' = X) := fun X o => by
        have h := pack_any (cap := cb - i) (HC.out X o) (by rw [hlen]; omega)
        rw [hL] at h
        exact h
      rw [hL] at hlen
      clear HC hc hHq hL hi8
      by_cases hm : (i : Int) + 8 ≤ (bs.length : Int)
      · have hLa : i + 8 - i = L := by omega
        clear hlen
        go_wp2_with fail
        (try rw [hLa])
        clear hLa
        refine wp_region_held_drew (S := fun w' => w'.cell? ⟨hb, 0, none⟩ = some (.pointer (some ⟨s 14, 0, none⟩)) ∧ w'.cell? ⟨gb, 0, none⟩ = some (.int .i64 a)) (by kernel_rfl) ?hS72 (fun hHeld => ?rest72)
        case hS72 => exact ⟨y6, y0⟩
        obtain ⟨Z0, hZ⟩ : ∃ Z, wr.drew = Z := ⟨_, rfl⟩
        have O : Out 0 0 wr Z0 := by rw [← hZ]; exact (Out.refl 0 0 _).drew
        rw [hZ] at hHeld ⊢
        clear hZ
        refine wpAnyH_take (i := 0) (v := ?v73) rfl (by kernel_rfl) (by kernel_rfl) (by kernel_rfl) (fun _ _ _ h => leaves_tmps (results_put2 Tryz.results8 (by decide) (by decide) _ _) _ _ _ h) (Or.inl ⟨by rfl, ?hy73⟩) (by assumption) ?rest73
        case hy73 => (intro w hSw; (try dsimp only at hSw); simp only [xa, xb, xc]; go_simp; (try with_reducible rfl))
        (try simp only [Act.put, xa, xb, xc, xd, xe, xf])
        refine wpAnyH_take (i := 1) (v := ?v74) rfl (by kernel_rfl) (by kernel_rfl) (by kernel_rfl) (fun _ _ _ h => leaves_tmps (results_put2 Tryz.results8 (by decide) (by decide) _ _) _ _ _ h) (Or.inl ⟨by rfl, ?hy74⟩) (by assumption) ?rest74
        case hy74 => (intro w hSw; (try dsimp only at hSw); simp only [xa, xb, xc]; go_simp; (try with_reducible rfl))
        (try simp only [Act.put, xa, xb, xc, xd, xe, xf])
        refine wpAnyH_take (i := 2) (v := ?v75) rfl (by kernel_rfl) (by kernel_rfl) (by kernel_rfl) (fun _ _ _ h => leaves_tmps (results_put2 Tryz.results8 (by decide) (by decide) _ _) _ _ _ h) (Or.inl ⟨by rfl, ?hy75⟩) (by assumption) ?rest75
        case hy75 => (intro w hSw; (try dsimp only at hSw); simp only [xa, xb, xc]; go_simp; (try with_reducible rfl))
        (try simp only [Act.put, xa, xb, xc, xd, xe, xf])
        refine wpAnyH_take (i := 3) (v := ?v76) rfl (by kernel_rfl) (by kernel_rfl) (by kernel_rfl) (fun _ _ _ h => leaves_tmps (results_put2 Tryz.results8 (by decide) (by decide) _ _) _ _ _ h) (Or.inl ⟨by rfl, ?hy76⟩) (by assumption) ?rest76
        case hy76 => (intro w hSw; (try dsimp only at hSw); simp only [xa, xb, xc]; go_simp; (try with_reducible rfl))
        (try simp only [Act.put, xa, xb, xc, xd, xe, xf])
        refine wpAnyH_take (i := 4) (v := ?v77) rfl (by kernel_rfl) (by kernel_rfl) (by kernel_rfl) (fun _ _ _ h => leaves_tmps (results_put2 Tryz.results8 (by decide) (by decide) _ _) _ _ _ h) (Or.inl ⟨by rfl, ?hy77⟩) (by assumption) ?rest77
        case hy77 => (intro w hSw; (try dsimp only at hSw); simp only [xa, xb, xc]; go_simp; (try with_reducible rfl))
        (try simp only [Act.put, xa, xb, xc, xd, xe, xf])
        refine wpAnyH_take (i := 5) (v := ?v78) rfl (by kernel_rfl) (by kernel_rfl) (by kernel_rfl) (fun _ _ _ h => leaves_tmps (results_put2 Tryz.results8 (by decide) (by decide) _ _) _ _ _ h) (Or.inl ⟨by rfl, ?hy78⟩) (by assumption) ?rest78
        case hy78 => (intro w hSw; (try dsimp only at hSw); simp only [xa, xb, xc]; go_simp; (try with_reducible rfl))
        (try simp only [Act.put, xa, xb, xc, xd, xe, xf])
        refine wpAnyH_take (i := 6) (v := ?v79) rfl (by kernel_rfl) (by kernel_rfl) (by kernel_rfl) (fun _ _ _ h => leaves_tmps (results_put2 Tryz.results8 (by decide) (by decide) _ _) _ _ _ h) (Or.inl ⟨by rfl, ?hy79⟩) (by assumption) ?rest79
        case hy79 => (intro w hSw; (try dsimp only at hSw); simp only [xa, xb, xc]; go_simp; (try with_reducible rfl))
        (try simp only [Act.put, xa, xb, xc, xd, xe, xf])
        refine wpAnyH_take (i := 7) (v := ?v80) rfl (by kernel_rfl) (by kernel_rfl) (by kernel_rfl) (fun _ _ _ h => leaves_tmps (results_put2 Tryz.results8 (by decide) (by decide) _ _) _ _ _ h) (Or.inl ⟨by rfl, ?hy80⟩) (by assumption) ?rest80
        case hy80 => (intro w hSw; (try dsimp only at hSw); simp only [xa, xb, xc]; go_simp; (try with_reducible rfl))
        (try simp only [Act.put, xa, xb, xc, xd, xe, xf])
        refine wpAnyH_take (i := 8) (v := ?v81) rfl (by kernel_rfl) (by kernel_rfl) (by kernel_rfl) (fun _ _ _ h => leaves_tmps (results_put2 Tryz.results8 (by decide) (by decide) _ _) _ _ _ h) (Or.inl ⟨by rfl, ?hy81⟩) (by assumption) ?rest81
        case hy81 => (intro w hSw; (try dsimp only at hSw); simp only [xa, xb, xc]; go_simp; (try with_reducible rfl))
        (try simp only [Act.put, xa, xb, xc, xd, xe, xf])
        refine wpAnyH_take (i := 9) (v := ?v82) rfl (by kernel_rfl) (by kernel_rfl) (by kernel_rfl) (fun _ _ _ h => leaves_tmps (results_put2 Tryz.results8 (by decide) (by decide) _ _) _ _ _ h) (Or.inl ⟨by rfl, ?hy82⟩) (by assumption) ?rest82
        case hy82 => (intro w hSw; (try dsimp only at hSw); simp only [xa, xb, xc]; go_simp; (try with_reducible rfl))
        (try simp only [Act.put, xa, xb, xc, xd, xe, xf])
        refine wpAnyH_take (i := 10) (v := ?v83) rfl (by kernel_rfl) (by kernel_rfl) (by kernel_rfl) (fun _ _ _ h => leaves_tmps (results_put2 Tryz.results8 (by decide) (by decide) _ _) _ _ _ h) (Or.inl ⟨by rfl, ?hy83⟩) (by assumption) ?rest83
        case hy83 => (intro w hSw; (try dsimp only at hSw); simp only [xa, xb, xc]; go_simp; (try with_reducible rfl))
        (try simp only [Act.put, xa, xb, xc, xd, xe, xf])
        refine wpAnyH_ready (rs := [11]) (by kernel_rfl) (by simp) ?_
        refine AllReadyH.cons rfl (fun KK hK => ?_) AllReadyH.nil
        simp only [xa, xb, xc]
        go_simp
        refine (HPk.out _ O).mono ?_
        rintro e X7 ⟨rfl, he⟩
        rw [he]
        clear he X7
        refine hK.out _ _ ?hS84 (fun hHeld2 => ?rest84)
        case hS84 => exact hHeld
        clear hK KK
        (try clear hHeld)
        have hHeld := hHeld2
        clear hHeld2
        (try simp only [Act.put, xa, xb, xc, xd, xe, xf])
        refine wpAnyH_ready (rs := [12]) (by kernel_rfl) (by simp) ?_
        refine AllReadyH.cons rfl (fun KK hK => ?_) AllReadyH.nil
        simp only [xa, xb, xc]
        go_simp
        refine (spPokeO (Hrel.out.1.quiet O) _ _).mono ?_
        rintro e X9 ⟨rfl, P9, q9⟩
        refine hK.out _ _ ?hS85 (fun hHeld2 => ?rest85)
        case hS85 => exact ⟨q9.cell hHeld.1 Hout.out, q9.cell hHeld.2 (.inr Hgb.out)⟩
        clear hK KK
        (try clear hHeld)
        have hHeld := hHeld2
        clear hHeld2
        (try simp only [Act.put, xa, xb, xc, xd, xe, xf])
        refine wpAnyH_done (by kernel_rfl) ?_ _
        have HP9 : Hid (SpAt X9 lo hi s n cap (wSpO S2 (mtC n a S2.W bs (j + 1)))) := by
          have hi8 := Hi8.out
          have e : mtC n a S2.W bs (j + 1) = pokeW n (mtC n a S2.W bs j) (a + 2 + j) (wrap64 (pkU ((bs.drop i).take 8))) := by rw [← hi8]; rfl
          rw [e]
          exact P9
        have HQ9 := hid_mk ((Hrel.out.2.trans (O.any lo hi)).trans q9)
        clear hHeld P9 q9 O y0 y6
        go_wp2_with fail
        go_roundw
        case rel => exact ⟨j + 1, by have := Hi8.out; omega, by have := Hi8.out; rw [show ((8 * (j + 1) : Nat) : Int) = (i : Int) + 8 from by omega], HP9.out, HQ9.out⟩
        case measure => have := Hi8.out; simp [intOf]; omega
      · have hm' : (bs.length : Int) < (i : Int) + 8 := by omega
        have hLa : bs.length - i = L := by omega
        clear hlen
        go_wp2_with fail
        (try rw [hLa])
        clear hLa
        refine wp_region_held_drew (S := fun w' => w'.cell? ⟨hb, 0, none⟩ = some (.pointer (some ⟨s 14, 0, none⟩)) ∧ w'.cell? ⟨gb, 0, none⟩ = some (.int .i64 a)) (by kernel_rfl) ?hS86 (fun hHeld => ?rest86)
        case hS86 => exact ⟨y6, y0⟩
        obtain ⟨Z0, hZ⟩ : ∃ Z, wr.drew = Z := ⟨_, rfl⟩
        have O : Out 0 0 wr Z0 := by rw [← hZ]; exact (Out.refl 0 0 _).drew
        rw [hZ] at hHeld ⊢
        clear hZ
        refine wpAnyH_take (i := 0) (v := ?v87) rfl (by kernel_rfl) (by kernel_rfl) (by kernel_rfl) (fun _ _ _ h => leaves_tmps (results_put2 Tryz.results8 (by decide) (by decide) _ _) _ _ _ h) (Or.inl ⟨by rfl, ?hy87⟩) (by assumption) ?rest87
        case hy87 => (intro w hSw; (try dsimp only at hSw); simp only [xa, xb, xc]; go_simp; (try with_reducible rfl))
        (try simp only [Act.put, xa, xb, xc, xd, xe, xf])
        refine wpAnyH_take (i := 1) (v := ?v88) rfl (by kernel_rfl) (by kernel_rfl) (by kernel_rfl) (fun _ _ _ h => leaves_tmps (results_put2 Tryz.results8 (by decide) (by decide) _ _) _ _ _ h) (Or.inl ⟨by rfl, ?hy88⟩) (by assumption) ?rest88
        case hy88 => (intro w hSw; (try dsimp only at hSw); simp only [xa, xb, xc]; go_simp; (try with_reducible rfl))
        (try simp only [Act.put, xa, xb, xc, xd, xe, xf])
        refine wpAnyH_take (i := 2) (v := ?v89) rfl (by kernel_rfl) (by kernel_rfl) (by kernel_rfl) (fun _ _ _ h => leaves_tmps (results_put2 Tryz.results8 (by decide) (by decide) _ _) _ _ _ h) (Or.inl ⟨by rfl, ?hy89⟩) (by assumption) ?rest89
        case hy89 => (intro w hSw; (try dsimp only at hSw); simp only [xa, xb, xc]; go_simp; (try with_reducible rfl))
        (try simp only [Act.put, xa, xb, xc, xd, xe, xf])
        refine wpAnyH_take (i := 3) (v := ?v90) rfl (by kernel_rfl) (by kernel_rfl) (by kernel_rfl) (fun _ _ _ h => leaves_tmps (results_put2 Tryz.results8 (by decide) (by decide) _ _) _ _ _ h) (Or.inl ⟨by rfl, ?hy90⟩) (by assumption) ?rest90
        case hy90 => (intro w hSw; (try dsimp only at hSw); simp only [xa, xb, xc]; go_simp; (try with_reducible rfl))
        (try simp only [Act.put, xa, xb, xc, xd, xe, xf])
        refine wpAnyH_take (i := 4) (v := ?v91) rfl (by kernel_rfl) (by kernel_rfl) (by kernel_rfl) (fun _ _ _ h => leaves_tmps (results_put2 Tryz.results8 (by decide) (by decide) _ _) _ _ _ h) (Or.inl ⟨by rfl, ?hy91⟩) (by assumption) ?rest91
        case hy91 => (intro w hSw; (try dsimp only at hSw); simp only [xa, xb, xc]; go_simp; (try with_reducible rfl))
        (try simp only [Act.put, xa, xb, xc, xd, xe, xf])
        refine wpAnyH_take (i := 5) (v := ?v92) rfl (by kernel_rfl) (by kernel_rfl) (by kernel_rfl) (fun _ _ _ h => leaves_tmps (results_put2 Tryz.results8 (by decide) (by decide) _ _) _ _ _ h) (Or.inl ⟨by rfl, ?hy92⟩) (by assumption) ?rest92
        case hy92 => (intro w hSw; (try dsimp only at hSw); simp only [xa, xb, xc]; go_simp; (try with_reducible rfl))
        (try simp only [Act.put, xa, xb, xc, xd, xe, xf])
        refine wpAnyH_take (i := 6) (v := ?v93) rfl (by kernel_rfl) (by kernel_rfl) (by kernel_rfl) (fun _ _ _ h => leaves_tmps (results_put2 Tryz.results8 (by decide) (by decide) _ _) _ _ _ h) (Or.inl ⟨by rfl, ?hy93⟩) (by assumption) ?rest93
        case hy93 => (intro w hSw; (try dsimp only at hSw); simp only [xa, xb, xc]; go_simp; (try with_reducible rfl))
        (try simp only [Act.put, xa, xb, xc, xd, xe, xf])
        refine wpAnyH_take (i := 7) (v := ?v94) rfl (by kernel_rfl) (by kernel_rfl) (by kernel_rfl) (fun _ _ _ h => leaves_tmps (results_put2 Tryz.results8 (by decide) (by decide) _ _) _ _ _ h) (Or.inl ⟨by rfl, ?hy94⟩) (by assumption) ?rest94
        case hy94 => (intro w hSw; (try dsimp only at hSw); simp only [xa, xb, xc]; go_simp; (try with_reducible rfl))
        (try simp only [Act.put, xa, xb, xc, xd, xe, xf])
        refine wpAnyH_take (i := 8) (v := ?v95) rfl (by kernel_rfl) (by kernel_rfl) (by kernel_rfl) (fun _ _ _ h => leaves_tmps (results_put2 Tryz.results8 (by decide) (by decide) _ _) _ _ _ h) (Or.inl ⟨by rfl, ?hy95⟩) (by assumption) ?rest95
        case hy95 => (intro w hSw; (try dsimp only at hSw); simp only [xa, xb, xc]; go_simp; (try with_reducible rfl))
        (try simp only [Act.put, xa, xb, xc, xd, xe, xf])
        refine wpAnyH_take (i := 9) (v := ?v96) rfl (by kernel_rfl) (by kernel_rfl) (by kernel_rfl) (fun _ _ _ h => leaves_tmps (results_put2 Tryz.results8 (by decide) (by decide) _ _) _ _ _ h) (Or.inl ⟨by rfl, ?hy96⟩) (by assumption) ?rest96
        case hy96 => (intro w hSw; (try dsimp only at hSw); simp only [xa, xb, xc]; go_simp; (try with_reducible rfl))
        (try simp only [Act.put, xa, xb, xc, xd, xe, xf])
        refine wpAnyH_take (i := 10) (v := ?v97) rfl (by kernel_rfl) (by kernel_rfl) (by kernel_rfl) (fun _ _ _ h => leaves_tmps (results_put2 Tryz.results8 (by decide) (by decide) _ _) _ _ _ h) (Or.inl ⟨by rfl, ?hy97⟩) (by assumption) ?rest97
        case hy97 => (intro w hSw; (try dsimp only at hSw); simp only [xa, xb, xc]; go_simp; (try with_reducible rfl))
        (try simp only [Act.put, xa, xb, xc, xd, xe, xf])
        refine wpAnyH_ready (rs := [11]) (by kernel_rfl) (by simp) ?_
        refine AllReadyH.cons rfl (fun KK hK => ?_) AllReadyH.nil
        simp only [xa, xb, xc]
        go_simp
        refine (HPk.out _ O).mono ?_
        rintro e X7 ⟨rfl, he⟩
        rw [he]
        clear he X7
        refine hK.out _ _ ?hS98 (fun hHeld2 => ?rest98)
        case hS98 => exact hHeld
        clear hK KK
        (try clear hHeld)
        have hHeld := hHeld2
        clear hHeld2
        (try simp only [Act.put, xa, xb, xc, xd, xe, xf])
        refine wpAnyH_ready (rs := [12]) (by kernel_rfl) (by simp) ?_
        refine AllReadyH.cons rfl (fun KK hK => ?_) AllReadyH.nil
        simp only [xa, xb, xc]
        go_simp
        refine (spPokeO (Hrel.out.1.quiet O) _ _).mono ?_
        rintro e X9 ⟨rfl, P9, q9⟩
        refine hK.out _ _ ?hS99 (fun hHeld2 => ?rest99)
        case hS99 => exact ⟨q9.cell hHeld.1 Hout.out, q9.cell hHeld.2 (.inr Hgb.out)⟩
        clear hK KK
        (try clear hHeld)
        have hHeld := hHeld2
        clear hHeld2
        (try simp only [Act.put, xa, xb, xc, xd, xe, xf])
        refine wpAnyH_done (by kernel_rfl) ?_ _
        have HP9 : Hid (SpAt X9 lo hi s n cap (wSpO S2 (mtC n a S2.W bs (j + 1)))) := by
          have hi8 := Hi8.out
          have e : mtC n a S2.W bs (j + 1) = pokeW n (mtC n a S2.W bs j) (a + 2 + j) (wrap64 (pkU ((bs.drop i).take 8))) := by rw [← hi8]; rfl
          rw [e]
          exact P9
        have HQ9 := hid_mk ((Hrel.out.2.trans (O.any lo hi)).trans q9)
        clear hHeld P9 q9 O y0 y6
        go_wp2_with fail
        go_roundw
        case rel => exact ⟨j + 1, by have := Hi8.out; omega, by have := Hi8.out; rw [show ((8 * (j + 1) : Nat) : Int) = (i : Int) + 8 from by omega], HP9.out, HQ9.out⟩
        case measure => have := Hi8.out; simp [intOf]; omega
    · have b1' : (bs.length : Int) ≤ ((8 * j : Nat) : Int) := by omega
      have ej : (bs.length + 7) / 8 = j := by omega
      have HE : Hid (SpAt wr lo hi s n cap (wSpO S2 (mtW n a S2.W bs))) := by
        unfold mtW
        rw [ej]
        exact Hrel.out.1
      obtain ⟨y0, y1, y2, y3, y4, y5⟩ := blk5 ((HQ6.out.trans Hrel.out.2).heap HB4.out (.inr Hgb.out))
      have HVa : Hid (validB_v 2 a = true) := by
        have h1 := Ha.out
        unfold validB_v
        rw [decide_eq_true_eq]
        exact .inr (.inl ⟨rfl, by omega, by omega⟩)
      go_wp2_with fail
      refine (refr_at HVa.out _).mono ?_
      rintro e X8 ⟨rfl, q8⟩
      have HQ8 := hid_mk ((HQ1.out.trans (HQ6.out.trans Hrel.out.2)).trans (q8.any lo hi))
      have HR8 := hid_mk (HQ8.out.heap fR.out (.inr (by have h1 := Hh.out.1.top; have h2 := Hgv.out; omega)))
      have HF8 := hid_mk (HQ8.out.heap fF.out (.inr (by have h1 := Hh.out.1.top; have h2 := Hgv.out; omega)))
      have HS8 := hid_mk (HE.out.quiet q8)
      obtain ⟨a0, a1, a2, a3⟩ := val_facts HR8.out
      obtain ⟨c0, c1, c2, c3⟩ := flt_facts HF8.out
      have e1 := val_set (x1 := 2) (x2 := a) HR8.out
      have o1 := (Out.refl gv (gv + 1) X8).set2 (b := gv) (o := 0) (o' := 1) (.inl ⟨Nat.le_refl _, Nat.lt_succ_self _⟩) (.int .i64 2) (.int .i64 a)
      have f1 := o1.heap HF8.out (.inr (Nat.le_refl _))
      have f2 := flt_set (x' := 0) (y' := 0) f1
      have o2 := (Out.refl (gv + 1) (gv + 2) ((X8.setCell ⟨gv, 0, none⟩ (.int .i64 2)).setCell ⟨gv, 1, none⟩ (.int .i64 a))).set2 (b := gv + 1) (o := 0) (o' := 1) (.inl ⟨Nat.le_refl _, Nat.lt_succ_self _⟩) (.int .i64 0) (.int .i64 0)
      have e2 := o2.heap e1 (.inl (Nat.lt_succ_self _))
      have hd : hi ≤ gv := by have h1 := Hh.out.1.top; have h2 := Hgv.out; omega
      have hn : 4 ≤ gv := by have h3 := Hh.out.1.glob; have h4 := Hh.out.1.inn 0 (by omega); omega
      have P9 := (HS8.out.kept o1 (.inl hd) (.inl hn)).kept o2 (.inl (by omega)) (.inl (by omega))
      have Q9 := (((HO.out.any lo hi).trans HQ8.out).then o1 (by have := Hgv.out; omega)).then o2 (by have := Hgv.out; omega)
      have HL9 := hid_mk (And.intro e2 (And.intro f2 (And.intro P9 Q9)))
      clear q8 e1 o1 f1 f2 o2 e2 P9 Q9
      go_wp2
      refine leaves_cons (f := 22) (args := #[.pointer (some ⟨gv + 1, 0, none⟩)]) (by simp) (by simp [go_sem]) ?_
      refine (catchMakeText_idle HL9.out.2.1).mono ?_
      rintro e u' w9 ⟨rfl, rfl, f9, q9⟩
      exact leaves_ret (results_two Tryz.results8 rfl rfl (load_val (q9.heap HL9.out.1 (.inl (Nat.lt_succ_self _)))) (load_flt f9)) ⟨rfl, HL9.out.2.2.1.kept q9 (.inl (by omega)) (.inl (by omega)), HL9.out.2.2.2.then q9 (by have := Hgv.out; omega)⟩
end
end Go.Proofs.YtcpignkjlnjjmaaGreatDoor
namespace Go.Proofs.YtcpignkjlnjjmaaGreatDoor
open Go.RowKit
set_option linter.unusedVariables false
set_option linter.unusedSimpArgs false

theorem results_putm {fn : Func} {p q : Tmp} {b : TypeId} (hr : fn.results = #[.tmp p, .cell q b]) {d : Tmp} (h1 : d ≠ p) (h2 : d ≠ q) (t : Array Value) (v : Value) : results fn (t.setIfInBounds d v) = results fn t := by
  simp only [results, hr]
  simp [Array.getElem?_setIfInBounds_ne h1, Array.getElem?_setIfInBounds_ne h2]
theorem results_mix {P : Program} {fn : Func} {p q : Tmp} {b : TypeId} {t : Array Value} {w : World} {v1 v2 : Value} {A2 : Addr} (hr : fn.results = #[.tmp p, .cell q b]) (hp : t.getD p undef = v1) (hq : t.getD q undef = .pointer (some A2)) (r2 : (loadVar b A2).run P w = .ok v2 w) : (results fn t).run P w = .ok (.tuple #[v1, v2]) w := by
  have hp' : t[p]?.getD undef = v1 := by simpa using hp
  have hq' : t[q]?.getD undef = .pointer (some A2) := by simpa using hq
  simp only [results, hr]
  simp [Sem.run_bind, hp', hq', asAddr, r2, Result.andThen]
/-- a byte of a word -/
def byV (x : Int) (r : Nat) : Int := x % 18446744073709551616 / 2 ^ (8 * r) % 256
def txL (W : Nat → Int) (q L : Nat) : List Int := (List.range L).map fun i => byV (W (q + 2 + i / 8)) (i % 8)
def txF (W : Nat → Int) (q i : Nat) : Nat → Value := fun j => if j < i then .int .u8 (byV (W (q + 2 + j / 8)) (j % 8)) else .int .u8 0
theorem make_bytes (m : Nat) (hm : m ≤ 262144) : ∃ cur : Array Value, (∀ i, i < m → cur[i]? = some (.int .u8 0)) ∧ cur.size = m ∧ ∀ w : World, (Instr.makeSlice 24 (.int .i64 (m : Int)) (.int .i64 (m : Int))).run Tryz.prog w = .ok (.slice (some ⟨w.heap.size, 0, none⟩) m m) (w.alloc (.cells cur 5)) :=
  ⟨madeCells #[Value.int .u8 0] m, fun i h => by simp [madeCells, h, Nat.mod_one], size_madeCells _ _, fun w => run_make_row' (P := Tryz.prog) 24 5 (.int .u8 0) 1 Tryz.underlying24 (by kernel_rfl) rfl .i64 .i64 m (by omega) (by omega) w⟩
section
variable {w : World} {lo hi hb : Nat} {s : Nat → Nat} {n cap : Nat} {r : Raw}
set_option maxRecDepth 100000 in
set_option maxHeartbeats 4000000 in
theorem Text_in (hr : RawAt w lo hi s n cap r) (hA : InArena n r) (hH : w.cell? ⟨hb, 0, none⟩ = some (.pointer (some ⟨s 14, 0, none⟩))) (k m : Int) {t2 t3 t4 : Int} (hM : r.M m = some (4, t2, t3, t4)) (hop : opE r k m = 0) (hn : n ≤ 4096) (ht2 : 2 ≤ t2) {L : Nat} (hx : peekV n r.W (m + 1) = L) (hL : (L : Int) ≤ 8 * (t2 - 2)) :
    Calls Tryz.prog 9 #[.pointer (some ⟨hb, 0, none⟩), .agg #[.int .i64 k, .int .i64 m]] w fun e w' => ∃ g, e = .returned (.tuple #[.slice (some ⟨g, 0, none⟩) L L, .agg #[.int .i64 0, .int .i64 0]]) ∧ BytesAt w' (some ⟨g, 0, none⟩) (txL r.W m.toNat L) ∧ w.heap.size ≤ g ∧ Out 0 0 w w' := by
  have hmf : ∀ (fn : Fn) (first cap : Array Value) (w : World), (Instr.makeFunc fn first cap).run Tryz.prog w = .ok (.func fn first cap) w := fun _ _ _ _ => rfl
  have fV := hid_mk (two_first (w := w) (o := .cells #[.int .i64 k, .int .i64 m] 31) (o2 := .cells #[.int .i64 0, .int .i64 0] 33))
  have fF := hid_mk (two_second (w := w) (o := .cells #[.int .i64 k, .int .i64 m] 31) (o2 := .cells #[.int .i64 0, .int .i64 0] 33))
  have HO2 := hid_mk (((Out.refl 0 0 w).alloc (.cells #[.int .i64 k, .int .i64 m] 31)).alloc (.cells #[.int .i64 0, .int .i64 0] 33))
  have Hr := hid_mk hr
  have HA := hid_mk hA
  obtain ⟨gv, hgv⟩ : ∃ g, w.heap.size = g := ⟨_, rfl⟩
  have Hgv := hid_mk hgv
  obtain ⟨V2, hV2⟩ : ∃ V, (w.alloc (.cells #[.int .i64 k, .int .i64 m] 31)).alloc (.cells #[.int .i64 0, .int .i64 0] 33) = V := ⟨_, rfl⟩
  rw [hV2, hgv] at fV fF
  rw [hV2] at HO2
  have HH' := hid_mk (HO2.out.cell hH (.inr (Nat.zero_le _)))
  clear hH hr hA
  obtain ⟨u0, u1, u2, u3⟩ := val_facts fV.out
  have Hop := hid_mk hop
  have HM := hid_mk hM
  have Hs : Hid (1 ≤ t2 ∧ t2 ≤ 1024 ∧ 0 ≤ m ∧ m + t2 ≤ 64 * n ∧ n ≤ 4096) := by have q := HA.out m _ hM; exact ⟨q.2.2.1, q.2.2.2, q.1, q.2.1, hn⟩
  have HLx := hid_mk (And.intro hL (And.intro hx ht2))
  have hwr : IntKind.i64.wrap (m + 1) = m + 1 := by have h2 := Hs.out; rw [IntKind.wrap_i64]; omega
  clear hop hM hn hL hx ht2
  have HOp : Hid (∀ V, Out 0 0 V2 V → Calls Tryz.prog 29 #[.pointer (some ⟨hb, 0, none⟩), .agg #[.int .i64 k, .int .i64 m]] V fun e w' => e = .returned (.agg #[.int .i64 m, .int .i64 4, .int .i64 t2, .int .i64 t3, .int .i64 t4]) ∧ Out 0 0 V w') := fun V o => by
    obtain ⟨a1, a2, a3, a4, h1, h2⟩ := open_yes (Hr.out.quiet (HO2.out.trans o)) HA.out (o.cell HH'.out (.inr (Nat.zero_le _))) k m Hop.out
    rw [HM.out] at h1
    simp only [Option.some.injEq, Prod.mk.injEq] at h1
    obtain ⟨rfl, rfl, rfl, rfl⟩ := h1
    exact h2
  go_enter_defers Tryz.func9, Tryz.ntmps9
  go_wp2_with fail
  (try rw [hV2])
  (try rw [hgv])
  clear hV2 hgv
  refine (oself_any _ _).mono ?_
  rintro e w5 ⟨rfl, he⟩
  rw [he]
  clear he w5
  go_wp2_with fail
  refine (HOp.out V2 (Out.refl 0 0 _)).mono ?_
  rintro e X3 ⟨rfl, q3⟩
  obtain ⟨gb, hgb⟩ : ∃ g, X3.heap.size = g := ⟨_, rfl⟩
  obtain ⟨V4, hV4⟩ : ∃ V, X3.alloc (.cells #[.int .i64 m, .int .i64 4, .int .i64 t2, .int .i64 t3, .int .i64 t4] 44) = V := ⟨_, rfl⟩
  have fB : V4.heap[gb]? = some (.cells #[.int .i64 m, .int .i64 4, .int .i64 t2, .int .i64 t3, .int .i64 t4] 44 (0, 0)) := by rw [← hV4, ← hgb]; exact heap_alloc_new _ _
  have O4 : Out 0 0 V2 V4 := by rw [← hV4]; exact q3.alloc _
  obtain ⟨y0, y1, y2, y3, y4, y5⟩ := blk5 fB
  have HB4 := hid_mk fB
  have HO4 := hid_mk O4
  clear fB O4 q3 u0 u1 u2 u3
  go_wp2_with fail
  (try rw [hV4])
  (try rw [hgb])
  clear hV4 hgb
  refine (want_yes _ _).mono ?_
  rintro e w6 ⟨rfl, he⟩
  rw [he]
  clear he w6
  have y6 := HO4.out.cell HH'.out (.inr (Nat.zero_le _))
  have x0 := y0
  go_wp2_with fail
  refine wp_region_held_drew (S := fun w' => w'.cell? ⟨hb, 0, none⟩ = some (.pointer (some ⟨s 14, 0, none⟩)) ∧ w'.cell? ⟨gb, 0, none⟩ = some (.int .i64 m)) (by kernel_rfl) ?hS1 (fun hHeld => ?rest1)
  case hS1 => exact ⟨y6, x0⟩
  obtain ⟨Z0, hZ⟩ : ∃ Z, V4.drew = Z := ⟨_, rfl⟩
  have O : Out 0 0 V4 Z0 := by rw [← hZ]; exact (Out.refl 0 0 _).drew
  rw [hZ] at hHeld ⊢
  clear hZ
  refine wpAnyH_take (i := 0) (v := ?v2) rfl (by kernel_rfl) (by kernel_rfl) (by kernel_rfl) (fun _ _ _ h => leaves_tmps (results_putm Tryz.results9 (by decide) (by decide) _ _) _ _ _ h) (Or.inl ⟨by rfl, ?hy2⟩) (by assumption) ?rest2
  case hy2 => (intro w hSw; (try dsimp only at hSw); simp only [xa, xb, xc]; go_simp; (try with_reducible rfl))
  (try simp only [Act.put, xa, xb, xc, xd, xe, xf])
  refine wpAnyH_take (i := 1) (v := ?v3) rfl (by kernel_rfl) (by kernel_rfl) (by kernel_rfl) (fun _ _ _ h => leaves_tmps (results_putm Tryz.results9 (by decide) (by decide) _ _) _ _ _ h) (Or.inl ⟨by rfl, ?hy3⟩) (by assumption) ?rest3
  case hy3 => (intro w hSw; (try dsimp only at hSw); simp only [xa, xb, xc]; go_simp; (try with_reducible rfl))
  (try simp only [Act.put, xa, xb, xc, xd, xe, xf])
  refine wpAnyH_take (i := 2) (v := ?v4) rfl (by kernel_rfl) (by kernel_rfl) (by kernel_rfl) (fun _ _ _ h => leaves_tmps (results_putm Tryz.results9 (by decide) (by decide) _ _) _ _ _ h) (Or.inl ⟨by rfl, ?hy4⟩) (by assumption) ?rest4
  case hy4 => (intro w hSw; (try dsimp only at hSw); simp only [xa, xb, xc]; go_simp; (try with_reducible rfl))
  (try simp only [Act.put, xa, xb, xc, xd, xe, xf])
  refine wpAnyH_take (i := 3) (v := ?v5) rfl (by kernel_rfl) (by kernel_rfl) (by kernel_rfl) (fun _ _ _ h => leaves_tmps (results_putm Tryz.results9 (by decide) (by decide) _ _) _ _ _ h) (Or.inl ⟨by rfl, ?hy5⟩) (by assumption) ?rest5
  case hy5 => (intro w hSw; (try dsimp only at hSw); simp only [xa, xb, xc]; go_simp; (try with_reducible rfl))
  (try simp only [Act.put, xa, xb, xc, xd, xe, xf])
  refine wpAnyH_take (i := 4) (v := ?v6) rfl (by kernel_rfl) (by kernel_rfl) (by kernel_rfl) (fun _ _ _ h => leaves_tmps (results_putm Tryz.results9 (by decide) (by decide) _ _) _ _ _ h) (Or.inl ⟨by rfl, ?hy6⟩) (by assumption) ?rest6
  case hy6 => (intro w hSw; (try dsimp only at hSw); simp only [xa, xb, xc]; go_simp; (try with_reducible rfl))
  (try simp only [Act.put, xa, xb, xc, xd, xe, xf])
  refine wpAnyH_take (i := 5) (v := ?v7) rfl (by kernel_rfl) (by kernel_rfl) (by kernel_rfl) (fun _ _ _ h => leaves_tmps (results_putm Tryz.results9 (by decide) (by decide) _ _) _ _ _ h) (Or.inl ⟨by rfl, ?hy7⟩) (by assumption) ?rest7
  case hy7 => (intro w hSw; (try dsimp only at hSw); simp only [xa, xb, xc]; go_simp; (try with_reducible rfl))
  (try simp only [Act.put, xa, xb, xc, xd, xe, xf])
  refine wpAnyH_take (i := 6) (v := ?v8) rfl (by kernel_rfl) (by kernel_rfl) (by kernel_rfl) (fun _ _ _ h => leaves_tmps (results_putm Tryz.results9 (by decide) (by decide) _ _) _ _ _ h) (Or.inl ⟨by rfl, ?hy8⟩) (by assumption) ?rest8
  case hy8 => (intro w hSw; (try dsimp only at hSw); simp only [xa, xb, xc]; go_simp; (try with_reducible rfl))
  (try simp only [Act.put, xa, xb, xc, xd, xe, xf])
  refine wpAnyH_ready (rs := [7]) (by kernel_rfl) (by simp) ?_
  refine AllReadyH.cons rfl (fun KK hK => ?_) AllReadyH.nil
  simp only [xa, xb, xc]
  go_simp
  refine (peek_any (Hr.out.quiet (HO2.out.trans (HO4.out.trans O))) (m + 1)).mono ?_
  rintro e w6 ⟨rfl, he⟩
  rw [he]
  clear he w6
  refine hK.out _ _ ?hS9 (fun hHeld2 => ?rest9)
  case hS9 => exact hHeld
  clear hK KK
  (try clear hHeld)
  have hHeld := hHeld2
  clear hHeld2
  (try simp only [Act.put, xa, xb, xc, xd, xe, xf])
  refine wpAnyH_take (i := 8) (v := ?v10) rfl (by kernel_rfl) (by kernel_rfl) (by kernel_rfl) (fun _ _ _ h => leaves_tmps (results_putm Tryz.results9 (by decide) (by decide) _ _) _ _ _ h) (Or.inl ⟨by rfl, ?hy10⟩) (by assumption) ?rest10
  case hy10 => (intro w hSw; (try dsimp only at hSw); simp only [xa, xb, xc]; go_simp; (try with_reducible rfl))
  (try simp only [Act.put, xa, xb, xc, xd, xe, xf])
  refine wpAnyH_take (i := 9) (v := ?v11) rfl (by kernel_rfl) (by kernel_rfl) (by kernel_rfl) (fun _ _ _ h => leaves_tmps (results_putm Tryz.results9 (by decide) (by decide) _ _) _ _ _ h) (Or.inl ⟨by rfl, ?hy11⟩) (by assumption) ?rest11
  case hy11 => (intro w hSw; (try dsimp only at hSw); simp only [xa, xb, xc]; go_simp; (try with_reducible rfl))
  (try simp only [Act.put, xa, xb, xc, xd, xe, xf])
  refine wpAnyH_take (i := 10) (v := ?v12) rfl (by kernel_rfl) (by kernel_rfl) (by kernel_rfl) (fun _ _ _ h => leaves_tmps (results_putm Tryz.results9 (by decide) (by decide) _ _) _ _ _ h) (Or.inl ⟨by rfl, ?hy12⟩) (by assumption) ?rest12
  case hy12 => (intro w hSw; (try dsimp only at hSw); simp only [xa, xb, xc]; go_simp; (try with_reducible rfl))
  (try simp only [Act.put, xa, xb, xc, xd, xe, xf])
  refine wpAnyH_take (i := 11) (v := ?v13) rfl (by kernel_rfl) (by kernel_rfl) (by kernel_rfl) (fun _ _ _ h => leaves_tmps (results_putm Tryz.results9 (by decide) (by decide) _ _) _ _ _ h) (Or.inl ⟨by rfl, ?hy13⟩) (by assumption) ?rest13
  case hy13 => (intro w hSw; (try dsimp only at hSw); simp only [xa, xb, xc]; go_simp; (try with_reducible rfl))
  (try simp only [Act.put, xa, xb, xc, xd, xe, xf])
  refine wpAnyH_take (i := 12) (v := ?v14) rfl (by kernel_rfl) (by kernel_rfl) (by kernel_rfl) (fun _ _ _ h => leaves_tmps (results_putm Tryz.results9 (by decide) (by decide) _ _) _ _ _ h) (Or.inl ⟨by rfl, ?hy14⟩) (by assumption) ?rest14
  case hy14 => (intro w hSw; (try dsimp only at hSw); simp only [xa, xb, xc]; go_simp; (try with_reducible rfl))
  (try simp only [Act.put, xa, xb, xc, xd, xe, xf])
  refine wpAnyH_done (by kernel_rfl) ?_ _
  have HO5 := hid_mk (HO4.out.trans O)
  have HB5 := hid_mk (O.heap HB4.out (.inr (Nat.zero_le _)))
  obtain ⟨z0, z1, z2, _, _, _⟩ := blk5 HB5.out
  clear hHeld O y0 y1 y2 y3 y4 y5 y6 x0
  rw [HLx.out.2.1]
  have l0 : (0 : Int) ≤ (L : Int) := by omega
  have l1 : (L : Int) ≤ 8 * (t2 - 2) := HLx.out.1
  have l2 : (2 : Int) ≤ t2 := HLx.out.2.2
  have l3 : t2 ≤ 1024 := Hs.out.2.1
  obtain ⟨cur, cu1, cu2, hmk⟩ := make_bytes L (by omega)
  have fO := heap_alloc_new Z0 (.cells cur 5)
  have OZ := (Out.refl 0 0 Z0).alloc (.cells cur 5)
  go_wp2_with fail
  obtain ⟨Z1, hZ1⟩ : ∃ V, Z0.alloc (.cells cur 5) = V := ⟨_, rfl⟩
  obtain ⟨gO, hgO⟩ : ∃ g, Z0.heap.size = g := ⟨_, rfl⟩
  rw [hZ1, hgO] at fO
  rw [hZ1] at OZ
  (try rw [hZ1])
  (try rw [hgO])
  have HgO : Hid (w.heap.size ≤ gO ∧ gb < gO ∧ gv + 2 ≤ gO ∧ V2.heap.size ≤ gO) := by
    have h1 := (HO2.out.trans HO5.out).size
    have h2 := heap_lt HB5.out
    have h3 := heap_lt (HO5.out.heap fF.out (.inr (Nat.zero_le _)))
    have h4 := HO5.out.size
    exact ⟨by omega, by omega, by omega, by omega⟩
  have HZ1 := hid_mk (HO5.out.trans OZ)
  have HB6 := hid_mk (OZ.heap HB5.out (.inr (Nat.zero_le _)))
  have HR0 : Hid (Row Z1 gO 5 L (txF r.W m.toNat 0)) := ⟨cur, fO, by omega, fun i hi => by rw [cu1 i hi]; simp [txF]⟩
  clear hZ1 hgO fO OZ HO5 HB5 z0 z1 z2 hmk cu1 cu2
  go_loopw [44] (fun y wr => ∃ i : Nat, i ≤ L ∧ y = .int .i64 i ∧ Row wr gO 5 L (txF r.W m.toNat i) ∧ Out gO (gO + 1) Z1 wr) (fun y _ => L - (intOf y).toNat)
  case atStart => exact ⟨0, Nat.zero_le _, rfl, HR0.out, Out.refl _ _ _⟩
  case round =>
    obtain ⟨i, i1, rfl, hrow, hO⟩ := hrel
    have Hrel := hid_mk (And.intro hrow hO)
    have HRi : Hid (RawAt wr lo hi s n cap r) := (Hr.out.quiet (HO2.out.trans HZ1.out)).kept hO (.inl (by have h1 := Hr.out.top; have h2 := HgO.out; omega)) (.inl (by have h1 := Hr.out.top; have h2 := HgO.out; have h3 := Hr.out.glob; have h4 := Hr.out.inn 0 (by omega); omega))
    have i0 : (0 : Int) ≤ (i : Int) := by omega
    clear hrow hO HR0
    by_cases hgo : i < L
    · have g1 : (i : Int) < (L : Int) := by omega
      obtain ⟨y0, _, _, _, _, _⟩ := blk5 (Hrel.out.2.heap HB6.out (.inl HgO.out.2.1))
      have y6 := Hrel.out.2.cell (HZ1.out.cell HH'.out (.inr (Nat.zero_le _))) (.inl (by have h1 := cell_lt HH'.out; have h2 := HgO.out; have h3 := heap_lt fF.out; omega))
      obtain ⟨e8, he8⟩ : ∃ e, i / 8 = e := ⟨_, rfl⟩
      have hq8 : Int.tdiv (i : Int) 8 = (e8 : Int) := by rw [Int.tdiv_eq_ediv_of_nonneg (by omega)]; omega
      have hwj : IntKind.i64.wrap (e8 : Int) = (e8 : Int) := by rw [IntKind.wrap_i64]; omega
      have hwr2 : IntKind.i64.wrap (m + 2) = m + 2 := by have h2 := Hs.out; rw [IntKind.wrap_i64]; omega
      have hwr3 : IntKind.i64.wrap (m + 2 + (e8 : Int)) = m + 2 + (e8 : Int) := by have h2 := Hs.out; rw [IntKind.wrap_i64]; omega
      go_wp2_with fail
      refine wp_region_held_drew (S := fun w' => w'.cell? ⟨hb, 0, none⟩ = some (.pointer (some ⟨s 14, 0, none⟩)) ∧ w'.cell? ⟨gb, 0, none⟩ = some (.int .i64 m)) (by kernel_rfl) ?hS15 (fun hHeld => ?rest15)
      case hS15 => exact ⟨y6, y0⟩
      obtain ⟨Z0, hZ⟩ : ∃ Z, wr.drew = Z := ⟨_, rfl⟩
      have O : Out 0 0 wr Z0 := by rw [← hZ]; exact (Out.refl 0 0 _).drew
      rw [hZ] at hHeld ⊢
      clear hZ
      refine wpAnyH_take (i := 0) (v := ?v16) rfl (by kernel_rfl) (by kernel_rfl) (by kernel_rfl) (fun _ _ _ h => leaves_tmps (results_putm Tryz.results9 (by decide) (by decide) _ _) _ _ _ h) (Or.inl ⟨by rfl, ?hy16⟩) (by assumption) ?rest16
      case hy16 => (intro w hSw; (try dsimp only at hSw); simp only [xa, xb, xc]; go_simp; (try with_reducible rfl))
      (try simp only [Act.put, xa, xb, xc, xd, xe, xf])
      refine wpAnyH_take (i := 1) (v := ?v17) rfl (by kernel_rfl) (by kernel_rfl) (by kernel_rfl) (fun _ _ _ h => leaves_tmps (results_putm Tryz.results9 (by decide) (by decide) _ _) _ _ _ h) (Or.inl ⟨by rfl, ?hy17⟩) (by assumption) ?rest17
      case hy17 => (intro w hSw; (try dsimp only at hSw); simp only [xa, xb, xc]; go_simp; (try with_reducible rfl))
      (try simp only [Act.put, xa, xb, xc, xd, xe, xf])
      refine wpAnyH_take (i := 2) (v := ?v18) rfl (by kernel_rfl) (by kernel_rfl) (by kernel_rfl) (fun _ _ _ h => leaves_tmps (results_putm Tryz.results9 (by decide) (by decide) _ _) _ _ _ h) (Or.inl ⟨by rfl, ?hy18⟩) (by assumption) ?rest18
      case hy18 => (intro w hSw; (try dsimp only at hSw); simp only [xa, xb, xc]; go_simp; (try with_reducible rfl))
      (try simp only [Act.put, xa, xb, xc, xd, xe, xf])
      refine wpAnyH_take (i := 3) (v := ?v19) rfl (by kernel_rfl) (by kernel_rfl) (by kernel_rfl) (fun _ _ _ h => leaves_tmps (results_putm Tryz.results9 (by decide) (by decide) _ _) _ _ _ h) (Or.inl ⟨by rfl, ?hy19⟩) (by assumption) ?rest19
      case hy19 => (intro w hSw; (try dsimp only at hSw); simp only [xa, xb, xc]; go_simp; (try with_reducible rfl))
      (try simp only [Act.put, xa, xb, xc, xd, xe, xf])
      refine wpAnyH_take (i := 4) (v := ?v20) rfl (by kernel_rfl) (by kernel_rfl) (by kernel_rfl) (fun _ _ _ h => leaves_tmps (results_putm Tryz.results9 (by decide) (by decide) _ _) _ _ _ h) (Or.inl ⟨by rfl, ?hy20⟩) (by assumption) ?rest20
      case hy20 => (intro w hSw; (try dsimp only at hSw); simp only [xa, xb, xc]; go_simp; (try with_reducible rfl))
      (try simp only [Act.put, xa, xb, xc, xd, xe, xf])
      refine wpAnyH_take (i := 5) (v := ?v21) rfl (by kernel_rfl) (by kernel_rfl) (by kernel_rfl) (fun _ _ _ h => leaves_tmps (results_putm Tryz.results9 (by decide) (by decide) _ _) _ _ _ h) (Or.inl ⟨by rfl, ?hy21⟩) (by assumption) ?rest21
      case hy21 => (intro w hSw; (try dsimp only at hSw); simp only [xa, xb, xc]; go_simp; (try with_reducible rfl))
      (try simp only [Act.put, xa, xb, xc, xd, xe, xf])
      refine wpAnyH_take (i := 6) (v := ?v22) rfl (by kernel_rfl) (by kernel_rfl) (by kernel_rfl) (fun _ _ _ h => leaves_tmps (results_putm Tryz.results9 (by decide) (by decide) _ _) _ _ _ h) (Or.inl ⟨by rfl, ?hy22⟩) (by assumption) ?rest22
      case hy22 => (intro w hSw; (try dsimp only at hSw); simp only [xa, xb, xc]; go_simp; (try with_reducible rfl))
      (try simp only [Act.put, xa, xb, xc, xd, xe, xf])
      refine wpAnyH_take (i := 7) (v := ?v23) rfl (by kernel_rfl) (by kernel_rfl) (by kernel_rfl) (fun _ _ _ h => leaves_tmps (results_putm Tryz.results9 (by decide) (by decide) _ _) _ _ _ h) (Or.inl ⟨by rfl, ?hy23⟩) (by assumption) ?rest23
      case hy23 => (intro w hSw; (try dsimp only at hSw); simp only [xa, xb, xc]; go_simp; (try with_reducible rfl))
      (try simp only [Act.put, xa, xb, xc, xd, xe, xf])
      refine wpAnyH_take (i := 8) (v := ?v24) rfl (by kernel_rfl) (by kernel_rfl) (by kernel_rfl) (fun _ _ _ h => leaves_tmps (results_putm Tryz.results9 (by decide) (by decide) _ _) _ _ _ h) (Or.inl ⟨by rfl, ?hy24⟩) (by assumption) ?rest24
      case hy24 => (intro w hSw; (try dsimp only at hSw); simp only [xa, xb, xc]; go_simp; (try with_reducible rfl))
      (try simp only [Act.put, xa, xb, xc, xd, xe, xf])
      refine wpAnyH_take (i := 9) (v := ?v25) rfl (by kernel_rfl) (by kernel_rfl) (by kernel_rfl) (fun _ _ _ h => leaves_tmps (results_putm Tryz.results9 (by decide) (by decide) _ _) _ _ _ h) (Or.inl ⟨by rfl, ?hy25⟩) (by assumption) ?rest25
      case hy25 => (intro w hSw; (try dsimp only at hSw); simp only [xa, xb, xc]; go_simp; (try with_reducible rfl))
      (try simp only [Act.put, xa, xb, xc, xd, xe, xf])
      refine wpAnyH_ready (rs := [10]) (by kernel_rfl) (by simp) ?_
      refine AllReadyH.cons rfl (fun KK hK => ?_) AllReadyH.nil
      simp only [xa, xb, xc]
      go_simp
      refine (peek_any (HRi.out.quiet O) _).mono ?_
      rintro e w6 ⟨rfl, he⟩
      rw [he]
      clear he w6
      refine hK.out _ _ ?hS26 (fun hHeld2 => ?rest26)
      case hS26 => exact hHeld
      clear hK KK
      (try clear hHeld)
      have hHeld := hHeld2
      clear hHeld2
      (try simp only [Act.put, xa, xb, xc, xd, xe, xf])
      refine wpAnyH_take (i := 11) (v := ?v27) rfl (by kernel_rfl) (by kernel_rfl) (by kernel_rfl) (fun _ _ _ h => leaves_tmps (results_putm Tryz.results9 (by decide) (by decide) _ _) _ _ _ h) (Or.inl ⟨by rfl, ?hy27⟩) (by assumption) ?rest27
      case hy27 => (intro w hSw; (try dsimp only at hSw); simp only [xa, xb, xc]; go_simp; (try with_reducible rfl))
      (try simp only [Act.put, xa, xb, xc, xd, xe, xf])
      refine wpAnyH_take (i := 12) (v := ?v28) rfl (by kernel_rfl) (by kernel_rfl) (by kernel_rfl) (fun _ _ _ h => leaves_tmps (results_putm Tryz.results9 (by decide) (by decide) _ _) _ _ _ h) (Or.inl ⟨by rfl, ?hy28⟩) (by assumption) ?rest28
      case hy28 => (intro w hSw; (try dsimp only at hSw); simp only [xa, xb, xc]; go_simp; (try with_reducible rfl))
      (try simp only [Act.put, xa, xb, xc, xd, xe, xf])
      refine wpAnyH_take (i := 13) (v := ?v29) rfl (by kernel_rfl) (by kernel_rfl) (by kernel_rfl) (fun _ _ _ h => leaves_tmps (results_putm Tryz.results9 (by decide) (by decide) _ _) _ _ _ h) (Or.inl ⟨by rfl, ?hy29⟩) (by assumption) ?rest29
      case hy29 => (intro w hSw; (try dsimp only at hSw); simp only [xa, xb, xc]; go_simp; (try with_reducible rfl))
      (try simp only [Act.put, xa, xb, xc, xd, xe, xf])
      refine wpAnyH_take (i := 14) (v := ?v30) rfl (by kernel_rfl) (by kernel_rfl) (by kernel_rfl) (fun _ _ _ h => leaves_tmps (results_putm Tryz.results9 (by decide) (by decide) _ _) _ _ _ h) (Or.inl ⟨by rfl, ?hy30⟩) (by assumption) ?rest30
      case hy30 => (intro w hSw; (try dsimp only at hSw); simp only [xa, xb, xc]; go_simp; (try with_reducible rfl))
      (try simp only [Act.put, xa, xb, xc, xd, xe, xf])
      refine wpAnyH_take (i := 15) (v := ?v31) rfl (by kernel_rfl) (by kernel_rfl) (by kernel_rfl) (fun _ _ _ h => leaves_tmps (results_putm Tryz.results9 (by decide) (by decide) _ _) _ _ _ h) (Or.inl ⟨by rfl, ?hy31⟩) (by assumption) ?rest31
      case hy31 => (intro w hSw; (try dsimp only at hSw); simp only [xa, xb, xc]; go_simp; (try with_reducible rfl))
      (try simp only [Act.put, xa, xb, xc, xd, xe, xf])
      refine wpAnyH_done (by kernel_rfl) ?_ _
      clear hHeld y0 y6
      have hcell := (Hrel.out.1.kept O (.inr (Nat.zero_le _))).cell hgo
      have hfro := (Hrel.out.1.kept O (.inr (Nat.zero_le _))).frozen i
      go_wp2_with fail
      have hval : IntKind.u64.wrap (peekV n r.W (m + 2 + (e8 : Int))) / 2 ^ (i % 8 * 8) % 256 = byV (r.W (m.toNat + 2 + i / 8)) (i % 8) := by
        unfold byV
        have h2 := Hs.out
        rw [he8, Nat.mul_comm (i % 8) 8]
        have hp : peekV n r.W (m + 2 + (e8 : Int)) = r.W (m.toNat + 2 + e8) := by
          unfold peekV inB
          rw [if_pos (by simp; omega), show (m + 2 + (e8 : Int)).toNat = m.toNat + 2 + e8 from by omega]
        rw [hp]
        simp [IntKind.wrap, IntKind.signed, IntKind.bits]
      rw [hval]
      have HN : Hid (Row (Z0.setCell ⟨gO, i, none⟩ (.int .u8 (byV (r.W (m.toNat + 2 + i / 8)) (i % 8)))) gO 5 L (txF r.W m.toNat (i + 1))) := by
        refine ((Hrel.out.1.kept O (.inr (Nat.zero_le _))).set i _).congr fun j hj => ?_
        unfold txF
        by_cases e : j = i
        · subst e; simp
        · rw [if_neg e]
          by_cases c : j < i
          · rw [if_pos c, if_pos (by omega)]
          · rw [if_neg c, if_neg (by omega)]
      have HOn : Hid (Out gO (gO + 1) Z1 (Z0.setCell ⟨gO, i, none⟩ (.int .u8 (byV (r.W (m.toNat + 2 + i / 8)) (i % 8))))) := (Hrel.out.2.trans (O.any _ _)).setCell (p := ⟨gO, i, none⟩) (.inl ⟨Nat.le_refl _, Nat.lt_succ_self _⟩) _
      refine ⟨⟨i + 1, hgo, by go_num, HN.out, HOn.out⟩, ?_⟩
      simp [intOf]; omega
    · have g1 : (L : Int) ≤ (i : Int) := by omega
      have ei : i = L := by omega
      subst ei
      have HF8 := hid_mk (Hrel.out.2.heap (HZ1.out.heap fF.out (.inr (Nat.zero_le _))) (.inl (by have h2 := HgO.out; omega)))
      obtain ⟨c0, c1, c2, c3⟩ := flt_facts HF8.out
      have f2 := flt_set (x' := 0) (y' := 0) HF8.out
      have o2 := (Out.refl (gv + 1) (gv + 2) wr).set2 (b := gv + 1) (o := 0) (o' := 1) (.inl ⟨Nat.le_refl _, Nat.lt_succ_self _⟩) (.int .i64 0) (.int .i64 0)
      have HL9 := hid_mk (And.intro f2 o2)
      clear f2 o2
      go_wp2
      refine leaves_cons (f := 28) (args := #[.pointer (some ⟨gv + 1, 0, none⟩)]) (by simp) (by simp [go_sem]) ?_
      refine (catchText_idle HL9.out.1).mono ?_
      rintro e u' w9 ⟨rfl, rfl, f9, q9⟩
      refine leaves_ret (results_mix Tryz.results9 rfl rfl (load_flt f9)) ⟨gO, rfl, ?_, HgO.out.1, ?_⟩
      · have hrow := (Hrel.out.1.kept HL9.out.2 (.inr HgO.out.2.2.1)).kept q9 (.inr (by have := HgO.out.2.2.1; omega))
        refine ⟨fun b hb => ?_, .inr ⟨gO, 0, rfl, fun j b hj => ?_⟩⟩
        · obtain ⟨j, _, rfl⟩ := List.mem_map.1 hb
          unfold byV
          omega
        · have hj' : j < i := by have := (List.getElem?_eq_some_iff.1 hj).1; unfold txL at this; simpa using this
          unfold txL at hj
          rw [List.getElem?_map, List.getElem?_range hj'] at hj
          have e : byV (r.W (m.toNat + 2 + j / 8)) (j % 8) = b := by simpa using hj
          rw [show 0 + j = j from by omega, hrow.cell hj']
          unfold txF
          rw [if_pos hj', e]
      · exact (((HO2.out.trans HZ1.out).then Hrel.out.2 HgO.out.1).then HL9.out.2 (by have := Hgv.out; omega)).then q9 (by have := Hgv.out; omega)
end
end Go.Proofs.YtcpignkjlnjjmaaGreatDoor
