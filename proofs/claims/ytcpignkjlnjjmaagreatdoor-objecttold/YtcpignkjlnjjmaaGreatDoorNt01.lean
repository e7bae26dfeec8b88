import Derived.Test.YtcpignkjlnjjmaaGreatDoorNt00
import Derived.Test.YtcpignkjlnjjmaaGreatDoorNa29
import Derived.Test.YtcpignkjlnjjmaaGreatDoorNa30
import Derived.SizedLaws
import Derived.Laws.BytesArg
namespace Go.Proofs.YtcpignkjlnjjmaaGreatDoor
open Go.RowKit
set_option linter.unusedVariables false
set_option linter.unusedSimpArgs false

theorem byte_at : ∀ (bs : List Int), Byt bs → ∀ (r : Nat) (b : Int), bs[r]? = some b → pkU bs / 2 ^ (8 * r) % 256 = b
  | [], _, r, b, h => by simp at h
  | c :: cs, hB, 0, b, h => by
    have hc := hB c (by simp)
    have e : c = b := by simpa using h
    show (c + 256 * pkU cs) / 2 ^ (8 * 0) % 256 = b
    have : ((2 : Int) ^ (8 * 0)) = 1 := rfl
    rw [this]
    omega
  | c :: cs, hB, r + 1, b, h => by
    have hc := hB c (by simp)
    have ih := byte_at cs (fun x hx => hB x (by simp [hx])) r b (by simpa using h)
    show (c + 256 * pkU cs) / 2 ^ (8 * (r + 1)) % 256 = b
    rw [show (2 : Int) ^ (8 * (r + 1)) = 256 * 2 ^ (8 * r) from by rw [show 8 * (r + 1) = 8 * r + 8 from by omega, Int.pow_add, Int.mul_comm]; rfl]
    rw [← Int.ediv_ediv_of_nonneg (by decide), show (c + 256 * pkU cs) / 256 = pkU cs from by omega]
    exact ih
theorem by_pack {bs : List Int} (hB : Byt bs) (h8 : bs.length ≤ 8) {r : Nat} {b : Int} (h : bs[r]? = some b) : byV (wrap64 (pkU bs)) r = b := by
  have hl := pkU_lt hB
  have hp : (256 : Int) ^ bs.length ≤ 18446744073709551616 := by
    have : bs.length = 0 ∨ bs.length = 1 ∨ bs.length = 2 ∨ bs.length = 3 ∨ bs.length = 4 ∨ bs.length = 5 ∨ bs.length = 6 ∨ bs.length = 7 ∨ bs.length = 8 := by omega
    rcases this with e | e | e | e | e | e | e | e | e <;> rw [e] <;> decide
  unfold byV
  rw [show wrap64 (pkU bs) % 18446744073709551616 = pkU bs from by unfold wrap64; omega]
  exact byte_at bs hB r b h
theorem mtC_at {n a : Nat} {W : Nat → Int} {bs : List Int} : ∀ J : Nat, a + 2 + J ≤ 64 * n → (mtC n a W bs J) (a + 1) = bs.length ∧ (∀ j, j < J → (mtC n a W bs J) (a + 2 + j) = wrap64 (pkU ((bs.drop (8 * j)).take 8))) ∧ ∀ i, i ≤ a ∨ a + 2 + J ≤ i → (mtC n a W bs J) i = W i
  | 0, h => by
    refine ⟨?_, fun j hj => by omega, fun i hi => ?_⟩
    · show pokeW n W ((a : Int) + 1) bs.length (a + 1) = _
      rw [show (a : Int) + 1 = ((a + 1 : Nat) : Int) from by omega]
      exact poke_at (by omega)
    · exact poke_far (by omega)
  | J + 1, h => by
    obtain ⟨h1, h2, h3⟩ := mtC_at (n := n) (a := a) (W := W) (bs := bs) J (by omega)
    refine ⟨?_, fun j hj => ?_, fun i hi => ?_⟩
    · rw [← h1]; exact poke_far (by omega)
    · by_cases e : j = J
      · subst e
        show pokeW n _ ((a : Int) + 2 + (j : Int)) _ (a + 2 + j) = _
        rw [show (a : Int) + 2 + (j : Int) = ((a + 2 + j : Nat) : Int) from by omega]
        exact poke_at (by omega)
      · rw [← h2 j (by omega)]; exact poke_far (by omega)
    · rw [← h3 i (by omega)]; exact poke_far (by omega)
/-- the bytes of a text are those that it was made of -/
theorem tx_back {n a : Nat} {W W' : Nat → Int} {bs : List Int} (hB : Byt bs) (hn : a + 2 + (bs.length + 7) / 8 ≤ 64 * n) (hW : ∀ i, a < i → i < a + 2 + (bs.length + 7) / 8 → W' i = mtW n a W bs i) : W' (a + 1) = bs.length ∧ txL W' a bs.length = bs := by
  obtain ⟨h1, h2, h3⟩ := mtC_at (n := n) (a := a) (W := W) (bs := bs) ((bs.length + 7) / 8) hn
  refine ⟨by rw [hW (a + 1) (by omega) (by omega)]; exact h1, ?_⟩
  refine List.ext_getElem? fun i => ?_
  unfold txL
  rw [List.getElem?_map]
  by_cases hi : i < bs.length
  · rw [List.getElem?_range hi]
    obtain ⟨b, hb⟩ : ∃ b, bs[i]? = some b := ⟨_, List.getElem?_eq_getElem hi⟩
    rw [hb]
    show some (byV (W' (a + 2 + i / 8)) (i % 8)) = some b
    rw [hW _ (by omega) (by omega)]
    unfold mtW
    rw [h2 (i / 8) (by omega)]
    congr 1
    refine by_pack (fun x hx => hB x (List.mem_of_mem_drop (List.mem_of_mem_take hx))) (by rw [List.length_take]; omega) ?_
    rw [List.getElem?_take, if_pos (by omega), List.getElem?_drop, show 8 * (i / 8) + i % 8 = i from by omega]
    exact hb
  · rw [List.getElem?_eq_none (by simpa using hi), List.getElem?_eq_none (by omega)]
    rfl
end Go.Proofs.YtcpignkjlnjjmaaGreatDoor
namespace Go.Proofs.YtcpignkjlnjjmaaGreatDoor
open Go.RowKit
set_option linter.unusedVariables false
set_option linter.unusedSimpArgs false

/-- the pages below u are taken, the others are free -/
def Pre (n : Nat) (S : Nat → Int × Int × Int) (u : Nat) : Prop := u ≤ n ∧ ∀ p, p < n → (freeB (S p) = true ↔ u ≤ p)
theorem pre_row {n u k : Nat} {S : Nat → Int × Int × Int} (h : Pre n S u) (h1 : 1 ≤ k) (hk : u + k ≤ n) : rowF S n k = some u := by
  unfold rowF
  refine find_range_some (by omega) ?_ fun q hq => ?_
  · rw [Bool.and_eq_true]
    refine ⟨by simpa using hk, allF_iff.2 fun j h2 h3 => (h.2 j (by omega)).2 h2⟩
  · cases hf : allF S q k
    · simp
    · have := (h.2 q (by omega)).1 (allF_iff.1 hf q (Nat.le_refl _) (by omega))
      omega
theorem pre_setR {n u k : Nat} {S : Nat → Int × Int × Int} (h : Pre n S u) (h1 : 1 ≤ k) (hk : u + k ≤ n) : Pre n (setR S u k) (u + k) := by
  refine ⟨hk, fun p hp => ?_⟩
  have hh := h.2 p hp
  unfold setR
  by_cases e : p = u
  · rw [if_pos e]
    constructor
    · intro c; exact absurd c (by simp [freeB])
    · intro c; omega
  · rw [if_neg e]
    by_cases e2 : u < p ∧ p < u + k
    · rw [if_pos e2]
      constructor
      · intro c; exact absurd c (by simp [freeB])
      · intro c; omega
    · rw [if_neg e2, hh]
      omega
theorem pre_setC {n u : Nat} {c : Int} {S : Nat → Int × Int × Int} (h : Pre n S u) (hk : u + 1 ≤ n) : Pre n (setC S u c) (u + 1) := by
  refine ⟨hk, fun p hp => ?_⟩
  have hh := h.2 p hp
  unfold setC
  by_cases e : p = u
  · rw [if_pos e]
    constructor
    · intro c; exact absurd c (by simp [freeB])
    · intro c; omega
  · rw [if_neg e, hh]
    omega
/-- what the texts so far have cost, and how many pages they have taken -/
def PgI (S : Nat → Int × Int × Int) (O : Nat → Blk) (C : Nat) : Prop := ∃ u, Pre 160 S u ∧ (25 * u ≤ C ∨ (25 * u ≤ C + 1 ∧ ∃ i, fr 160 ⟨fun _ => 0, S, O, 0⟩ 0 i = true))
theorem fr_SO {n : Nat} {st : Sp} {c : Int} {i : Nat} : fr n ⟨fun _ => 0, st.S, st.O, 0⟩ c i = fr n st c i := rfl
theorem PgI.new : PgI newSp.S newSp.O 0 := ⟨0, ⟨Nat.zero_le _, fun p hp => ⟨fun _ => Nat.zero_le _, fun _ => rfl⟩⟩, .inl (Nat.le_refl _)⟩
theorem tx_of {m : Nat} {z : Int} (hm : m ≤ 4000) (hz : z = 2 + ((m + 7) / 8 : Nat)) : (m = 0 → ofV z = 0) ∧ (m ≠ 0 → z ≤ 32 → ofV z ≠ 0) := by
  constructor
  · intro h; subst h; subst hz; decide
  · intro h h32
    unfold ofV
    rw [if_neg (by omega), if_neg (by omega)]
    repeat' split
    all_goals decide
theorem tx_alloc {st : Sp} {C m : Nat} {z : Int} (hi : Inv 160 st) (hP : PgI st.S st.O C) (hC : C + 24 + m ≤ 4000) (hz : z = 2 + ((m + 7) / 8 : Nat)) (hf : fitsB 4 z = true) :
    ∃ a fresh, placeF 160 st z = some (a, fresh) ∧ PgI (takeF 160 st a fresh 4 z 0).S (takeF 160 st a fresh 4 z 0).O (C + 24 + m) := by
  obtain ⟨u, hu, hb⟩ := hP
  have hz0 := tx_of (m := m) (by omega) hz
  unfold placeF
  by_cases h32 : 32 < z
  · obtain ⟨r, hr⟩ : ∃ r, ((z + 63) / 64).toNat = r := ⟨_, rfl⟩
    rw [if_pos h32, hr]
    have hur : u + r ≤ 160 := by omega
    rw [pre_row hu (by omega) hur]
    refine ⟨64 * u, false, rfl, ?_⟩
    have hS : (takeF 160 st (64 * u) false 4 z 0).S = setR st.S u r := by
      show takeS st (64 * u) false z = _
      unfold takeS
      rw [if_pos h32, hr, show 64 * u / 64 = u from by omega]
    have hO : (takeF 160 st (64 * u) false 4 z 0).O = putO st.O (64 * u) (4, z, serOf st 4, 0) := rfl
    rw [hS, hO]
    refine ⟨u + r, pre_setR hu (by omega) hur, ?_⟩
    rcases hb with hb | ⟨hb, i, hfi⟩
    · left; omega
    · right
      refine ⟨by omega, i, ?_⟩
      obtain ⟨f1, f2, f3, f4⟩ := fr_iff.1 hfi
      have hne : i / 64 < u := by
        by_cases c : u ≤ i / 64
        · have := (hu.2 (i / 64) (by omega)).2 c
          have f2' : st.S (i / 64) = (1, 0, 0) := f2
          rw [f2'] at this; exact absurd this (by decide)
        · omega
      refine fr_iff.2 ⟨f1, ?_, f3, ?_⟩
      · show setR st.S u r (i / 64) = _
        unfold setR
        rw [if_neg (by omega), if_neg (by omega)]
        exact f2
      · show hasB (putO st.O (64 * u) _ i) = false
        rw [hasB_put, if_neg (by omega)]
        exact f4
  · rw [if_neg h32]
    rcases nxr_cases (fr 160 st (ofV z)) (64 * 160) 0 with ⟨e, hno⟩ | ⟨i, e, hi1, _, hfi, hmin⟩
    · have e' : nf 160 st (ofV z) 0 = -1 := e
      rw [e', if_neg (by omega)]
      have hu1 : u + 1 ≤ 160 := by
        by_cases hm0 : m = 0
        · rcases hb with hb | ⟨hb, i, hfi⟩
          · omega
          · have hfi' : fr 160 st 0 i = true := hfi
            have := hno i (Nat.zero_le _) (fr_iff.1 hfi').1
            rw [hz0.1 hm0, hfi'] at this
            cases this
        · rcases hb with hb | ⟨hb, _⟩ <;> omega
      rw [pre_row hu (Nat.le_refl _) hu1]
      refine ⟨64 * u, true, rfl, ?_⟩
      have hS : (takeF 160 st (64 * u) true 4 z 0).S = setC st.S u (ofV z) := by
        show takeS st (64 * u) true z = _
        unfold takeS
        rw [if_neg h32, show 64 * u / 64 = u from by omega]
        rfl
      have hO : (takeF 160 st (64 * u) true 4 z 0).O = putO st.O (64 * u) (4, z, serOf st 4, 0) := rfl
      rw [hS, hO]
      refine ⟨u + 1, pre_setC hu hu1, ?_⟩
      by_cases hm0 : m = 0
      · right
        have hb' : 25 * u ≤ C := by
          rcases hb with hb | ⟨hb, i, hfi⟩
          · exact hb
          · have hfi' : fr 160 st 0 i = true := hfi
            have := hno i (Nat.zero_le _) (fr_iff.1 hfi').1
            rw [hz0.1 hm0, hfi'] at this
            cases this
        refine ⟨by omega, 64 * u + 2, fr_iff.2 ⟨by omega, ?_, ?_, ?_⟩⟩
        · show setC st.S u (ofV z) ((64 * u + 2) / 64) = _
          unfold setC
          rw [if_pos (by omega), hz0.1 hm0]
        · rw [show (64 * u + 2) % 64 = 2 from by omega]; decide
        · show hasB (putO st.O (64 * u) _ (64 * u + 2)) = false
          rw [hasB_put, if_neg (by omega)]
          cases hh : hasB (st.O (64 * u + 2))
          · rfl
          · have hp := (hi.objs _ hh).page
            have hfree := (hu.2 u (by omega)).2 (Nat.le_refl _)
            rw [show (64 * u + 2) / 64 = u from by omega] at hp
            unfold freeB at hfree
            simp at hfree
            omega
      · rcases hb with hb | ⟨hb, i, hfi⟩
        · left; omega
        · right
          refine ⟨by omega, i, ?_⟩
          obtain ⟨f1, f2, f3, f4⟩ := fr_iff.1 hfi
          have hne : i / 64 < u := by
            by_cases c : u ≤ i / 64
            · have := (hu.2 (i / 64) (by omega)).2 c
              have f2' : st.S (i / 64) = (1, 0, 0) := f2
              rw [f2'] at this; exact absurd this (by decide)
            · omega
          refine fr_iff.2 ⟨f1, ?_, f3, ?_⟩
          · show setC st.S u (ofV z) (i / 64) = _
            unfold setC
            rw [if_neg (by omega)]
            exact f2
          · show hasB (putO st.O (64 * u) _ i) = false
            rw [hasB_put, if_neg (by omega)]
            exact f4
    · have e' : nf 160 st (ofV z) 0 = i := e
      rw [e', if_pos (by omega), show ((i : Int)).toNat = i from by omega]
      refine ⟨i, false, rfl, ?_⟩
      have hS : (takeF 160 st i false 4 z 0).S = st.S := by
        show takeS st i false z = _
        unfold takeS
        rw [if_neg h32]
        rfl
      have hO : (takeF 160 st i false 4 z 0).O = putO st.O i (4, z, serOf st 4, 0) := rfl
      rw [hS, hO]
      refine ⟨u, hu, ?_⟩
      by_cases hm0 : m = 0
      · left
        rcases hb with hb | ⟨hb, _⟩ <;> omega
      · rcases hb with hb | ⟨hb, j, hfj⟩
        · left; omega
        · right
          refine ⟨by omega, j, ?_⟩
          obtain ⟨f1, f2, f3, f4⟩ := fr_iff.1 hfj
          refine fr_iff.2 ⟨f1, f2, f3, ?_⟩
          show hasB (putO st.O i _ j) = false
          rw [hasB_put, if_neg ?_]
          · exact f4
          · intro eij
            subst eij
            have g2 := (fr_iff.1 hfi).2.1
            have f2' : st.S (j / 64) = (1, 0, 0) := f2
            rw [f2'] at g2
            have : ofV z = 0 := by simpa using g2.symm
            exact hz0.2 hm0 (by omega) this
end Go.Proofs.YtcpignkjlnjjmaaGreatDoor
namespace Go.Proofs.YtcpignkjlnjjmaaGreatDoor
open Go.ChangeShapes Go.WideShapes Go.ChangeAt Go.RowKit Go.Deep
set_option linter.unusedVariables false
set_option linter.unusedSimpArgs false

theorem u8_bounds {n : Int} (h : (Lit.int .u8 n).wf = true) : 0 ≤ n ∧ n ≤ 255 := by
  simpa [Lit.wf, IntKind.min, IntKind.max, IntKind.signed, IntKind.bits] using h
theorem cells_bytes : Tryz.prog.cellsOf 24 = 1 := by kernel_rfl
/-- bytes below a block -/
def ByIn (w : World) (b : Nat) (p : Option Addr) (t : List Int) : Prop := Byt t ∧ (t = [] ∨ ∃ g off, p = some ⟨g, off, none⟩ ∧ g < b ∧ ∀ j x, t[j]? = some x → w.cell? ⟨g, off + j, none⟩ = some (.int .u8 x))
theorem ByIn.kept {w w' : World} {b x y : Nat} {p : Option Addr} {t : List Int} (h : ByIn w b p t) (o : Out x y w w') (hx : b ≤ x ∨ y = 0) : ByIn w' b p t := by
  refine ⟨h.1, ?_⟩
  rcases h.2 with h | ⟨g, off, h1, h2, h3⟩
  · exact .inl h
  · exact .inr ⟨g, off, h1, h2, fun j x hj => o.cell (h3 j x hj) (by omega)⟩
theorem ByIn.bytes {w : World} {b : Nat} {p : Option Addr} {t : List Int} (h : ByIn w b p t) : BytesAt w p t := by
  refine ⟨h.1, ?_⟩
  rcases h.2 with h | ⟨g, off, h1, h2, h3⟩
  · exact .inl h
  · exact .inr ⟨g, off, h1, h3⟩
def TextsAt (w : World) (b : Nat) (p : Option Addr) (ts : List (List Int)) : Prop :=
  ts = [] ∨ ∃ g off, p = some ⟨g, off, none⟩ ∧ g < b ∧ ∀ j t, ts[j]? = some t → ∃ pj cj, w.cell? ⟨g, off + j, none⟩ = some (.slice pj t.length cj) ∧ ByIn w b pj t
theorem TextsAt.kept {w w' : World} {b x y : Nat} {p : Option Addr} {ts : List (List Int)} (h : TextsAt w b p ts) (o : Out x y w w') (hx : b ≤ x ∨ y = 0) : TextsAt w' b p ts := by
  rcases h with h | ⟨g, off, h1, h2, h3⟩
  · exact .inl h
  · refine .inr ⟨g, off, h1, h2, fun j t hj => ?_⟩
    obtain ⟨pj, cj, c1, c2⟩ := h3 j t hj
    exact ⟨pj, cj, o.cell c1 (by omega), c2.kept o hx⟩
theorem weightsAll_in {H : Type} {P : Program} {e : TypeId} {d : DataW H} {n : Nat} (hn : n ∈ d.weights P e) : ∀ {l : List (DataW H)}, d ∈ l → n ∈ DataW.weightsAll P e l
  | [], h => by cases h
  | x :: r, h => by
    simp only [DataW.weightsAll, List.mem_append]
    rcases List.mem_cons.1 h with h | h
    · subst h; exact .inl hn
    · exact .inr (weightsAll_in hn h)
theorem bytes_u8 : Tryz.prog.bytesOf 5 = 1 := by kernel_rfl
theorem open_bytes {H : Type} {enc : TypeId × Value → H} {W : World} {fuel : Nat} {cs : List Value} {x : DataW H × List MemPlace} (h : DataW.trod enc Tryz.prog W 0 (fun _ => true) true fuel 24 cs = some x) (hw : ∀ n ∈ x.1.weights Tryz.prog 24, n ≤ reachBytes) :
    ∃ (p : Option Addr) (L : List Int) (cap : Nat), cs = [.slice p L.length cap] ∧ ByIn W W.heap.size p L ∧ L.length ≤ 140737488351232 := by
  rcases open_slice1 Tryz.underlying24 cells_u8 h with h0 | ⟨a, len, cap, m, n, V, D, Pl, rfl, hb, hl, hm, hmm, rfl, hx⟩
  · exact ⟨none, [], 0, h0.1, ⟨(fun x hx => by cases hx), .inl rfl⟩, Nat.zero_le _⟩
  simp only [if_true] at hmm
  subst hmm
  have each : ∀ i, i < len → ∃ z : Int, W.cell? (a.add i) = some (.int .u8 z) ∧ 0 ≤ z ∧ z ≤ 255 := by
    intro i hi
    obtain ⟨h1, h2⟩ := hx i (by omega)
    obtain ⟨z, e, _, hw⟩ := DataW.trod_int Tryz.underlying5 h2
    simp only [List.cons.injEq, and_true] at e
    exact ⟨z, by rw [h1, e], u8_bounds hw⟩
  obtain ⟨q, hq⟩ := choose_lt each
  have hlen : ((List.range len).map q).length = len := by simp
  have hle : len ≤ 140737488351232 := by
    have := hw ((len + (m - len)) * 1) (by simp [DataW.weights, Tryz.underlying24, bytes_u8])
    unfold reachBytes at this
    omega
  refine ⟨some a, (List.range len).map q, _, by rw [hlen], ⟨fun x hx => ?_, ?_⟩, by rw [hlen]; exact hle⟩
  · obtain ⟨i, hi, rfl⟩ := List.mem_map.1 hx
    exact (hq i (by simpa using hi)).2
  · by_cases h0 : len = 0
    · left; subst h0; rfl
    · right
      obtain ⟨b, off, spot⟩ := a
      have hspot : spot = none := by
        have := (hq 0 (by omega)).1
        simpa [Addr.add] using World.cell?_spot this
      subst hspot
      refine ⟨b, off, rfl, ?_, fun j x hj => ?_⟩
      · have := cell_in (hq 0 (by omega)).1
        simpa [Addr.add] using this
      · have hj' : j < len := by have := (List.getElem?_eq_some_iff.1 hj).1; simpa using this
        have e : x = q j := by rw [List.getElem?_map, List.getElem?_range hj'] at hj; simpa using hj.symm
        rw [e]
        have := (hq j hj').1
        rw [add_plain] at this
        exact this
theorem open_texts {H : Type} {enc : TypeId × Value → H} {W : World} {fuel : Nat} {cs : List Value} {x : DataW H × List MemPlace} (h : DataW.trod enc Tryz.prog W 0 (fun _ => true) true fuel 22 cs = some x) (hw : ∀ n ∈ x.1.weights Tryz.prog 22, n ≤ reachBytes) :
    ∃ (p : Option Addr) (ts : List (List Int)) (cap : Nat), cs = [.slice p ts.length cap] ∧ TextsAt W W.heap.size p ts ∧ (∀ t ∈ ts, t.length ≤ 140737488351232) ∧ ts.length ≤ 9223372036854775807 := by
  rcases open_slice1 Tryz.underlying22 cells_bytes h with h0 | ⟨a, len, cap, m, n, V, D, Pl, rfl, hb, hl, hm, hmm, rfl, hx⟩
  · exact ⟨none, [], 0, h0.1, .inl rfl, (fun t ht => by cases ht), by simp⟩
  simp only [if_true] at hmm
  subst hmm
  have each : ∀ i, i < len → ∃ z : Option Addr × List Int × Nat, W.cell? (a.add i) = some (.slice z.1 z.2.1.length z.2.2) ∧ ByIn W W.heap.size z.1 z.2.1 ∧ z.2.1.length ≤ 140737488351232 := by
    intro i hi
    obtain ⟨h1, h2⟩ := hx i (by omega)
    obtain ⟨p, L, c, e, hB, hl2⟩ := open_bytes h2 (fun n hn => hw n (by
      simp only [DataW.weights, Tryz.underlying22, List.mem_cons, List.mem_append]
      exact .inr (.inl (weightsAll_in hn (List.mem_map.2 ⟨i, List.mem_range.2 hi, rfl⟩)))))
    simp only [List.cons.injEq, and_true] at e
    exact ⟨(p, L, c), by rw [h1, e], hB, hl2⟩
  obtain ⟨q, hq⟩ := choose_lt each
  have hlen : ((List.range len).map fun i => (q i).2.1).length = len := by simp
  refine ⟨some a, (List.range len).map fun i => (q i).2.1, _, by rw [hlen], ?_, fun t ht => ?_, by rw [hlen]; unfold maxLen at hm; omega⟩
  rotate_left
  · obtain ⟨i, hi, rfl⟩ := List.mem_map.1 ht
    exact (hq i (by simpa using hi)).2.2
  by_cases h0 : len = 0
  · left; subst h0; rfl
  · right
    obtain ⟨b, off, spot⟩ := a
    have hspot : spot = none := by
      have := (hq 0 (by omega)).1
      simpa [Addr.add] using World.cell?_spot this
    subst hspot
    refine ⟨b, off, rfl, ?_, fun j t hj => ?_⟩
    · have := cell_in (hq 0 (by omega)).1
      simpa [Addr.add] using this
    · have hj' : j < len := by have := (List.getElem?_eq_some_iff.1 hj).1; simpa using this
      have e : t = (q j).2.1 := by rw [List.getElem?_map, List.getElem?_range hj'] at hj; simpa using hj.symm
      subst e
      have := (hq j hj').1
      rw [add_plain] at this
      exact ⟨(q j).1, (q j).2.2, this, (hq j hj').2.1⟩
end Go.Proofs.YtcpignkjlnjjmaaGreatDoor
namespace Go.Proofs.YtcpignkjlnjjmaaGreatDoor
open Go.RowKit
set_option linter.unusedVariables false
set_option linter.unusedSimpArgs false

theorem page_used {n b i : Nat} {st : Sp} (hi : Inv n st) (hb : hasB (st.O b) = true) (h1 : b ≤ i) (h2 : (i : Int) < (b : Int) + (st.O b).2.1) : freeB (st.S (i / 64)) = false := by
  obtain ⟨o1, o2, o3⟩ := hi.objs b hb
  have hz := fits_size o2
  rcases o3 with ⟨s1, s2, s3⟩ | ⟨s1, s2, s3⟩
  · have hc := of_small hz.2.2.1 s1
    unfold startB wN at s3
    rw [Bool.and_eq_true] at s3
    have s5 : b % 64 + (wordsV (ofV (st.O b).2.1)).toNat ≤ 64 := by simpa using s3.2
    rw [show i / 64 = b / 64 from by omega, s2]
    rfl
  · by_cases e : i / 64 = b / 64
    · rw [e, s3]; rfl
    · rcases hi.good (b / 64) (by omega) with g | ⟨c, _, _, g⟩ | ⟨q, q1, q2, q3, g, q4⟩ | ⟨g, _⟩
      · rw [s3] at g; simp at g
      · rw [s3] at g; simp at g
      · rw [s3] at g
        have : ((st.O b).2.1 + 63) / 64 = (q : Int) := by simpa using g
        rw [q4 (i / 64) (by omega) (by omega)]
        rfl
      · rw [s3] at g; simp at g
theorem take_words {n a b i : Nat} {st : Sp} {fresh : Bool} {kd z t : Int} (hi : Inv n st) (hi' : Inv n (takeF n st a fresh kd z t)) (hp : placeF n st z = some (a, fresh)) (hf : fitsB kd z = true) (hno : hasB (st.O a) = false) (hb : hasB (st.O b) = true) (h1 : b ≤ i) (h2 : (i : Int) < (b : Int) + (st.O b).2.1) :
    (takeF n st a fresh kd z t).W i = st.W i ∧ (i < a ∨ (a : Int) + z ≤ i) := by
  have hne : b ≠ a := fun e => by rw [e, hno] at hb; cases hb
  have hz := fits_size hf
  have hk : hasB (kd, z, serOf st kd, t) = true := by
    unfold hasB
    simp
    omega
  have oa : (takeF n st a fresh kd z t).O a = (kd, z, serOf st kd, t) := putO_self
  have ob' : (takeF n st a fresh kd z t).O b = st.O b := putO_ne hne
  have r1 := obj_out hi' (a := a) (b := b) (by rw [oa]; exact hk) (by rw [ob']; exact hb) hne
  have r2 := obj_out hi' (a := b) (b := a) (by rw [ob']; exact hb) (by rw [oa]; exact hk) (Ne.symm hne)
  rw [oa] at r1
  rw [ob'] at r2
  dsimp only at r1
  have hzb := fits_size (hi.objs b hb).2.1
  have gb := room_ge hzb.2.2.1 hzb.2.2.2
  have ga := room_ge hz.2.2.1 hz.2.2.2
  have hout : i < a ∨ a + roomN z ≤ i := by omega
  refine ⟨?_, by omega⟩
  show updW (zeroW (if fresh then linkW n ⟨zeroW st.W a 64, takeS st a fresh z, putO st.O a (kd, z, serOf st kd, t), 0⟩ (ofV z) else st.W) a (roomN z)) a (makeV a kd z) i = st.W i
  unfold updW
  rw [if_neg (by have : 1 ≤ roomN z := by omega
                 omega)]
  unfold zeroW
  rw [if_neg (by omega)]
  cases fresh
  · rfl
  · unfold placeF at hp
    by_cases h32 : 32 < z
    · rw [if_pos h32] at hp
      cases hr : rowF st.S n ((z + 63) / 64).toNat <;> rw [hr] at hp <;> simp at hp
    · rw [if_neg h32] at hp
      by_cases hnf : 0 ≤ nf n st (ofV z) 0
      · rw [if_pos hnf] at hp; simp at hp
      · rw [if_neg hnf] at hp
        cases hr : rowF st.S n 1 with
        | none => rw [hr] at hp; simp at hp
        | some p =>
          rw [hr] at hp
          have ea : 64 * p = a := by simpa using hp
          have hfree : freeB (st.S p) = true := by
            unfold rowF at hr
            have := List.find?_some hr
            rw [Bool.and_eq_true] at this
            exact allF_iff.1 this.2 p (Nat.le_refl _) (by omega)
          have hpg : i / 64 ≠ p := fun e => by
            have := page_used hi hb h1 h2
            rw [e, hfree] at this
            cases this
          show linkW n ⟨zeroW st.W a 64, takeS st a true z, putO st.O a (kd, z, serOf st kd, t), 0⟩ (ofV z) i = st.W i
          unfold linkW
          cases hfr : fr n ⟨zeroW st.W a 64, takeS st a true z, putO st.O a (kd, z, serOf st kd, t), 0⟩ (ofV z) i
          · rw [if_neg (by simp)]
            show zeroW st.W a 64 i = st.W i
            unfold zeroW
            rw [if_neg (by omega)]
          · exfalso
            obtain ⟨f1, f2, f3, f4⟩ := fr_iff.1 hfr
            have f2' : takeS st a true z (i / 64) = (1, ofV z, 0) := f2
            unfold takeS at f2'
            rw [if_neg h32] at f2'
            have f2'' : setC st.S (a / 64) (ofV z) (i / 64) = (1, ofV z, 0) := f2'
            unfold setC at f2''
            rw [if_neg (by omega)] at f2''
            have f4' : hasB (putO st.O a (kd, z, serOf st kd, t) i) = false := f4
            rw [hasB_put, if_neg (by omega)] at f4'
            have hx : fr n st (ofV z) i = true := fr_iff.2 ⟨f1, f2'', f3, f4'⟩
            rcases nxr_cases (fr n st (ofV z)) (64 * n) 0 with ⟨e, hn⟩ | ⟨j, e, _⟩
            · rw [hn i (Nat.zero_le _) f1] at hx; cases hx
            · have : nf n st (ofV z) 0 = j := e
              omega
/-- the text t stands at the place a -/
def TxOk (st : Sp) (a : Nat) (t : List Int) : Prop := hasB (st.O a) = true ∧ (st.O a).1 = 4 ∧ (st.O a).2.1 = 2 + ((t.length + 7) / 8 : Nat) ∧ st.W (a + 1) = t.length ∧ txL st.W a t.length = t
theorem tx_size {m : Nat} (h : m ≤ 4000) : sizeB 4 m = true ∧ sizeV 4 m = 2 + ((m + 7) / 8 : Nat) ∧ fitsB 4 (2 + ((m + 7) / 8 : Nat)) = true := by
  have e1 : sizeB 4 m = true := by
    unfold sizeB
    have : mo 4 = 4096 := rfl
    rw [this]
    simp [knownB]
    omega
  refine ⟨e1, ?_, ?_⟩
  · unfold sizeV
    rw [if_pos e1, part_4]
    have : wd 4 = 2 := rfl
    rw [this]
    omega
  · refine fitsB_iff.2 ⟨by decide, ?_, ?_, .inl (by decide)⟩
    · have : wd 4 = 2 := rfl
      rw [this]; omega
    · have m1 : mo 4 = 4096 := rfl
      have m2 : wd 4 = 2 := rfl
      rw [part_4, m1, m2]
      omega
theorem tx_step {st : Sp} {C : Nat} {t : List Int} (hi : Inv 160 st) (hR : Rt 160 st) (hP : PgI st.S st.O C) (hB : Byt t) (hC : C + 24 + t.length ≤ 4000) {z : Int} (hz : z = 2 + ((t.length + 7) / 8 : Nat)) :
    ∃ (a : Nat) (st1 : Sp) (x : Int), (alF 160 st 4 z 0).1 = a ∧ (alF 160 st 4 z 0).2.1 = 0 ∧ (alF 160 st 4 z 0).2.2.1 = 0 ∧ (alF 160 st 4 z 0).2.2.2 = st1 ∧ (rawOf 160 st1).M (a : Int) = some (4, z, x, 0) ∧ Rt 160 (wSpO st1 (mtW 160 a st1.W t)) ∧ PgI st1.S st1.O (C + 24 + t.length) ∧ TxOk (wSpO st1 (mtW 160 a st1.W t)) a t ∧ (∀ b t', TxOk st b t' → TxOk (wSpO st1 (mtW 160 a st1.W t)) b t') ∧ st1.last = st.last + 1 := by
  have hf : fitsB 4 z = true := by rw [hz]; exact (tx_size (by omega)).2.2
  obtain ⟨a, fresh, hp, hP'⟩ := tx_alloc hi hP hC hz hf
  rcases al_right (t := 0) hi hR hf with ⟨e0, _⟩ | ⟨a', fresh', e1, e, i1, r1, h0, h1, h2⟩
  · rw [hp] at e0; cases e0
  rw [hp] at e1
  cases e1
  have hO : (takeF 160 st a fresh 4 z 0).O a = (4, z, serOf st 4, 0) := putO_self
  have hk : hasB ((takeF 160 st a fresh 4 z 0).O a) = true := by rw [hO]; rfl
  have har := arenaO i1 a _ (raw_at (n := 160) hk)
  rw [hO] at har
  dsimp only at har
  have hJ : a + 2 + (t.length + 7) / 8 ≤ 64 * 160 := by omega
  have hmt := mtC_at (n := 160) (a := a) (W := (takeF 160 st a fresh 4 z 0).W) (bs := t) ((t.length + 7) / 8) hJ
  refine ⟨a, takeF 160 st a fresh 4 z 0, serOf st 4, by rw [e], by rw [e], by rw [e], by rw [e], by rw [raw_at hk, hO], ?_, hP', ?_, ?_, ?_⟩
  · refine rt_room i1 r1 hk fun i hx => ?_
    rw [hO] at hx
    dsimp only at hx
    exact hmt.2.2 i (by omega)
  · have hb := tx_back (n := 160) (a := a) (W := (takeF 160 st a fresh 4 z 0).W) (W' := mtW 160 a (takeF 160 st a fresh 4 z 0).W t) hB hJ (fun _ _ _ => rfl)
    refine ⟨hk, ?_, ?_, hb.1, hb.2⟩
    · show ((takeF 160 st a fresh 4 z 0).O a).1 = 4
      rw [hO]
    · show ((takeF 160 st a fresh 4 z 0).O a).2.1 = _
      rw [hO]
      exact hz
  · rintro b t' ⟨b1, b2, b3, b4, b5⟩
    have hne : b ≠ a := fun e => by rw [e, h0] at b1; cases b1
    have ob' : (takeF 160 st a fresh 4 z 0).O b = st.O b := putO_ne hne
    have key : ∀ i : Nat, b ≤ i → (i : Int) < (b : Int) + (st.O b).2.1 → mtW 160 a (takeF 160 st a fresh 4 z 0).W t i = st.W i := fun i k1 k2 => by
      obtain ⟨w1, w2⟩ := take_words (t := 0) hi i1 hp hf h0 b1 k1 k2
      rw [← w1]
      exact hmt.2.2 i (by omega)
    refine ⟨?_, ?_, ?_, ?_, ?_⟩
    · show hasB ((takeF 160 st a fresh 4 z 0).O b) = true
      rw [ob']; exact b1
    · show ((takeF 160 st a fresh 4 z 0).O b).1 = 4
      rw [ob']; exact b2
    · show ((takeF 160 st a fresh 4 z 0).O b).2.1 = _
      rw [ob']; exact b3
    · show mtW 160 a (takeF 160 st a fresh 4 z 0).W t (b + 1) = _
      rw [key (b + 1) (by omega) (by omega)]; exact b4
    · show txL (mtW 160 a (takeF 160 st a fresh 4 z 0).W t) b t'.length = t'
      rw [← b5]
      have hl : (txL st.W b t'.length).length = t'.length := by unfold txL; simp
      rw [hl]
      unfold txL
      refine List.map_congr_left fun i hi' => ?_
      have := List.mem_range.1 hi'
      rw [key _ (by omega) (by omega)]
  · show lastOf st 4 = _
    rfl
end Go.Proofs.YtcpignkjlnjjmaaGreatDoor
namespace Go.Proofs.YtcpignkjlnjjmaaGreatDoor
open Go.RowKit
set_option linter.unusedVariables false
set_option linter.unusedSimpArgs false

theorem info_u8 : (Tryz.prog.info? 5).map (fun i => (i.zero, i.size, i.bytes)) = some (some (.int .u8 0), 1, 1) := by kernel_rfl
def bvs (t : List Int) : List Value := t.map fun x => .int .u8 x
theorem run_nilB (w : World) (ty : TypeId) (p : Option Addr) (c : Nat) : (Builtin.append_ #[24, 24] ty #[.slice none 0 0, .slice p 0 c]).run Tryz.prog w = .ok (.slice none 0 0) w := by
  obtain ⟨i0, hi, hz0, hz1, hz2⟩ := info_parts9 info_u8
  cases p <;> simp [Builtin.append_, run_underlying Tryz.underlying24, sizeOf, typeInfo, hi, Builtin.lenOf, Builtin.firstCells, loadCells, loadCellsFrom]
theorem app_bytes {ops : Array Oper} {rest : List Oper} {o : Oper} {ac : Go.Act} {w : World} {Q : Exit → Go.Act → World → Prop} (hgd : o.guard = none) (sx xx : Operand)
    (ho : o.op = .call { callee := .builtin .append, args := #[sx, xx], argTypes := #[24, 24] }) {t : List Int} {p : Option Addr} {cp : Nat} (hs : ac.eval sx = .slice none 0 0) (hx : ac.eval xx = .slice p t.length cp) (hl : BytesAt w p t) (hn : t.length ≤ 4000)
    (h : ∀ p' cp' w', BytesAt w' p' t → t.length ≤ cp' → (∀ g off, p' = some ⟨g, off, none⟩ → w.heap.size ≤ g) → Out 0 0 w w' → wpList Tryz.prog ops Q rest (ac.put o.dst (.slice p' t.length cp')) w') : wpList Tryz.prog ops Q (o :: rest) ac w :=
  wpList_plain hgd fun _ hK => by
    have key : ∃ p' cp' w', (Builtin.append_ #[24, 24] o.type #[.slice none 0 0, .slice p t.length cp]).run Tryz.prog w = .ok (.slice p' t.length cp') w' ∧ BytesAt w' p' t ∧ t.length ≤ cp' ∧ (∀ g off, p' = some ⟨g, off, none⟩ → w.heap.size ≤ g) ∧ Out 0 0 w w' := by
      rcases hl.2 with rfl | ⟨g, off, rfl, h2⟩
      · exact ⟨none, 0, w, run_nilB w o.type p cp, ⟨hl.1, .inl rfl⟩, Nat.le_refl _, (fun g off e => by cases e), Out.refl _ _ _⟩
      · obtain ⟨i0, hi0, hz0, hz1, hz2⟩ := info_parts9 info_u8
        have hbl : (bvs t).length = t.length := by unfold bvs; simp
        obtain ⟨v2, w', hrun, hown2, hgrow, _⟩ := run_append_own (P := Tryz.prog) w w.heap.size 24 o.type 5 i0 (.int .u8 0) 1 1 Tryz.underlying24 hi0 hz0 hz1 hz2 rfl (by decide) (.slice none 0 0) 0 [] (World.ownsRow_nil _ _ _ 1) ⟨g, off, none⟩ t.length cp (bvs t) (by rw [hbl]; omega) (by
            intro j u hj
            unfold bvs at hj
            rw [List.getElem?_map] at hj
            obtain ⟨x, hx1, rfl⟩ := Option.map_eq_some_iff.1 hj
            rw [Addr.add_lit]
            exact h2 j x hx1) (by intro u hu; unfold bvs at hu; obtain ⟨x, _, rfl⟩ := List.mem_map.1 hu; rfl) (by unfold maxLen; omega) (by omega) (Nat.le_refl _)
        rw [Nat.zero_add, List.nil_append] at hown2
        have hO : Out 0 0 w w' := ⟨hgrow.os, hgrow.tape, hgrow.output, hgrow.size, fun j h1 h2 => hgrow.block j h1 (by simp [Value.ownBlock])⟩
        obtain ⟨k1, k2⟩ := hown2
        rcases k2 with ⟨e1, e2⟩ | ⟨g4, cap4, cur, rfl, k3, k4, k5, k6, k7, k8⟩
        · have e0 : t = [] := List.eq_nil_of_length_eq_zero e2
          subst e0
          subst e1
          exact ⟨none, 0, w', hrun, ⟨hl.1, .inl rfl⟩, Nat.le_refl _, (fun g off e => by cases e), hO⟩
        · refine ⟨some ⟨g4, 0, none⟩, cap4, w', hrun, ⟨hl.1, .inr ⟨g4, 0, rfl, fun j b hj => ?_⟩⟩, k5, (fun g off e => by cases e; exact k3), hO⟩
          have hj' := (List.getElem?_eq_some_iff.1 hj).1
          have e8 : (cur.toList.take (t.length * 1))[j]? = (bvs t)[j]? := by rw [k8]
          unfold bvs at e8
          rw [List.getElem?_take, if_pos (by omega), List.getElem?_map, hj] at e8
          have : cur[j]? = some (.int .u8 b) := by simpa using e8
          simp [World.cell?, k4, this]
    obtain ⟨p', cp', w', hr, h2, h3, h4, h5⟩ := key
    unfold Oper.wp execOp
    simp only [ho, resolve, invoke, builtin, Sem.run_bind, Sem.run_pure, Result.andThen_ok, List.map_toArray, List.map_cons, List.map_nil, hs, hx, hr]
    exact hK _ _ (h p' cp' w' h2 h3 h4 h5)
theorem conv_bytes {w : World} {p : Option Addr} {t : List Int} {c : Nat} (h : BytesAt w p t) : (Go.convert 24 9 (.slice p t.length c)).run Tryz.prog w = .ok (.string (strOfNums t)) w := by
  rcases h.2 with rfl | ⟨g, off, rfl, hc⟩
  · cases p with
    | none => exact run_convert_bytes_nil w _ 5 Tryz.underlying24 Tryz.underlying5 _ _ _ Tryz.underlying9
    | some a =>
      rw [run_convert_bytes_string w 24 9 5 _ _ c Tryz.underlying24 Tryz.underlying5 Tryz.underlying9, run_bytesToString w _ _ c [] (by simp [loadCells, loadCellsFrom])]
      rfl
  · refine run_convert_bytes_arg w _ 5 Tryz.underlying24 Tryz.underlying5 g off t.length c t rfl (fun i hi => ?_) _ Tryz.underlying9
    rw [hc i t[i] (List.getElem?_eq_getElem hi)]
    simp [List.getD, List.getElem?_eq_getElem hi]
end Go.Proofs.YtcpignkjlnjjmaaGreatDoor
