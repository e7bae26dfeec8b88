import Derived.Test.YtcnjlbjpeklgkaaGreatDoorR40
import Derived.Laws.CopyRow
import Derived.Lib.SlBytesConst
namespace Go.Proofs.YtcnjlbjpeklgkaaGreatDoor
open Go.RowKit
set_option linter.unusedVariables false
set_option linter.unusedSimpArgs false

/-- copy, of elements of any size -/
theorem copy_anyB {P : Program} (w : World) (dT sT ty elem : TypeId) (g o dLen dCap : Nat) (a : Addr) (sLen sCap sz : Nat) (cur : Array Value) (t : TypeId) (cs : List Value)
    (hu : P.underlying dT = some (.slice elem)) (hs : (P.info? elem).map (·.size) = some sz)
    (hg : w.heap[g]? = some (.cells cur t (0, 0))) (hn : cs.length = Nat.min sLen dLen * sz)
    (hsrc : ∀ j v, cs[j]? = some v → w.cell? (a.add j) = some v) (hfit : o + cs.length ≤ cur.size) (h1 : ∀ v ∈ cs, v.oneCell' = true) :
    (Builtin.copy_ #[dT, sT] ty #[.slice (some ⟨g, o, none⟩) dLen dCap, .slice (some a) sLen sCap]).run P w =
      .ok (goInt (Nat.min sLen dLen)) (w.setRow g (cur.toList.take o ++ cs ++ cur.toList.drop (o + cs.length)).toArray) := by
  have hl := run_loadCells_list (P := P) w a cs hsrc
  have hst := run_storeCells_at P g o t cs 0 cur w hg (by simpa using hfit) h1
  cases hq : P.info? elem with
  | none => simp [hq] at hs
  | some i =>
    have hi : i.size = sz := by simpa [hq] using hs
    rw [hn] at hl
    simp [Builtin.copy_, run_underlying hu, Builtin.lenOf, Builtin.firstCells, sizeOf, typeInfo, hq, hi, hl, hst]
theorem out_setRow (w : World) (g : Nat) (cs : Array Value) : Out g (g + 1) w (w.setRow g cs) := ⟨rfl, rfl, rfl, by simp, fun k h1 h2 => by
  simp only [World.setRow, Array.getElem?_modify]
  rw [if_neg (by omega)]⟩
theorem setRow_bl {w : World} {g : Nat} {cs cs' : Array Value} {T : TypeId} (h : Bl w g cs T) : Bl (w.setRow g cs') g cs' T := setRow_heap _ _ _ _ _ _ h
def flC (a : Int) (n i : Nat) : List Value := List.replicate i (.int .u8 a) ++ List.replicate (n - i) (.int .u8 0)
theorem flC_len (a : Int) {n i : Nat} (h : i ≤ n) : (flC a n i).length = n := by unfold flC; simp; omega
theorem flC_set (a : Int) {n i : Nat} (h : i < n) : (flC a n i).set i (.int .u8 a) = flC a n (i + 1) := by
  unfold flC
  rw [List.set_append_right _ _ (by simp), List.length_replicate, Nat.sub_self]
  have e : n - i = (n - (i + 1)) + 1 := by omega
  rw [e, List.replicate_succ, List.set_cons_zero, List.replicate_succ', List.append_assoc]
  rfl
theorem flC_end (a : Int) (n : Nat) : flC a n n = bvs (List.replicate n a) := by
  unfold flC bvs
  rw [Nat.sub_self, List.map_replicate]
  simp
theorem mk_fl (a : Int) {n : Nat} (h : n ≤ 2000000) (w : World) : (Instr.makeSlice 50 (.int .i64 (n : Int)) (.int .i64 (n : Int))).run Tryz.prog w = .ok (.slice (some ⟨w.heap.size, 0, none⟩) n n) (w.alloc (.cells (flC a n 0).toArray 5)) := by
  have := run_make_row' (P := Tryz.prog) 50 5 (.int .u8 0) 1 Tryz.underlying50 (by kernel_rfl) rfl .i64 .i64 n (by omega) (by omega) w
  rw [this]
  have e : madeCells #[Value.int .u8 0] n = (flC a n 0).toArray := by
    apply Array.ext'
    rw [toList_madeCells_one]
    unfold flC
    simp
  rw [e]
def hdB : List Int := [102, 117, 110, 99, 32, 48, 32, 48, 32, 48, 10]
theorem hd_byS : byS "func 0 0 0\n" = hdB := by decide +kernel
theorem byt_rep {a : Int} (h : 0 ≤ a ∧ a ≤ 255) (n : Nat) : Byt (List.replicate n a) := fun c hc => by
  rw [List.eq_of_mem_replicate hc]; exact h
theorem hd_byt : Byt hdB := by intro c hc; unfold hdB at hc; simp at hc; omega
def p1F : PrF := (0, [], [(0, 0, 0, [])])
theorem p1_wr : wrE p1F = 0 := by
  refine (wr_ok ⟨by decide, by decide, by intro t ht; simp [p1F] at ht, by decide, ?_⟩ (by decide +kernel)).1
  intro f hf
  simp [p1F] at hf
  subst hf
  exact ⟨by decide, by decide, by decide, by decide, by intro x hx; simp at hx⟩
theorem w65 : wrE (65, [], [(0, 0, 0, [])]) = 62 := (wr_form (fun h => by have := h.1; simp at this)).1
theorem w64 : wrE (64, [], []) = 62 := (wr_form (fun h => by have := h.2.2.2.1; simp at this)).1
theorem full_s {S : ByteArray} {N : Nat} (hN : N = 1048576) (h : bt S = hdB ++ List.replicate (N - 11) 32) : asmF plO wrE (bt S) = ((0, [], [(0, 0, 0, [])]), 0, 0) := by
  subst hN
  rw [h, ← hd_byS]
  exact full_asm wrE p1_wr
theorem full_l {S : ByteArray} {N : Nat} (hN : N = 1048576) (h : bt S = hdB ++ List.replicate (N - 11) 32) : asmF plO wrE (bt (S ++ ⟨#[32]⟩)) = ((0, [], []), 0, 2) := by
  refine long_asm plO wrE _ ?_
  rw [bt_app, List.length_append, h, List.length_append, List.length_replicate]
  have e1 : hdB.length = 11 := rfl
  have e2 : (bt ⟨#[32]⟩).length = 1 := rfl
  omega
theorem rows_s {S : ByteArray} {N : Nat} (hN : N = 99999) (h : bt S = hdB ++ List.replicate N 10) : asmF plO wrE (bt S) = ((0, [], [(0, 0, 0, [])]), 0, 0) := by
  subst hN
  rw [h, ← hd_byS]
  exact rows_asm wrE p1_wr
theorem rows_l {S : ByteArray} {N : Nat} (hN : N = 99999) (h : bt S = hdB ++ List.replicate N 10) : asmF plO wrE (bt (S ++ ⟨#[10]⟩)) = ((0, [], []), 0, 2) := by
  subst hN
  rw [bt_app, h, ← hd_byS]
  have e : byS "func 0 0 0\n" ++ List.replicate 99999 10 ++ bt ⟨#[10]⟩ = byS "func 0 0 0\n" ++ List.replicate 100000 10 := by
    have e2 : bt ⟨#[10]⟩ = List.replicate 1 10 := rfl
    rw [List.append_assoc, e2, List.replicate_append_replicate]
  rw [e]
  exact rows_more plO wrE
theorem s65 : asmF plO wrE (bt ⟨#[103, 108, 111, 98, 97, 108, 115, 32, 54, 53, 10, 102, 117, 110, 99, 32, 48, 32, 48, 32, 48, 10]⟩) = ((0, [], []), 0, 62) := by
  have e : bt ⟨#[103, 108, 111, 98, 97, 108, 115, 32, 54, 53, 10, 102, 117, 110, 99, 32, 48, 32, 48, 32, 48, 10]⟩ = byS "globals 65\nfunc 0 0 0\n" := by decide +kernel
  rw [e]; exact g65_asm wrE w65
theorem s64 : asmF plO wrE (bt ⟨#[103, 108, 111, 98, 97, 108, 115, 32, 54, 52, 10]⟩) = ((0, [], []), 0, 62) := by
  have e : bt ⟨#[103, 108, 111, 98, 97, 108, 115, 32, 54, 52, 10]⟩ = byS "globals 64\n" := by decide +kernel
  rw [e]; exact g64_asm wrE w64
theorem copy_hd {w : World} {g h N c : Nat} (hg : Bl w g (bvs (List.replicate N 32)).toArray 5) (hh : ∀ (j : Nat) v, (bvs hdB)[j]? = some v → w.cell? ⟨h, j, none⟩ = some v) (hN : 11 ≤ N) : ∃ w', (Builtin.copy_ #[50, 50] 3 #[.slice (some ⟨g, 0, none⟩) N N, .slice (some ⟨h, 0, none⟩) 11 c]).run Tryz.prog w = .ok (.int .i64 11) w' ∧ Bl w' g (bvs (hdB ++ List.replicate (N - 11) 32)).toArray 5 ∧ Out g (g + 1) w w' := by
  have hm : Nat.min 11 N = 11 := Nat.min_eq_left hN
  have := copy_anyB (P := Tryz.prog) w 50 50 3 5 g 0 N N ⟨h, 0, none⟩ 11 c 1 _ 5 (bvs hdB) Tryz.underlying50 (by kernel_rfl) hg (by rw [hm]; rfl) (fun j v hj => by
    rw [Addr.add_lit, Nat.zero_add]
    exact hh j v hj) (by
      show 0 + 11 ≤ (bvs (List.replicate N 32)).toArray.size
      rw [List.size_toArray, bvs_len, List.length_replicate]; omega) (fun v hv => bvs_one v hv)
  rw [hm] at this
  refine ⟨_, this, ?_, out_setRow _ _ _⟩
  have e : (List.take 0 (bvs (List.replicate N 32)).toArray.toList ++ bvs hdB ++ List.drop (0 + (bvs hdB).length) (bvs (List.replicate N 32)).toArray.toList).toArray = (bvs (hdB ++ List.replicate (N - 11) 32)).toArray := by
    have l1 : (bvs hdB).length = 11 := rfl
    have l2 : List.drop 11 (bvs (List.replicate N 32)) = bvs (List.replicate (N - 11) 32) := by
      unfold bvs
      rw [List.map_replicate, List.map_replicate, List.drop_replicate]
    rw [bvs_app, List.take_zero, List.nil_append, l1, Nat.zero_add]
    rw [l2]
  rw [e]
  exact setRow_bl hg
theorem by_row {w : World} {g : Nat} {l : List Int} (hb : Byt l) (h : Bl w g (bvs l).toArray 5) : BytesAt w (some ⟨g, 0, none⟩) l :=
  ⟨hb, .inr ⟨g, 0, rfl, fun j x hj => by
    rw [Nat.zero_add]
    refine h.cell ?_
    rw [List.getElem?_toArray]
    unfold bvs
    rw [List.getElem?_map, hj]; rfl⟩⟩
theorem len_hd (N : Nat) (a : Int) (h : 11 ≤ N) : (hdB ++ List.replicate (N - 11) a).length = N := by
  rw [List.length_append, List.length_replicate]
  have e1 : hdB.length = 11 := rfl
  omega
theorem len_hr (N : Nat) (a : Int) : (hdB ++ List.replicate N a).length = N + 11 := by
  rw [List.length_append, List.length_replicate]
  have e1 : hdB.length = 11 := rfl
  omega
theorem cell_mk (w : World) (C : Array Value) (T : TypeId) (k l : Nat) {j : Nat} {v : Value} (h : C[j]? = some v) : (w.alloc (.cells C T (k, l))).cell? ⟨w.heap.size, j, none⟩ = some v := by
  have e : (w.alloc (.cells C T (k, l))).heap[w.heap.size]? = some (.cells C T (k, l)) := by
    show (w.heap.push _)[w.heap.size]? = _
    simp
  unfold World.cell?
  rw [e]
  simpa using h
set_option maxRecDepth 100000 in
set_option maxHeartbeats 8000000 in
theorem limits25_any {w : World} (h : Gx w) : Calls Tryz.prog 12 #[] w fun e w' => e = .returned (.bool true) ∧ Out 0 0 w w' := by
  have HG := hid_mk h
  obtain ⟨N, hN⟩ : ∃ N, N = 1048576 := ⟨_, rfl⟩
  obtain ⟨M, hM⟩ : ∃ M, M = 99999 := ⟨_, rfl⟩
  have HN := hid_mk hN
  have HM := hid_mk hM
  have hmk : ∀ W : World, (Instr.makeSlice 50 (.int .i64 1048576) (.int .i64 1048576)).run Tryz.prog W = .ok (.slice (some ⟨W.heap.size, 0, none⟩) N N) (W.alloc (.cells (flC 32 N 0).toArray 5)) := fun W => by
    have := mk_fl 32 (n := N) (by omega) W
    have e : ((N : Nat) : Int) = 1048576 := by omega
    rwa [e] at this
  have hmk2 : ∀ W : World, (Instr.makeSlice 50 (.int .i64 99999) (.int .i64 99999)).run Tryz.prog W = .ok (.slice (some ⟨W.heap.size, 0, none⟩) M M) (W.alloc (.cells (flC 10 M 0).toArray 5)) := fun W => by
    have := mk_fl 10 (n := M) (by omega) W
    have e : ((M : Nat) : Int) = 99999 := by omega
    rwa [e] at this
  have hNb : (N : Int) ≤ 2000000 := by omega
  have hMb : (M : Int) ≤ 2000000 := by omega
  obtain ⟨q, hq⟩ : ∃ q, w.heap.size = q := ⟨_, rfl⟩
  have hh : ∀ (j : Nat) v, (bvs hdB)[j]? = some v → (w.alloc (.cells (bvs hdB).toArray 5 (11, 12))).cell? ⟨q, j, none⟩ = some v := fun j v hj => by
    rw [← hq]
    exact cell_mk w _ _ 11 12 (by rw [List.getElem?_toArray]; exact hj)
  have HH := hid_mk hh
  have HQ := hid_mk hq
  have HMK2 := hid_mk hmk2
  clear h hN hM hh hmk2
  obtain ⟨V, hV⟩ : ∃ V, w.alloc (.cells (bvs hdB).toArray 5 (11, 12)) = V := ⟨_, rfl⟩
  have hVs : V.heap.size = q + 1 := by rw [← hV, size_alloc, hq]
  have hoV : Out 0 0 w V := by rw [← hV]; exact (Out.refl 0 0 w).alloc _
  have hcs : (Go.convert 50 50 (.slice (some ⟨q, 0, none⟩) 11 11)).run Tryz.prog (w.alloc (.cells #[.int .u8 102, .int .u8 117, .int .u8 110, .int .u8 99, .int .u8 32, .int .u8 48, .int .u8 32, .int .u8 48, .int .u8 32, .int .u8 48, .int .u8 10] 5)) = .ok (.slice (some ⟨q, 0, none⟩) 11 11) V := by
    have := Lib.run_convert_bytes_const (P := Tryz.prog) w 50 5 #[.int .u8 102, .int .u8 117, .int .u8 110, .int .u8 99, .int .u8 32, .int .u8 48, .int .u8 32, .int .u8 48, .int .u8 32, .int .u8 48, .int .u8 10] 11 11 Tryz.underlying50 (by kernel_rfl)
    rw [hq] at this
    rw [← hV]
    exact this
  rw [hV] at HH
  have HOV := hid_mk hoV
  have h0 := Bl.new V (flC 32 N 0).toArray 5
  rw [hVs] at h0
  have HB0 := hid_mk h0
  clear hV hoV h0
  go_enter Tryz.func12, Tryz.ntmps12
  go_wp2_with fail
  go_loopw [3] (fun v wr => ∃ i : Nat, v = .int .i64 (i : Int) ∧ i ≤ N ∧ Bl wr (q + 1) (flC 32 N i).toArray 5 ∧ Out 0 0 V wr) (fun v _ => N - (intOf v).toNat)
  case atStart => exact ⟨0, rfl, Nat.zero_le _, HB0.out, (Out.refl 0 0 V).alloc _⟩
  case round =>
    obtain ⟨i, rfl, hi, hB, hO⟩ := hrel
    have HB := hid_mk hB
    have HO := hid_mk hO
    by_cases hlt : i < N
    · have hd : decide ((i : Int) < (N : Int)) = true := decide_eq_true (by omega)
      have hkm : (i : Int) < (N : Int) := by omega
      have hk0 : (0 : Int) ≤ (i : Int) := by omega
      obtain ⟨x, hx⟩ : ∃ x, (flC 32 N i).toArray[i]? = some x := ⟨_, by rw [List.getElem?_toArray]; exact List.getElem?_eq_getElem (by rw [flC_len 32 hi]; exact hlt)⟩
      have b0 := hB.cell (i := i) hx
      have f0 := hB.frozen i
      have HLt := hid_mk hlt
      clear hi hB hO hlt hx
      go_wp2
      refine ⟨⟨i + 1, rfl, HLt.out, ?_, HO.out.setCell (.inr (by show V.heap.size ≤ q + 1; omega)) _⟩, by have := HLt.out; show N - (((i : Int) + 1).toNat) < N - ((i : Int).toNat); omega⟩
      rw [← flC_set 32 HLt.out, ← List.setIfInBounds_toArray]
      exact HB.out.set i _
    · have hd : decide ((i : Int) < (N : Int)) = false := decide_eq_false (by omega)
      have hkm : ¬ ((i : Int) < (N : Int)) := by omega
      obtain rfl : i = N := by omega
      rw [flC_end] at hB
      obtain ⟨w2, hcp, hB2, oc⟩ := copy_hd (c := 11) hB (fun j v hj => hO.cell (HH.out j v hj) (.inr (Nat.zero_le _))) (by have := HN.out; omega)
      have hO2 : Out 0 0 V w2 := hO.past oc (by omega)
      have hcv1 := fun c => conv_bytes (c := c) (by_row (fun x hx => by rcases List.mem_append.1 hx with q | q; exact hd_byt x q; exact byt_rep (by decide) _ x q) hB2) (len_hd i 32 (by have := HN.out; omega))
      have hbs : bt (strOfNums (hdB ++ List.replicate (i - 11) 32)) = hdB ++ List.replicate (i - 11) 32 := bt_nums (fun x hx => by rcases List.mem_append.1 hx with q | q; exact hd_byt x q; exact byt_rep (by decide) _ x q)
      have HB2 := hid_mk hB2
      have HO2 := hid_mk hO2
      obtain ⟨S, hS⟩ : ∃ S, strOfNums (hdB ++ List.replicate (i - 11) 32) = S := ⟨_, rfl⟩
      rw [hS] at hbs
      rw [hS] at hcv1
      have HS := hid_mk hbs
      have hSz : S.size = i := by rw [← bt_len, hbs]; exact len_hd i 32 (by have := HN.out; omega)
      have HOs := hid_mk (HOV.out.trans HO2.out)
      have HBA := hid_mk (fun (c : Nat) (w3 : World) (o : Out 0 0 w2 w3) => conv_bytes (c := c) (by_row (fun x hx => by rcases List.mem_append.1 hx with q | q; exact hd_byt x q; exact byt_rep (by decide) _ x q) (HB2.out.kept o (.inr (Nat.zero_le _)))) (len_hd i 32 (by have := HN.out; omega)))
      rw [hS] at HBA
      have HA1 := hid_mk (asm_known (x := 0) (ts := []) (fs := [(0, 0, 0, [])]) 0 1 (full_s HN.out HS.out) rfl rfl (HG.out.out HOs.out))
      clear hi hB hO hlt hB2 oc hO2 hbs HB HO hS
      go_wp2_with (go_at_call 19; refine HA1.out.mono ?_; rintro e w3 ⟨o3, ta, tc, fa, fc, rfl, _, _⟩; have HO3 := hid_mk (o3.alloc (.cells #[.int .i64 0, .slice ta 0 tc, .slice fa 1 fc] 32)); clear o3 hcv1)
      obtain ⟨W3, hW3⟩ : ∃ W3, w3.alloc (.cells #[.int .i64 0, .slice ta 0 tc, .slice fa 1 fc] 32) = W3 := ⟨_, rfl⟩
      rw [hW3] at HO3
      rw [hW3]
      have hcv2 := fun c => HBA.out c W3 HO3.out
      have HA2 := hid_mk (asm_known (x := 0) (ts := []) (fs := []) 0 0 (full_l HN.out HS.out) rfl rfl (HG.out.out (HOs.out.trans HO3.out)))
      clear hW3
      rw [hcv2]
      clear hcv2
      go_wp2_with (go_at_call 19; refine HA2.out.mono ?_; rintro e w4 ⟨o4, ta2, tc2, fa2, fc2, rfl, _, _⟩; have HO4 := hid_mk (o4.alloc (.cells #[.int .i64 0, .slice ta2 0 tc2, .slice fa2 0 fc2] 32)); clear o4)
      obtain ⟨W4, hW4⟩ : ∃ W4, w4.alloc (.cells #[.int .i64 0, .slice ta2 0 tc2, .slice fa2 0 fc2] 32) = W4 := ⟨_, rfl⟩
      rw [hW4] at HO4
      rw [hW4, HMK2.out W4]
      obtain ⟨g, hg⟩ : ∃ g, W4.heap.size = g := ⟨_, rfl⟩
      have h5 := Bl.new W4 (flC 10 M 0).toArray 5
      rw [hg] at h5
      rw [hg]
      have HB5 := hid_mk h5
      have HO5 := hid_mk (((Out.refl 0 0 W4).alloc (.cells (flC 10 M 0).toArray 5)))
      have HG5 := hid_mk hg
      have HOw := hid_mk ((HOs.out.trans HO3.out).trans HO4.out)
      have HQg := hid_mk (show V.heap.size ≤ g by have h1 := HO2.out.size; have h2 := HO3.out.size; have h3 := HO4.out.size; omega)
      have HHD := hid_mk (fun (j : Nat) v hj => ((HO2.out.trans HO3.out).trans HO4.out).cell (HH.out j v hj) (.inr (Nat.zero_le _)))
      clear hW4 hg h5
      go_wp2_with fail
      go_loopw [11] (fun v wr => ∃ j : Nat, v = .int .i64 (j : Int) ∧ j ≤ M ∧ Bl wr g (flC 10 M j).toArray 5 ∧ Out 0 0 W4 wr) (fun v _ => M - (intOf v).toNat)
      case atStart => exact ⟨0, rfl, Nat.zero_le _, HB5.out, HO5.out⟩
      case round =>
        obtain ⟨j, rfl, hj, hB5, hO5⟩ := hrel
        have HB := hid_mk hB5
        have HO := hid_mk hO5
        by_cases hlt : j < M
        · have hd : decide ((j : Int) < (M : Int)) = true := decide_eq_true (by omega)
          have hkm : (j : Int) < (M : Int) := by omega
          have hk0 : (0 : Int) ≤ (j : Int) := by omega
          obtain ⟨x, hx⟩ : ∃ x, (flC 10 M j).toArray[j]? = some x := ⟨_, by rw [List.getElem?_toArray]; exact List.getElem?_eq_getElem (by rw [flC_len 10 hj]; exact hlt)⟩
          have b0 := hB5.cell (i := j) hx
          have f0 := hB5.frozen j
          have HLt := hid_mk hlt
          clear hj hB5 hO5 hlt hx
          go_wp2
          refine ⟨⟨j + 1, rfl, HLt.out, ?_, HO.out.setCell (.inr (by show W4.heap.size ≤ g; exact Nat.le_of_eq HG5.out)) _⟩, by have := HLt.out; show M - (((j : Int) + 1).toNat) < M - ((j : Int).toNat); omega⟩
          rw [← flC_set 10 HLt.out, ← List.setIfInBounds_toArray]
          exact HB.out.set j _
        · have hd : decide ((j : Int) < (M : Int)) = false := decide_eq_false (by omega)
          have hkm : ¬ ((j : Int) < (M : Int)) := by omega
          obtain rfl : j = M := by omega
          rw [flC_end] at hB5
          have HB5' := hid_mk hB5
          have HCH := hid_mk (fun (c : Nat) (w5 : World) (o : Out 0 0 wr w5) => conv_bytes (c := c) (n := 11) (w := w5) (p := some ⟨q, 0, none⟩) (t := hdB) ⟨hd_byt, .inr ⟨q, 0, rfl, fun k x hk => by
            rw [Nat.zero_add]
            refine o.cell (hO5.cell (HHD.out k (.int .u8 x) ?_) (.inr (Nat.zero_le _))) (.inr (Nat.zero_le _))
            unfold bvs
            rw [List.getElem?_map, hk]; rfl⟩⟩ rfl)
          have HCR := hid_mk (fun (c : Nat) (w5 : World) (o : Out 0 0 wr w5) => conv_bytes (c := c) (by_row (byt_rep (a := 10) (by decide) j) (HB5'.out.kept o (.inr (Nat.zero_le _)))) (List.length_replicate ..))
          have hb1 : bt (strOfNums hdB) = hdB := bt_nums hd_byt
          have hb2 : bt (strOfNums (List.replicate j 10)) = List.replicate j 10 := bt_nums (byt_rep (by decide) j)
          obtain ⟨S1, hS1⟩ : ∃ S1, strOfNums hdB = S1 := ⟨_, rfl⟩
          obtain ⟨S2, hS2⟩ : ∃ S2, strOfNums (List.replicate j 10) = S2 := ⟨_, rfl⟩
          rw [hS1] at hb1 HCH
          rw [hS2] at hb2 HCR
          have hb3 : bt (S1 ++ S2) = hdB ++ List.replicate j 10 := by rw [bt_app, hb1, hb2]
          have HB3 := hid_mk hb3
          have hz1 : S1.size = 11 := by rw [← bt_len, hb1]; rfl
          have hz2 : S2.size = j := by rw [← bt_len, hb2, List.length_replicate]
          have HOr := hid_mk (HOw.out.trans hO5)
          have hc1 := fun c => HCH.out c wr (Out.refl 0 0 wr)
          have hc2 := fun c => HCR.out c wr (Out.refl 0 0 wr)
          have HA3 := hid_mk (asm_known (x := 0) (ts := []) (fs := [(0, 0, 0, [])]) 0 1 (rows_s HM.out HB3.out) rfl rfl (HG.out.out HOr.out))
          clear hj hB5 hO5 hlt hb1 hb2 hb3 hS1 hS2 HB HO
          go_wp2_with fail
          go_at_call 19
          refine HA3.out.mono ?_
          rintro e w6 ⟨o6, ta3, tc3, fa3, fc3, rfl, _, _⟩
          have HO6 := hid_mk o6
          have hc3 := fun c => HCH.out c w6 o6
          have hc4 := fun c => HCR.out c w6 o6
          have HA4 := hid_mk (asm_known (x := 0) (ts := []) (fs := []) 0 0 (rows_l HM.out HB3.out) rfl rfl (HG.out.out (HOr.out.trans o6)))
          clear o6 hc1 hc2
          go_wp2_with fail
          go_at_call 19
          refine HA4.out.mono ?_
          rintro e w7 ⟨o7, ta4, tc4, fa4, fc4, rfl, _, _⟩
          have HO7 := hid_mk ((HOr.out.trans HO6.out).trans o7)
          have HA5 := hid_mk (asm_known (x := 0) (ts := []) (fs := []) 0 0 s65 rfl rfl (HG.out.out HO7.out))
          clear o7 hc3 hc4
          go_wp2_with fail
          go_at_call 19
          refine HA5.out.mono ?_
          rintro e w8 ⟨o8, ta5, tc5, fa5, fc5, rfl, _, _⟩
          have HO8 := hid_mk (HO7.out.trans o8)
          have HA6 := hid_mk (asm_known (x := 0) (ts := []) (fs := []) 0 0 s64 rfl rfl (HG.out.out HO8.out))
          clear o8
          go_wp2_with fail
          go_at_call 19
          refine HA6.out.mono ?_
          rintro e w9 ⟨o9, ta6, tc6, fa6, fc6, rfl, _, _⟩
          have HO9 := hid_mk (HO8.out.trans o9)
          clear o9
          go_wp2_with fail
          go_at_call 13
          refine (alive25 (HG.out.out HO9.out)).mono ?_
          rintro e w10 ⟨rfl, o10⟩
          go_wp2_with fail
          go_ret
          exact ⟨rfl, HO9.out.trans o10⟩
end Go.Proofs.YtcnjlbjpeklgkaaGreatDoor
