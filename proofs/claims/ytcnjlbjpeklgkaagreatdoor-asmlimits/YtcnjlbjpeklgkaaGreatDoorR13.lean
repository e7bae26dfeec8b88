import Derived.Test.YtcnjlbjpeklgkaaGreatDoorR08
import Derived.Test.YtcnjlbjpeklgkaaGreatDoorR12
import Derived.Lib.AppendStr
import Derived.Shelf.Unicode.DecodeSlow
namespace Go.Proofs.YtcnjlbjpeklgkaaGreatDoor
open Go.RowKit
set_option linter.unusedVariables false
set_option linter.unusedSimpArgs false

theorem esc_x {a b : Int} {r : List Int} : escF (120 :: a :: b :: r) = (fl16 0 [a, b]).map (fun n => (n, r)) := by
  simp only [escF, fl16]
  cases hxF a with
  | none => rfl
  | some x => cases hxF b with
    | none => rfl
    | some y => simp; omega
theorem fl2_rng {a b n : Int} (h : fl16 0 [a, b] = some n) : 0 ≤ n ∧ n ≤ 255 := by
  simp only [fl16] at h
  have hx : ∀ c x, hxF c = some x → 0 ≤ x ∧ x ≤ 15 := by
    intro c x h
    rw [hxF_of] at h
    split at h
    · cases h; omega
    · split at h
      · cases h; omega
      · cases h
  cases ha : hxF a with
  | none => rw [ha] at h; cases h
  | some x =>
    rw [ha] at h
    cases hb : hxF b with
    | none => rw [hb] at h; cases h
    | some y =>
      rw [hb] at h
      have := hx a x ha
      have := hx b y hb
      cases h
      omega
set_option maxRecDepth 100000 in
set_option maxHeartbeats 2000000 in
/-- the byte that stands behind a `\` -/
theorem unesc_any (t : ByteArray) (w : World) : Calls Tryz.prog 149 #[.string t] w fun x w' => Out 0 0 w w' ∧ ((∃ b r, escF (bt t) = some (b, bt r) ∧ 0 ≤ b ∧ b ≤ 255 ∧ x = .returned (.tuple #[.int .u8 b, .string r])) ∨ (escF (bt t) = none ∧ x = .panicked [giveUp])) := by
  by_cases hb : bt t = []
  · have h2 : t.toList.isEmpty = true := by rw [bt_empty, hb]; rfl
    have hn : escF (bt t) = none := by rw [hb]; rfl
    have HN := hid_mk hn
    clear hb hn
    go_enter Tryz.func149, Tryz.ntmps149
    go_wp2_with (go_at_call 104; refine calls_stop (awant_no _) ?_)
    exact ⟨rfl, Out.refl _ _ _, .inr ⟨HN.out, rfl⟩⟩
  have hpos : 0 < t.size := by
    rcases Nat.eq_zero_or_pos t.size with h | h
    · exact absurd (List.eq_nil_of_length_eq_zero (by rw [bt_len]; exact h)) hb
    · exact h
  have h2 : t.toList.isEmpty = false := by rw [bt_empty]; exact decide_eq_false hb
  have hh := bt_get hpos
  obtain ⟨d, hd⟩ : ∃ d, ((t[0]'hpos).toNat : Int) = d := ⟨_, rfl⟩
  have hl1 : bt t = d :: (bt t).drop 1 := by have := (td_at hh).1; rwa [List.drop_zero, hd] at this
  have h255 : 0 ≤ d ∧ d ≤ 255 := bt_rng t d (by rw [hl1]; simp)
  have hle1 : (1 : Int) ≤ (t.size : Int) := by omega
  have hb1 : Hid (bt (t.extract 1 t.size) = (bt t).drop 1) := hid_mk (bt_from t 1)
  have HD := hid_mk hd
  have HL := hid_mk hl1
  have HR := hid_mk h255
  clear hh hb
  by_cases h92 : d = 92 ∨ d = 34 ∨ d = 39
  · have HE := hid_mk h92
    rcases h92 with h92 | h92 | h92
    · have g92 : (((t[0]'hpos).toNat : Int) == 92) = true := by rw [hd, h92]; rfl
      clear hd hl1 h255 h92
      go_enter Tryz.func149, Tryz.ntmps149
      go_wp2_with (go_at_call 104; refine calls_same (awant_yes _) ?_)
      refine wp_region_held_drew (S := fun _ => True) (by kernel_rfl) ?hS1 (fun hHeld => ?rest1)
      case hS1 => exact trivial
      refine tk 0 ?_
      refine tk 1 ?_
      refine tk 2 ?_
      refine tk 3 ?_
      refine tk 4 ?_
      refine tk 5 ?_
      refine wpAnyH_done (by kernel_rfl) ?_ _
      go_wp2
      refine bodyPost_ret (results_tmp2 Tryz.results149 _ _ _) rfl ⟨(Out.refl _ _ _).drew, .inl ⟨d, t.extract 1 t.size, ?_, HR.out.1, HR.out.2, ?_⟩⟩
      rotate_left
      · first | exact congrArg (fun z => Ending.returned (.tuple #[.int .u8 z, .string (t.extract 1 t.size)])) HD.out | rfl
      rw [hb1.out, HL.out]
      simp only [escF, List.drop_succ_cons, List.drop_zero]
      rw [if_pos HE.out]
    · have g92 : (((t[0]'hpos).toNat : Int) == 92) = false := by rw [hd, h92]; rfl
      have g34 : (((t[0]'hpos).toNat : Int) == 34) = true := by rw [hd, h92]; rfl
      clear hd hl1 h255 h92
      go_enter Tryz.func149, Tryz.ntmps149
      go_wp2_with (go_at_call 104; refine calls_same (awant_yes _) ?_)
      refine wp_region_held_drew (S := fun _ => True) (by kernel_rfl) ?hS8 (fun hHeld => ?rest8)
      case hS8 => exact trivial
      refine tk 0 ?_
      refine tk 1 ?_
      refine tk 2 ?_
      refine tk 3 ?_
      refine tk 4 ?_
      refine tk 5 ?_
      refine wpAnyH_done (by kernel_rfl) ?_ _
      go_wp2
      refine bodyPost_ret (results_tmp2 Tryz.results149 _ _ _) rfl ⟨(Out.refl _ _ _).drew, .inl ⟨d, t.extract 1 t.size, ?_, HR.out.1, HR.out.2, ?_⟩⟩
      rotate_left
      · first | exact congrArg (fun z => Ending.returned (.tuple #[.int .u8 z, .string (t.extract 1 t.size)])) HD.out | rfl
      rw [hb1.out, HL.out]
      simp only [escF, List.drop_succ_cons, List.drop_zero]
      rw [if_pos HE.out]
    · have g92 : (((t[0]'hpos).toNat : Int) == 92) = false := by rw [hd, h92]; rfl
      have g34 : (((t[0]'hpos).toNat : Int) == 34) = false := by rw [hd, h92]; rfl
      have g39 : (((t[0]'hpos).toNat : Int) == 39) = true := by rw [hd, h92]; rfl
      clear hd hl1 h255 h92
      go_enter Tryz.func149, Tryz.ntmps149
      go_wp2_with (go_at_call 104; refine calls_same (awant_yes _) ?_)
      refine wp_region_held_drew (S := fun _ => True) (by kernel_rfl) ?hS15 (fun hHeld => ?rest15)
      case hS15 => exact trivial
      refine tk 0 ?_
      refine tk 1 ?_
      refine tk 2 ?_
      refine tk 3 ?_
      refine tk 4 ?_
      refine tk 5 ?_
      refine wpAnyH_done (by kernel_rfl) ?_ _
      go_wp2
      refine bodyPost_ret (results_tmp2 Tryz.results149 _ _ _) rfl ⟨(Out.refl _ _ _).drew, .inl ⟨d, t.extract 1 t.size, ?_, HR.out.1, HR.out.2, ?_⟩⟩
      rotate_left
      · first | exact congrArg (fun z => Ending.returned (.tuple #[.int .u8 z, .string (t.extract 1 t.size)])) HD.out | rfl
      rw [hb1.out, HL.out]
      simp only [escF, List.drop_succ_cons, List.drop_zero]
      rw [if_pos HE.out]
  have g92 : (((t[0]'hpos).toNat : Int) == 92) = false := by rw [hd]; simp only [beq_eq_false_iff_ne, ne_eq]; omega
  have g34 : (((t[0]'hpos).toNat : Int) == 34) = false := by rw [hd]; simp only [beq_eq_false_iff_ne, ne_eq]; omega
  have g39 : (((t[0]'hpos).toNat : Int) == 39) = false := by rw [hd]; simp only [beq_eq_false_iff_ne, ne_eq]; omega
  have H92 := hid_mk h92
  clear h92
  by_cases h110 : d = 110
  · have g110 : (((t[0]'hpos).toNat : Int) == 110) = true := by rw [hd, h110]; rfl
    have HE := hid_mk h110
    clear hd hl1 h255 h110
    go_enter Tryz.func149, Tryz.ntmps149
    go_wp2_with (go_at_call 104; refine calls_same (awant_yes _) ?_)
    refine wp_region_held_drew (S := fun _ => True) (by kernel_rfl) ?hS22 (fun hHeld => ?rest22)
    case hS22 => exact trivial
    refine tk 0 ?_
    refine tk 1 ?_
    refine tk 2 ?_
    refine tk 3 ?_
    refine wpAnyH_done (by kernel_rfl) ?_ _
    go_wp2
    refine bodyPost_ret (results_tmp2 Tryz.results149 _ _ _) rfl ⟨(Out.refl _ _ _).drew, .inl ⟨10, t.extract 1 t.size, ?_, by decide, by decide, ?_⟩⟩
    rotate_left
    · first | exact congrArg (fun z => Ending.returned (.tuple #[.int .u8 z, .string (t.extract 1 t.size)])) HD.out | rfl
    rw [hb1.out, HL.out]
    simp only [escF, List.drop_succ_cons, List.drop_zero]
    rw [if_neg H92.out, if_pos HE.out]
  have g110 : (((t[0]'hpos).toNat : Int) == 110) = false := by rw [hd]; simp only [beq_eq_false_iff_ne, ne_eq]; exact h110
  have H110 := hid_mk h110
  clear h110
  by_cases h116 : d = 116
  · have g116 : (((t[0]'hpos).toNat : Int) == 116) = true := by rw [hd, h116]; rfl
    have HE := hid_mk h116
    clear hd hl1 h255 h116
    go_enter Tryz.func149, Tryz.ntmps149
    go_wp2_with (go_at_call 104; refine calls_same (awant_yes _) ?_)
    refine wp_region_held_drew (S := fun _ => True) (by kernel_rfl) ?hS27 (fun hHeld => ?rest27)
    case hS27 => exact trivial
    refine tk 0 ?_
    refine tk 1 ?_
    refine tk 2 ?_
    refine tk 3 ?_
    refine wpAnyH_done (by kernel_rfl) ?_ _
    go_wp2
    refine bodyPost_ret (results_tmp2 Tryz.results149 _ _ _) rfl ⟨(Out.refl _ _ _).drew, .inl ⟨9, t.extract 1 t.size, ?_, by decide, by decide, ?_⟩⟩
    rotate_left
    · first | exact congrArg (fun z => Ending.returned (.tuple #[.int .u8 z, .string (t.extract 1 t.size)])) HD.out | rfl
    rw [hb1.out, HL.out]
    simp only [escF, List.drop_succ_cons, List.drop_zero]
    rw [if_neg H92.out, if_neg H110.out, if_pos HE.out]
  have g116 : (((t[0]'hpos).toNat : Int) == 116) = false := by rw [hd]; simp only [beq_eq_false_iff_ne, ne_eq]; exact h116
  have H116 := hid_mk h116
  clear h116
  by_cases h120 : d = 120
  · have g120 : (((t[0]'hpos).toNat : Int) == 120) = true := by rw [hd, h120]; rfl
    have HE := hid_mk h120
    by_cases h3 : 2 < t.size
    · have gl : decide ((2 : Int) < (t.size : Int)) = true := decide_eq_true (by omega)
      have hle3 : (3 : Int) ≤ (t.size : Int) := by omega
      obtain ⟨a, b, l, hab⟩ : ∃ a b l, bt t = 120 :: a :: b :: l := by
        have hlen := bt_len t
        rw [hl1, h120] at hlen ⊢
        match hx : (bt t).drop 1, hlen with
        | [], h => simp at h; omega
        | [_], h => simp at h; omega
        | a :: b :: l, _ => exact ⟨a, b, l, rfl⟩
      have hbx : bt (t.extract 1 3) = [a, b] := by rw [bt_ext, hab]; rfl
      have hsx : (t.extract 1 3).size ≤ 16 := by rw [ByteArray.size_extract]; omega
      have hb3 : Hid (bt (t.extract 3 t.size) = l) := hid_mk (by rw [bt_from, hab]; rfl)
      have HA := hid_mk hab
      obtain ⟨u, hu⟩ : ∃ u, t.extract 1 3 = u := ⟨_, rfl⟩
      rw [hu] at hbx hsx
      cases hf : fl16 0 (bt u) with
      | none =>
        have HF := hid_mk (fun w => hex_no hsx hf w)
        have HN : Hid (escF (bt t) = none) := hid_mk (by rw [hab, esc_x, ← hbx, hf]; rfl)
        clear hd hl1 h255 h120 h3 hab hbx hsx hf
        go_enter Tryz.func149, Tryz.ntmps149
        go_wp2_with (go_at_call 104; refine calls_same (awant_yes _) ?_)
        refine wp_region_held_drew (S := fun _ => True) (by kernel_rfl) ?hS32 (fun hHeld => ?rest32)
        case hS32 => exact trivial
        refine tk 0 ?_
        refine tk 1 ?_
        refine tk 4 ?_
        refine tk 5 ?_
        refine wpAnyH_ready (rs := [2]) (by kernel_rfl) (by simp) ?_
        refine AllReadyH.cons rfl (fun KK hK => ?_) AllReadyH.nil
        simp only [xa, xb, xc]
        go_simp
        (try rw [hu])
        go_at_call 163
        refine (HF.out _).mono ?_
        rintro e w2 ⟨rfl, o2⟩
        exact ⟨rfl, ((Out.refl _ _ _).drew).trans o2, .inr ⟨HN.out, rfl⟩⟩
      | some n =>
        have hrg := fl2_rng (by rw [← hbx]; exact hf)
        have hsg : sgn64 n = n := by unfold sgn64; rw [if_pos (by omega)]
        have HF : Hid (∀ w, Calls Tryz.prog 163 #[.string u] w fun x w' => x = .returned (.int .i64 n) ∧ Out 0 0 w w') := hid_mk (fun w => by have := hex_yes hsx hf w; rwa [hsg] at this)
        have hcv : IntKind.u8.wrap n = n := by rw [IntKind.wrap_u8]; omega
        have HN : Hid (escF (bt t) = some (n, l)) := hid_mk (by rw [hab, esc_x, ← hbx, hf]; rfl)
        have HG := hid_mk hrg
        clear hd hl1 h255 h120 h3 hab hbx hsx hf hrg hsg
        go_enter Tryz.func149, Tryz.ntmps149
        go_wp2_with (go_at_call 104; refine calls_same (awant_yes _) ?_)
        refine wp_region_held_drew (S := fun _ => True) (by kernel_rfl) ?hS37 (fun hHeld => ?rest37)
        case hS37 => exact trivial
        refine tk 0 ?_
        refine tk 1 ?_
        refine tk 4 ?_
        refine tk 5 ?_
        refine wpAnyH_ready (rs := [2]) (by kernel_rfl) (by simp) ?_
        refine AllReadyH.cons rfl (fun KK hK => ?_) AllReadyH.nil
        simp only [xa, xb, xc]
        go_simp
        (try rw [hu])
        go_at_call 163
        refine (HF.out _).mono ?_
        rintro e w2 ⟨rfl, o2⟩
        refine hK.out _ _ ?hS42 (fun hHeld2 => ?rest42)
        case hS42 => exact trivial
        clear hK KK
        (try clear hHeld)
        have hHeld := hHeld2
        clear hHeld2
        (try simp only [Act.put, xa, xb, xc, xd, xe, xf])
        refine tk 3 ?_
        refine tk 6 ?_
        refine tk 7 ?_
        refine wpAnyH_done (by kernel_rfl) ?_ _
        go_wp2
        exact bodyPost_ret (results_tmp2 Tryz.results149 _ _ _) rfl ⟨((Out.refl _ _ _).drew).trans o2, .inl ⟨n, t.extract 3 t.size, by rw [HN.out, hb3.out], HG.out.1, HG.out.2, rfl⟩⟩
    · have gl : decide ((2 : Int) < (t.size : Int)) = false := decide_eq_false (by omega)
      have HN : Hid (escF (bt t) = none) := hid_mk (by
        have hlen := bt_len t
        rw [hl1, h120] at hlen ⊢
        match hx : (bt t).drop 1, hlen with
        | [], _ => rfl
        | [_], _ => rfl
        | a :: b :: l, h => simp at h; omega)
      clear hd hl1 h255 h120 h3
      go_enter Tryz.func149, Tryz.ntmps149
      go_wp2_with (go_at_call 104; first | refine calls_stop (awant_no _) ?_ | refine calls_same (awant_yes _) ?_)
      exact ⟨rfl, Out.refl _ _ _, .inr ⟨HN.out, rfl⟩⟩
  · have g120 : (((t[0]'hpos).toNat : Int) == 120) = false := by rw [hd]; simp only [beq_eq_false_iff_ne, ne_eq]; exact h120
    have HN : Hid (escF (bt t) = none) := hid_mk (by
      rw [hl1]
      simp only [escF]
      rw [if_neg H92.out, if_neg H110.out, if_neg H116.out, if_neg h120])
    clear hd hl1 h255 h120
    go_enter Tryz.func149, Tryz.ntmps149
    go_wp2_with (go_at_call 104; first | refine calls_stop (awant_no _) ?_ | refine calls_same (awant_yes _) ?_)
    exact ⟨rfl, Out.refl _ _ _, .inr ⟨HN.out, rfl⟩⟩
end Go.Proofs.YtcnjlbjpeklgkaaGreatDoor
namespace Go.Proofs.YtcnjlbjpeklgkaaGreatDoor
open Go.RowKit
set_option linter.unusedVariables false
set_option linter.unusedSimpArgs false

/-- the library's limit of a length is laid -/
def Gm (w : World) : Prop := (∃ m, w.cell? ⟨3, 0, none⟩ = some (.int .i64 m)) ∧ Lib.Utf8Tabs 5 6 w
theorem Gm.out {w w' : World} (h : Gm w) (o : Out 0 0 w w') : Gm w' := by
  obtain ⟨⟨m, h⟩, h1, h2⟩ := h
  exact ⟨⟨m, o.cell h (.inr (Nat.zero_le _))⟩, fun c hc => o.cell (h1 c hc) (.inr (Nat.zero_le _)), fun i hi => ⟨o.cell (h2 i hi).1 (.inr (Nat.zero_le _)), o.cell (h2 i hi).2 (.inr (Nat.zero_le _))⟩⟩
/-- bytes in a row of one's own -/
def B8 (w : World) (base : Nat) (v : Value) (bs : List Int) : Prop := Byt bs ∧ w.ownsRow base 5 1 v bs.length (bvs bs)
theorem b8_nil (w : World) (base : Nat) : B8 w base (.slice none 0 0) [] := ⟨Byt.nil, World.ownsRow_nil _ _ _ 1⟩
theorem B8.out {w w' : World} {base : Nat} {v : Value} {bs : List Int} (h : B8 w base v bs) (o : Out 0 0 w w') : B8 w' base v bs := ⟨h.1, own_fx h.2 (Fx.of_out (S := fun _ => False) o) fun _ _ q => q⟩
theorem B8.open_ {w : World} {base : Nat} {v : Value} {bs : List Int} (h : B8 w base v bs) : ∃ a c, v = .slice a bs.length c := by
  rcases h.2.2 with ⟨e, h0⟩ | ⟨g, c, cur, e, _⟩
  · rw [h0]; exact ⟨none, 0, e⟩
  · exact ⟨_, _, e⟩
theorem byt_app {a b : List Int} (ha : Byt a) (hb : Byt b) : Byt (a ++ b) := by
  intro x hx
  rcases List.mem_append.1 hx with h | h
  · exact ha x h
  · exact hb x h
theorem byt_bt (s : ByteArray) : Byt (bt s) := bt_rng s
theorem str_cells (s : ByteArray) : Lib.strCells s = bvs (bt s) := by
  unfold Lib.strCells bvs bt
  rw [List.map_map]
  rfl
theorem grown_out {w w' w0 : World} {base : Nat} {v : Value} {k : Nat} {T : TypeId} {xs : List Value} (hown : w.ownsRow base T 1 v k xs) (hg : w.grownBy w' v.ownBlock) (o : Out 0 0 w0 w) (h0 : w0.heap.size ≤ base) : Out 0 0 w0 w' := by
  refine o.past (lo := base) (hi := w'.heap.size + base + 1) ⟨hg.os, hg.tape, hg.output, hg.size, fun j h1 h2 => hg.block j h1 (fun e => ?_)⟩ h0
  have := own_ge hown e.symm
  have := hg.size
  omega
/-- a string's bytes behind them -/
theorem b8_str {w : World} {base : Nat} {v : Value} {bs : List Int} (h : B8 w base v bs) (hb : base ≤ w.heap.size) (s : ByteArray) (hn : bs.length + s.size ≤ 4000000) (ty : TypeId) :
    ∃ v' w', (Builtin.append_ #[50, 9] ty #[v, .string s]).run Tryz.prog w = .ok v' w' ∧ B8 w' base v' (bs ++ bt s) ∧ ∀ w0, Out 0 0 w0 w → w0.heap.size ≤ base → Out 0 0 w0 w' := by
  obtain ⟨i0, hi, hz0, hz1, hz2⟩ := info_p info_u8
  obtain ⟨v', w', hr, h2, h3, _⟩ := Lib.run_append_own_string (P := Tryz.prog) w base 50 9 ty 5 i0 Tryz.underlying50 Tryz.underlying9 hi hz0 hz1 hz2 v bs.length (bvs bs) h.2 s (by unfold maxLen; omega) (by omega) hb
  refine ⟨v', w', hr, ⟨byt_app h.1 (byt_bt s), ?_⟩, fun w0 o h0 => grown_out h.2 h3 o h0⟩
  rw [str_cells, ← bvs_app] at h2
  rw [List.length_append, bt_len]
  exact h2
/-- one byte behind them -/
theorem b8_one {w : World} {base : Nat} {v : Value} {bs : List Int} (h : B8 w base v bs) (hb : base ≤ w.heap.size) {b : Int} (h0 : 0 ≤ b) (h1 : b ≤ 255) (hn : bs.length ≤ 1900000) (ty : TypeId) :
    ∃ v' w', (Builtin.append_ #[50, 50] ty #[v, .slice (some ⟨w.heap.size, 0, none⟩) 1 1]).run Tryz.prog (w.alloc (.cells #[.int .u8 b] 5)) = .ok v' w' ∧ B8 w' base v' (bs ++ [b]) ∧ ∀ w0, Out 0 0 w0 w → w0.heap.size ≤ base → Out 0 0 w0 w' := by
  obtain ⟨a, c, rfl⟩ := h.open_
  have hA := h.out ((Out.refl 0 0 w).alloc (.cells #[.int .u8 b] 5))
  have hc := (Bl.new w #[.int .u8 b] 5).cell (i := 0) rfl
  obtain ⟨a', cap', w', hr, h2, h3, h4⟩ := app_at (T := 50) Tryz.underlying50 info_u8 rfl (by decide) (by decide) hA.2 (by rw [size_alloc]; omega) (m := 1) (c := 1) (ys := [.int .u8 b]) (sa := some ⟨w.heap.size, 0, none⟩) (.inr ⟨_, _, rfl, by
    intro j u hj
    match j, hj with
    | 0, hj => cases hj; exact hc⟩) rfl (by intro u hu; simp at hu; subst hu; rfl) (by omega) (by omega) ty
  refine ⟨_, w', hr, ⟨byt_app h.1 (Byt.cons h0 h1 Byt.nil), ?_⟩, fun w0 o hw0 => ?_⟩
  · rw [bvs_app, List.length_append]
    exact h2
  · refine (o.alloc _).past (lo := base) (hi := w'.heap.size + base + 1) ⟨h3.1, h3.2.1, h3.2.2.1, h3.size, fun k k1 k2 => ?_⟩ hw0
    rcases Nat.lt_or_ge k base with q | q
    · exact h3.2.2.2.2 k k1 fun e => by have := (own_ge hA.2 e).1; omega
    · have := h3.size
      omega
theorem unq_here {l a b : List Int} (h : l = a ++ 92 :: b) (ha : (92 : Int) ∉ a) : unqF l = (escF b).bind (fun p => (unqF p.2).map (fun z => a ++ p.1 :: z)) := by
  rw [h, unq_plain a _ ha, unq_esc2]
  cases escF b with
  | none => rfl
  | some p => simp only [Option.bind_some, Option.map_map]; rfl
set_option maxRecDepth 100000 in
set_option maxHeartbeats 2000000 in
/-- the bytes of a quote, or none -/
theorem unq_any (s : ByteArray) (q : UInt8) (hq : (bt s).head? = some (q.toNat : Int) → 2 ≤ (bt s).length ∧ (bt s).getLast? = some (q.toNat : Int)) (hs : s.size ≤ 1800000) (w : World) (hG : Gm w) :
    Calls Tryz.prog 126 #[.string s, .string ⟨#[q]⟩] w fun x w' => Out 0 0 w w' ∧ ((∃ bs v, quoF (bt s) (q.toNat : Int) = some bs ∧ x = .returned v ∧ B8 w' w.heap.size v bs) ∨ (quoF (bt s) (q.toNat : Int) = none ∧ x = .panicked [giveUp])) := by
  obtain ⟨b, hpre, hb⟩ := hasp_dec s ⟨#[q]⟩
  have HP := hid_mk hpre
  have HGm := hid_mk hG
  have e0 : bt (⟨#[q]⟩ : ByteArray) = [(q.toNat : Int)] := rfl
  rw [e0] at hb
  rcases hb with ⟨rfl, t, ht⟩ | ⟨rfl, hno⟩
  · have hh : (bt s).head? = some (q.toNat : Int) := by rw [ht]; rfl
    obtain ⟨hl2, hla⟩ := hq hh
    have hquo : quoF (bt s) (q.toNat : Int) = unqF ((bt s).drop 1).dropLast := by unfold quoF; rw [if_pos ⟨hl2, hh, hla⟩]
    rw [hquo]
    have hlen := bt_len s
    obtain ⟨p1, hp1⟩ : ∃ p1, p1 + 1 = s.size := ⟨s.size - 1, by omega⟩
    have hw1 : wrap64 ((s.size : Int) - 1) = (p1 : Int) := by unfold wrap64; omega
    have hle1 : (1 : Int) ≤ (p1 : Int) := by omega
    have hle2 : (p1 : Int) ≤ (s.size : Int) := by omega
    have hin : bt (s.extract 1 p1) = ((bt s).drop 1).dropLast := by
      rw [bt_ext, List.dropLast_eq_take, List.length_drop, hlen]
      congr 1
      omega
    have hsz : Hid ((s.extract 1 p1).size ≤ 1800000) := hid_mk (by rw [ByteArray.size_extract]; omega)
    obtain ⟨u, hu⟩ : ∃ u, s.extract 1 p1 = u := ⟨_, rfl⟩
    rw [hu] at hin hsz
    rw [← hin]
    clear hpre hG ht hh hl2 hla hquo hlen hp1 hin hq hs
    go_enter Tryz.func126, Tryz.ntmps126
    go_wp2_with (first | (go_at_call 147; refine calls_same (HP.out _) ?_) | (go_at_call 104; refine calls_same (awant_yes _) ?_))
    (try rw [hu])
    clear hw1 hle1 hle2 hu
    go_loopw [5, 6] (fun x y wr => ∃ rest bs, x = .string rest ∧ B8 wr w.heap.size y bs ∧ Out 0 0 w wr ∧ unqF (bt u) = (unqF (bt rest)).map (bs ++ ·) ∧ bs.length + rest.size ≤ u.size) (fun x _ _ => (match x with | .string r => r.size | _ => 0))
    case atStart => exact ⟨u, [], rfl, b8_nil _ _, Out.refl _ _ _, by cases unqF (bt u) <;> rfl, by simp⟩
    case round =>
      obtain ⟨rest, bs, rfl, hB, hO, hU, hL⟩ := hrel
      obtain ⟨ba, bc, rfl⟩ := hB.open_
      obtain ⟨a, b, f, hcut, hf⟩ := cut_dec rest 92 (by have := hsz.out; omega)
      have HC := hid_mk hcut
      have HB := hid_mk hB
      have HO := hid_mk hO
      have HU := hid_mk hU
      have HL := hid_mk hL
      have HF := hid_mk hf
      have has : Hid (a.size ≤ rest.size) := hid_mk (by
        rcases hf with ⟨_, h1, _⟩ | ⟨_, rfl, _⟩
        · have := congrArg List.length h1
          rw [List.length_append, bt_len, bt_len] at this
          omega
        · exact Nat.le_refl _)
      obtain ⟨nb, hnb⟩ : ∃ nb, bs.length = nb := ⟨_, rfl⟩
      have HNB := hid_mk hnb
      rw [hnb]
      clear hcut hB hO hU hL hf hnb
      cases f with
      | false =>
        obtain ⟨_, hae, hno⟩ : false = false ∧ a = rest ∧ _ := by rcases HF.out with ⟨h, _⟩ | h; cases h; exact h
        have HQ : Hid (unqF (bt u) = some (bs ++ bt a)) := hid_mk (by rw [HU.out, hae, unq_all _ hno]; rfl)
        clear hae hno
        go_wp2_with (first | (go_at_call 148; refine (HC.out _ (HGm.out.out HO.out).1).mono ?_; rintro e w2 ⟨rfl, o2⟩; obtain ⟨v3, w3, hrun3, HB3, HO3⟩ := b8_str (HB.out.out o2) (by have := (HO.out.trans o2).size; exact this) a (by have := HL.out; have := has.out; have := hsz.out; omega) 50; rw [HNB.out] at hrun3; have HO3 := hid_mk (HO3 w (HO.out.trans o2) (Nat.le_refl _)); obtain ⟨b3, c3, rfl⟩ := HB3.open_; have HB3 := hid_mk HB3; obtain ⟨n3, hn3⟩ : ∃ n3, (bs ++ bt a).length = n3 := ⟨_, rfl⟩; have HN3 := hid_mk hn3; rw [hn3] at hrun3; clear hn3) | (at_builtin; refine wpList_appS rfl _ _ _ _ rfl rfl rfl hrun3 ?_))
        go_ret
        exact ⟨HO3.out, .inl ⟨bs ++ bt a, _, HQ.out, rfl, HN3.out ▸ HB3.out⟩⟩
      | true =>
        obtain ⟨_, he, hno⟩ : true = true ∧ bt rest = bt a ++ ((92 : UInt8).toNat : Int) :: bt b ∧ _ := by rcases HF.out with h | ⟨h, _⟩; exact h; cases h
        have hq2 := unq_here he hno
        have hbl : Hid (a.size + b.size + 1 = rest.size) := hid_mk (by
          have := congrArg List.length he
          rw [List.length_append, List.length_cons, bt_len, bt_len, bt_len] at this
          omega)
        have HQ := hid_mk hq2
        have HE := hid_mk (fun w => unesc_any b w)
        clear he hno hq2
        go_wp2_with (first | (go_at_call 148; refine (HC.out _ (HGm.out.out HO.out).1).mono ?_; rintro e w2 ⟨rfl, o2⟩; obtain ⟨v3, w3, hrun3, HB3, HO3⟩ := b8_str (HB.out.out o2) (by have := (HO.out.trans o2).size; exact this) a (by have := HL.out; have := has.out; have := hsz.out; omega) 50; rw [HNB.out] at hrun3; have HO3 := hid_mk (HO3 w (HO.out.trans o2) (Nat.le_refl _)); obtain ⟨b3, c3, rfl⟩ := HB3.open_; have HB3 := hid_mk HB3; obtain ⟨n3, hn3⟩ : ∃ n3, (bs ++ bt a).length = n3 := ⟨_, rfl⟩; have HN3 := hid_mk hn3; rw [hn3] at hrun3; clear hn3) | (at_builtin; refine wpList_appS rfl _ _ _ _ rfl rfl rfl hrun3 ?_; clear hrun3))
        refine (HE.out _).mono ?_
        rintro e w4 ⟨o4, ⟨y, r, hes, hy0, hy1, rfl⟩ | ⟨hes, rfl⟩⟩
        · obtain ⟨v5, w5, hrun5, HB5, HO5⟩ := b8_one (HB3.out.out o4) (by have := (HO3.out.trans o4).size; exact this) hy0 hy1 (by have := HN3.out; have := HL.out; have := hbl.out; have := hsz.out; rw [List.length_append, bt_len]; omega) 50
          rw [HN3.out] at hrun5
          have HO5 := hid_mk (HO5 w (HO3.out.trans o4) (Nat.le_refl _))
          have HB5 := hid_mk HB5
          have HS := hid_mk hes
          clear hes hy0 hy1
          go_wp2_with (at_builtin; refine wpList_appS rfl _ _ _ _ rfl rfl rfl hrun5 ?_)
          go_roundw
          case rel =>
            refine ⟨r, bs ++ bt a ++ [y], rfl, HB5.out, HO5.out, ?_, ?_⟩
            · rw [HU.out, HQ.out, HS.out]
              simp only [Option.bind_some, Option.map_map]
              congr 1
              funext z
              simp
            · have := esc_len HS.out
              rw [bt_len, bt_len] at this
              have := HL.out; have := hbl.out
              simp only [List.length_append, List.length_cons, List.length_nil, bt_len]
              omega
          case measure =>
            have := esc_len HS.out
            rw [bt_len, bt_len] at this
            have := hbl.out
            show r.size < rest.size
            omega
        · refine ⟨rfl, HO3.out.trans o4, .inr ⟨?_, rfl⟩⟩
          rw [HU.out, HQ.out, hes]
          rfl
  · have hquo : quoF (bt s) (q.toNat : Int) = none := by
      unfold quoF
      rw [if_neg]
      rintro ⟨_, h, _⟩
      cases hx : bt s with
      | nil => rw [hx] at h; cases h
      | cons a l => rw [hx] at h; cases h; exact hno l hx
    have HN := hid_mk hquo
    clear hpre hG hno hquo hq hs
    go_enter Tryz.func126, Tryz.ntmps126
    go_wp2_with (first | (go_at_call 147; refine calls_same (HP.out _) ?_) | (go_at_call 104; refine calls_stop (awant_no _) ?_))
    exact ⟨rfl, Out.refl _ _ _, .inr ⟨HN.out, rfl⟩⟩
end Go.Proofs.YtcnjlbjpeklgkaaGreatDoor
