/- quiet -/
import Derived.Test.YtoajgbgmiionpaaDoorYw
import Derived.Deep.RegionLaw
import Derived.Deep.RegionLawGrows
namespace Go.Proofs.YtoajgbgmiionpaaDoor
open Go.RowKit
set_option linter.unusedVariables false
set_option linter.unusedSimpArgs false

theorem Keep.setC {B : Nat} {w : World} {b : Nat} {vL vW vS vM : Value} {L Wr Ls : List Value} {Mk : List Nat} {C : Nat → List Nat} {col : Nat → Nat} {cur : Option (Nat × Nat × Nat)} {p : Nat} {u : Bool}
    (h : Keep B w b vL vW vS vM L Wr Ls Mk C col cur p u) {C' : Nat → List Nat} (e : ∀ i, i < L.length → C' i = C i) (hw : Wr.length ≤ L.length) : Keep B w b vL vW vS vM L Wr Ls Mk C' col cur p u := by
  refine { h with q := ?_, wr := ?_ }
  · intro i v hp hv
    have hi := (List.getElem?_eq_some_iff.1 hv).1
    rw [e i hi]
    exact h.q i v hp hv
  · intro hu i v hv
    have hi := (List.getElem?_eq_some_iff.1 hv).1
    rw [e i (by omega)]
    exact h.wr hu i v hv
theorem own_cells {w : World} {B n g cap : Nat} {T : TypeId} {xs : List Value} (h : w.ownsRow B T 1 (.slice (some ⟨g, 0, none⟩) n cap) n xs) : ∀ j u, xs[j]? = some u → w.cell? ((⟨g, 0, none⟩ : Addr).add j) = some u := h.cells (g := g) rfl
/-- an append as one step of a region that draws its order -/
theorem app_run (w : World) (t ty : TypeId) (base : Nat) (e : TypeId) (i : TypeInfo) (z : Value) (bytes : Nat) (ht : Tryd.prog.underlying t = some (.slice e)) (hi : Tryd.prog.info? e = some i) (hz : i.zero = some z)
    (hsize : i.size = 1) (hby : i.bytes = bytes) (hzs : z.cells.size = 1) (v : Value) (n : Nat) (xs : List Value) (hown : w.ownsRow base e 1 v n xs)
    (ad : Addr) (m c : Nat) (news : List Value) (hl : news.length = m * 1) (hnews : ∀ j u, news[j]? = some u → w.cell? (ad.add j) = some u) (h1 : ∀ u ∈ news, u.oneCell' = true)
    (hm : 0 < m) (h63 : n + m ≤ maxLen) (hbytes : (n + m) * bytes ≤ 140737488355328) (hbase : base ≤ w.heap.size) :
    ∃ g cap w', (Builtin.append_ #[t, t] ty #[v, .slice (some ad) m c]).run Tryd.prog w = .ok (.slice (some ⟨g, 0, none⟩) (n + m) cap) w' ∧ w'.ownsRow base e 1 (.slice (some ⟨g, 0, none⟩) (n + m) cap) (n + m) (xs ++ news) ∧ Grew w w' v g := by
  have hown' := hown
  obtain ⟨hlen, hcase⟩ := hown
  rcases hcase with ⟨rfl, rfl⟩ | ⟨g, cap, cur, rfl, hg1, hg2, hg3, hg4, hg5, hg6⟩
  · obtain rfl : xs = [] := List.eq_nil_of_length_eq_zero (by simpa using hlen)
    obtain ⟨v', w', hrun, r1, r2, _⟩ := run_append_own (P := Tryd.prog) w w.heap.size t ty e i z 1 bytes ht hi hz hsize hby hzs (by decide) (.slice none 0 0) 0 [] (World.ownsRow_nil w _ e 1) ad m c news hl hnews h1 h63 hbytes (Nat.le_refl _)
    obtain ⟨g, cap, rfl, hg, _⟩ := r1.form (by omega)
    exact ⟨g, cap, w', hrun, own_mono r1 hbase, .inl ⟨r2, hg⟩⟩
  · by_cases hr : n + m ≤ cap
    · obtain ⟨w', hrun, r1, r2⟩ := run_append_own_spare (P := Tryd.prog) w base t ty e i 1 ht hi hsize g n cap xs hown' ad m c news hl hnews h1 hr
      exact ⟨g, cap, w', hrun, r1, .inr ⟨rfl, r2⟩⟩
    · obtain ⟨v', w', hrun, r1, r2⟩ := run_append_arg_grows (P := Tryd.prog) w t ty e i z 1 bytes ht hi hz hsize hby hzs (by decide) ⟨g, 0, none⟩ n cap xs hlen (own_cells hown') ad m c news hl hnews (by omega) h63 hbytes
      obtain ⟨g', cap', rfl, hg, _⟩ := r1.form (by omega)
      exact ⟨g', cap', w', hrun, own_mono r1 hbase, .inl ⟨r2, hg⟩⟩
theorem app_step {ops : Array Oper} {o : Oper} {a : Act} {w : World} {K : Act → World → Prop} {Q : Exit → Act → World → Prop} {E : Prop} (hgd : o.guard = none) (s x : Operand) (t : TypeId)
    (ho : o.op = .call { callee := .builtin .append, args := #[s, x], argTypes := #[t, t] })
    (base : Nat) (e : TypeId) (i : TypeInfo) (z : Value) (bytes : Nat) (ht : Tryd.prog.underlying t = some (.slice e)) (hi : Tryd.prog.info? e = some i) (hz : i.zero = some z)
    (hsize : i.size = 1) (hby : i.bytes = bytes) (hzs : z.cells.size = 1)
    (v : Value) (n : Nat) (xs : List Value) (hs : a.eval s = v) (hown : w.ownsRow base e 1 v n xs)
    (ad : Addr) (m c : Nat) (news : List Value) (hx : a.eval x = .slice (some ad) m c) (hl : news.length = m * 1) (hnews : ∀ j u, news[j]? = some u → w.cell? (ad.add j) = some u) (h1 : ∀ u ∈ news, u.oneCell' = true)
    (hm : 0 < m) (h63 : n + m ≤ maxLen) (hbytes : (n + m) * bytes ≤ 140737488355328) (hbase : base ≤ w.heap.size)
    (h : ∀ g cap w', w'.ownsRow base e 1 (.slice (some ⟨g, 0, none⟩) (n + m) cap) (n + m) (xs ++ news) → Grew w w' v g → K (a.put o.dst (.slice (some ⟨g, 0, none⟩) (n + m) cap)) w') :
    if Region.wanted o (yielded ops a.tmps) = true then Oper.wp Tryd.prog o a w K Q else E := by
  have hw : Region.wanted o (yielded ops a.tmps) = true := by simp [Region.wanted, hgd]
  rw [if_pos hw]
  obtain ⟨g, cap, w', hrun, r1, r2⟩ := app_run w t o.type base e i z bytes ht hi hz hsize hby hzs v n xs hown ad m c news hl hnews h1 hm h63 hbytes hbase
  unfold Oper.wp
  simp [execOp, ho, resolve, invoke, builtin, hs, hx, hrun, Result.andThen]
  exact h g cap w' r1 r2
/-- a copy of a list -/
def CopyIs (w w' : World) (a' : Option Addr) (c : List Nat) : Prop := 0 < c.length → ∃ g, a' = some ⟨g, 0, none⟩ ∧ w.heap.size ≤ g ∧ g < w'.heap.size ∧ ∀ i (hi : i < c.length), w'.cell? ⟨g, i, none⟩ = some (.int .i64 (c[i] : Nat))
theorem copy_run (w : World) (ty : TypeId) {B : Nat} {v : Value} {c : List Nat} (hl : ListIs w B v c) (hc : c.length ≤ 1024) :
    ∃ a' cap' w', (Builtin.append_ #[26, 26] ty #[.slice none 0 0, v]).run Tryd.prog w = .ok (.slice a' c.length cap') w' ∧ Out 0 0 w w' ∧ CopyIs w w' a' c := by
  obtain ⟨i0, hi0, hz0, hz1, hz2⟩ := info_parts info_int
  have hl' := hl
  obtain ⟨hlen, hcase⟩ := hl
  rcases hcase with ⟨rfl, h0⟩ | ⟨g, cap, cur, rfl, hg1, hg2, hg3, hg4, hg5, hg6⟩
  · refine ⟨none, 0, w, ?_, Out.refl _ _ _, fun h => by omega⟩
    rw [h0]
    simp [Builtin.append_, run_underlying Tryd.underlying26, sizeOf, typeInfo, hi0, Builtin.lenOf, Builtin.firstCells, loadCells, loadCellsFrom]
  · have h1c : ∀ u ∈ ints c, u.oneCell' = true := by
      intro u hu
      simp [ints] at hu
      obtain ⟨x, _, rfl⟩ := hu
      rfl
    obtain ⟨v', w', hrun, r1, r2, r3⟩ := run_append_own (P := Tryd.prog) w w.heap.size 26 ty 3 i0 (.int .i64 0) 1 8 Tryd.underlying26 hi0 hz0 hz1 hz2 rfl (by decide) (.slice none 0 0) 0 [] (World.ownsRow_nil w _ _ 1) ⟨g, 0, none⟩ c.length cap (ints c) (by simp [ints]) (own_cells hl') h1c (by unfold maxLen; omega) (by omega) (Nat.le_refl _)
    rw [Nat.zero_add, List.nil_append] at r1
    have r1' : ListIs w' w.heap.size v' c := r1
    obtain ⟨a', cap', e, hr⟩ := own_open r1'
    subst e
    refine ⟨a', cap', w', hrun, ⟨r2.os, r2.tape, r2.output, r2.size, fun k hk _ => r2.block k hk (by simp [Value.ownBlock])⟩, fun h0 => ?_⟩
    obtain ⟨g', q0, q1, q2, q3⟩ := hr h0
    exact ⟨g', q0, q1, q2, q3⟩
theorem copy_step {ops : Array Oper} {o : Oper} {a : Act} {w : World} {K : Act → World → Prop} {Q : Exit → Act → World → Prop} {E : Prop} (hgd : o.guard = none) (x : Operand)
    (ho : o.op = .call { callee := .builtin .append, args := #[.const (.slice none 0 0), x], argTypes := #[26, 26] })
    {B : Nat} {v : Value} {c : List Nat} (hx : a.eval x = v) (hl : ListIs w B v c) (hc : c.length ≤ 1024)
    (h : ∀ a' cap' w', Out 0 0 w w' → CopyIs w w' a' c → K (a.put o.dst (.slice a' c.length cap')) w') :
    if Region.wanted o (yielded ops a.tmps) = true then Oper.wp Tryd.prog o a w K Q else E := by
  have hw : Region.wanted o (yielded ops a.tmps) = true := by simp [Region.wanted, hgd]
  rw [if_pos hw]
  obtain ⟨a', cap', w', hrun, r1, r2⟩ := copy_run w o.type hl hc
  have hs : a.eval (.const (.slice none 0 0)) = .slice none 0 0 := rfl
  unfold Oper.wp
  simp [execOp, ho, resolve, invoke, builtin, hs, hx, hrun, Result.andThen]
  exact h a' cap' w' r1 r2
theorem copy_keep {B : Nat} {w wX : World} {b : Nat} {vL vW vS vM : Value} {L Wr Ls : List Value} {Mk : List Nat} {C : Nat → List Nat} {col : Nat → Nat} {p : Nat} {u : Bool} {a' : Option Addr} {cp : Nat} {c : List Nat}
    (h : Keep B w b vL vW vS vM L Wr Ls Mk C col none p u) (o : Out 0 0 w wX) (hc : CopyIs w wX a' c) : ∃ colX, (∀ x, x < w.heap.size → colX x = col x) ∧ Keep B wX b vL vW vS vM L Wr Ls Mk C colX none p u ∧ Were wX colX (.slice a' c.length cp) c := by
  by_cases h0 : 0 < c.length
  · obtain ⟨g, rfl, g1, g2, g3⟩ := hc h0
    refine ⟨upd col g 6, fun x hx => upd_other (by omega), (h.recol (upd col g 6) fun x hx _ => upd_other (by omega)).quiet o, _, _, rfl, fun _ => ⟨g, rfl, g2, upd_self _ _ _, g3⟩⟩
  · exact ⟨col, fun _ _ => rfl, h.quiet o, _, _, rfl, fun h => absurd h h0⟩
theorem quiet_fix {col col1 colX colW : Nat → Nat} {w W2 wX W3 : World} (h1 : Fix col col1 w W2) (o : Out 0 0 W2 wX) (eX : ∀ x, x < W2.heap.size → colX x = col1 x) (h2 : Chg colX (fun c => c = 0 ∨ c = 2) wX W3) (e2 : ∀ y, y < wX.heap.size → colW y = colX y) : Fix col colW w W3 := by
  have s1 : Fix col1 colX W2 wX := Fix.of (P := fun c => c = 8) (Chg.of_out o _ _) (by decide) (fun k hk h7 => by rw [eX k hk]; exact h7)
  have s2 : Fix colX colW wX W3 := Fix.of h2 (by decide) (fun k hk h7 => by rw [e2 k hk]; exact h7)
  exact h1.trans (s1.trans s2)
def QuietEnd (B b : Nat) (vS vM : Value) (L Wr Ls : List Value) (Mk : List Nat) (C : Nat → List Nat) (p : Nat) (l : Value) (col0 : Nat → Nat) (w w' : World) : Prop :=
  ∃ vL vW x col, Keep B w' b vL vW vS vM (L ++ [l]) (Wr ++ [x]) Ls Mk C col none p true ∧ Fix col0 col w w'
set_option maxRecDepth 100000 in
set_option maxHeartbeats 4000000 in
theorem quiet_any {B b : Nat} {vL vW : Value} {L Wr : List Value} {C : Nat → List Nat} {p : Nat} {w : World} {l : Value} {vS vM : Value} {Ls : List Value} {Mk : List Nat} {col : Nat → Nat}
    (h : Keep B w b vL vW vS vM L Wr Ls Mk C col none p true) (hl : ListIs w B l (C L.length)) (hc : ∀ x, l.ownBlock = some x → col x = 10 + L.length) (hlen : Wr.length = L.length) (hp : p ≤ L.length) (hK : L.length ≤ 2000) (hn : (C L.length).length ≤ 1024) :
    Calls Tryd.prog 15 #[.pointer (some ⟨b, 0, none⟩), l] w fun e w' => e = .returned (.tuple #[]) ∧ QuietEnd B b vS vM L Wr Ls Mk C p l col w w' := by
  obtain ⟨aL, capL, rfl⟩ := own_shape h.oL
  obtain ⟨c0, _, _, _, _⟩ := keep_cells h.hb
  obtain ⟨aF, capF, rfl⟩ := own_shape hl
  obtain ⟨i0, hi0, hz0, hz1, hz2⟩ := info_parts info_int
  obtain ⟨i1, hi1, hy0, hy1, hy2⟩ := info_parts info_sl
  have HK := hid_mk h
  have HL := hid_mk hl
  have HC := hid_mk hc
  have HLn := hid_mk hlen
  have HM := hid_mk hK
  have HN := hid_mk hn
  have HP := hid_mk hp
  obtain ⟨n, hne⟩ : ∃ n, (C L.length).length = n := ⟨_, rfl⟩
  have Hne := hid_mk hne
  rw [hne]
  clear h hl hc hlen hK hn hne hp
  go_enter Tryd.func15, Tryd.ntmps15
  go_wp2_with (at_builtin; refine app_law _ rfl _ _ 30 rfl B 26 i1 (.slice none 0 0) 24 Tryd.underlying30 hi1 hy0 hy1 hy2 rfl _ _ _ rfl (own_kept HK.out.oL ((Out.refl 0 0 _).alloc _) (Nat.zero_le _)) ⟨w.heap.size, 0, none⟩ 1 1 [.slice aF n capF] rfl rfl (cell_one_new _ _ _) (one_cell _ rfl) (by decide) ?c3 ?c4 ?c5 ?_)
  case c3 => unfold maxLen; have := HM.out; omega
  case c4 => have := HM.out; omega
  case c5 => have := HK.out.hB; simp; omega
  intro g1 cp1 wA own1 gr1
  have hq : ListIs w B (.slice aF n capF) (C L.length) ∧ (C L.length).length ≤ 1024 ∧ ∀ y, (Value.slice aF n capF).ownBlock = some y → col y = 10 + L.length := by
    have q1 := HL.out
    have q3 := HC.out
    rw [Hne.out] at q1 q3
    exact ⟨q1, HN.out, q3⟩
  obtain ⟨hb1, hc1, ch1, H1⟩ := HK.out.pushL ((Out.refl 0 0 _).alloc _) own1 gr1 rfl hq
  obtain ⟨d0, _, _, _, df⟩ := keep_cells hb1
  have df0 := df 0
  obtain ⟨nL, hnL⟩ : ∃ nL, L.length + 1 = nL := ⟨_, rfl⟩
  rw [hnL] at H1 ch1 ⊢
  obtain ⟨W2, hW2⟩ : ∃ W2, wA.setCell ⟨b, 0, none⟩ (.slice (some ⟨g1, 0, none⟩) nL cp1) = W2 := ⟨_, rfl⟩
  rw [hW2] at H1 ch1
  obtain ⟨aW, capW, rfl⟩ := own_shape H1.oW
  obtain ⟨_, e1, _, _, _⟩ := keep_cells H1.hb
  have HH1 := hid_mk H1
  have HB1 : Hid (Fix col (upd col g1 1) w W2) := Fix.of ch1 (by decide) (fun k hk h7 => by rw [hc1 k hk]; exact h7)
  have HL2 := hid_mk (H1.q L.length (.slice aF n capF) HP.out (by simp)).1
  have HLg : Hid (∀ w', Out 0 0 W2 w' → ListIs w' B (.slice aF n capF) (C L.length)) := fun w' o => HL2.out.kept o (Nat.zero_le _)
  clear own1 gr1 hb1 df H1 ch1 hq HL2 hc1
  go_wp2_with fail
  go_region_law (first
    | (refine copy_step rfl _ rfl rfl (HLg.out _ (by first | exact (Out.refl 0 0 _).drew | exact Out.refl 0 0 _)) HN.out ?_
       intro a' cp wX hoX hcX
       rw [Hne.out]
       have hoX2 : Out 0 0 W2 wX := (Out.refl 0 0 W2).drew.trans hoX
       have e1X := hoX2.cell e1 (.inr (Nat.zero_le _))
       have e1Y := (hoX2.alloc (.cells #[.slice a' n cp] 26)).cell e1 (.inr (Nat.zero_le _))
       have HoX := hid_mk hoX2
       have HcX : Hid (CopyIs W2 wX a' (C L.length)) := hcX
       clear hoX hcX hoX2)
    | (refine app_step rfl _ _ 30 rfl B 26 i1 (.slice none 0 0) 24 Tryd.underlying30 hi1 hy0 hy1 hy2 rfl _ _ _ rfl (own_kept HH1.out.oW (HoX.out.alloc _) (Nat.zero_le _)) ⟨wX.heap.size, 0, none⟩ 1 1 [.slice a' n cp] rfl rfl (cell_one_new _ _ _) (one_cell _ rfl) (by decide) (by unfold maxLen; have := HM.out; have := HLn.out; omega) (by have := HM.out; have := HLn.out; omega) (by have := HH1.out.hB; have := HoX.out.size; simp; omega) ?_
       intro g2 cp2 wB own2 gr2
       obtain ⟨colX, eX, kX, wX1⟩ := copy_keep (cp := cp) HH1.out HoX.out HcX.out
       rw [Hne.out, ← HLn.out] at wX1
       obtain ⟨hb2, hc2, ch2, H2⟩ := kX.pushW ((Out.refl 0 0 _).alloc _) own2 gr2 rfl wX1
       obtain ⟨_, f1, _, _, ff⟩ := keep_cells hb2
       have ff1 := ff 1
       have HH2 := hid_mk H2
       have HB2 := hid_mk (quiet_fix HB1.out HoX.out eX ch2 hc2)
       clear own2 gr2 hb2 ff H2 ch2 kX wX1 eX hc2))
  all_goals exact bodyPost_end (results_none Tryd.results15 _ _ _) rfl ⟨rfl, .slice (some ⟨g1, 0, none⟩) nL cp1, .slice (some ⟨g2, 0, none⟩) (Wr.length + 1) cp2, .slice a' n cp, _, HH2.out, HB2.out⟩
end Go.Proofs.YtoajgbgmiionpaaDoor
