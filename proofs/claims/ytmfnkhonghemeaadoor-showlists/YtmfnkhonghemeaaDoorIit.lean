/- package show: the teller over a chain: pairs -/
import Derived.Test.YtmfnkhonghemeaaDoorIis
import Derived.Deep.RegionWith
namespace Go.Proofs.YtmfnkhonghemeaaDoor
open Go.RowKit
set_option linter.unusedVariables false
set_option linter.unusedSimpArgs false

/-- the listed variables that a text reads -/
def WT (w : World) : Prop := Tp w ∧ w.cell? ⟨0, 0, none⟩ = some (.string ⟨#[40, 41]⟩)
theorem Tp.fx {S : Nat → Prop} {w w' : World} (h : Tp w) (x : Fx S w w') (h2 : ∀ b, S b → 2 ≤ b) : Tp w' := by
  unfold Tp Lib.TabIs World.var? at *
  rw [gPow] at *
  simp only [Option.bind_some] at *
  have hl : 1 < w.heap.size := by
    by_cases hb : 1 < w.heap.size
    · exact hb
    · have : w.heap[1]? = none := by simp; omega
      rw [this] at h; cases h
  rw [x.2.2.2.2 _ hl (fun h => by have := h2 _ h; omega)]
  exact h
theorem WT.fx {S : Nat → Prop} {w w' : World} (h : WT w) (x : Fx S w w') (h2 : ∀ b, S b → 2 ≤ b) : WT w' := ⟨h.1.fx x h2, x.cell h.2 (fun h => by have := h2 _ h; omega)⟩
theorem WT.two {w : World} (h : WT w) : 2 ≤ w.heap.size := by
  have h := h.1
  unfold Tp Lib.TabIs World.var? at h
  rw [gPow] at h
  simp only [Option.bind_some] at h
  by_cases hb : 1 < w.heap.size
  · omega
  · have : w.heap[1]? = none := by simp; omega
    rw [this] at h; cases h
/-- the walk as the teller finds it -/
def WF (w : World) (t p mb g : Nat) (k : Int) (n : Nat) (rg : Bool) (gvs : List Nat) (td : Nat → Bool) : Prop :=
  (∃ hv cap cnt, WK w p hv (.map (some mb)) (.slice (some ⟨g, 0, none⟩) n cap) cnt) ∧ MpAt w mb (fK n) ∧ (∃ cur, Bl w g cur 68 ∧ ThB cur k (arV k) gvs (tmR rg) (lbR rg) td) ∧ gvs.length = n ∧
    (∀ (j gv : Nat), gvs[j]? = some gv → gv < t ∧ gv ≠ g ∧ Bl w gv (flat (hdV k n rg (j + 1))).toArray 28) ∧ p < t ∧ mb < t ∧ g < t ∧ g ≠ p ∧ g ≠ mb ∧ WT w ∧ 2 ≤ g ∧ n ≤ 600
section
variable {w w' : World} {t p mb g n B : Nat} {k : Int} {rg : Bool} {gvs : List Nat} {td : Nat → Bool} {wp : Value} {tasks : List Task} {pieces : List ByteArray} {S S1 : Nat → Prop} {W W1 : World} {e : Ending}
theorem WF.fx (h : WF w t p mb g k n rg gvs td) (x : Fx S w w') (h2 : ∀ b, S b → t ≤ b) : WF w' t p mb g k n rg gvs td := by
  obtain ⟨⟨hv, cap, cnt, h1⟩, hM, ⟨cur, hB, hT⟩, hl, hg, hp, hm, hgt, hgp, hgm, hW, h8, hn⟩ := h
  have no : ∀ b, b < t → ¬ S b := fun b h h3 => by have := h2 b h3; omega
  refine ⟨⟨hv, cap, cnt, h1.fx x (no _ hp)⟩, hM.fx x (no _ hm), ⟨cur, hB.fx x (no _ hgt), hT⟩, hl, fun j gv e => ?_, hp, hm, hgt, hgp, hgm, hW.fx x (fun b h => by have := h2 b h; omega), h8, hn⟩
  obtain ⟨a, b, c⟩ := hg j gv e
  exact ⟨a, b, c.fx x (no _ a)⟩
theorem TSQ.of (h : TSQ B t wp S1 W1 tasks pieces e w') (x : Fx S W W1) (hS : ∀ b, S1 b → S b ∨ W.heap.size ≤ b) : TSQ B t wp S W tasks pieces e w' := by
  obtain ⟨h1, ta, tc, pa, pc, h2, h3, h4⟩ := h
  refine ⟨h1, ta, tc, pa, pc, h2, x.past h3 (fun b hb h => (hS b h).elim id (fun h => by omega)), fun b hb => ?_⟩
  rcases h4 b hb with h | h
  · exact hS b h
  · exact .inr (Nat.le_trans x.size h)
theorem RW.lt {ta pa : Option Addr} {tc pc b : Nat} (h : TS B w t wp ta tc pa pc tasks pieces) (hb : RW t ta pa b) : t ≤ b ∧ b < w.heap.size := by
  obtain ⟨a1, a2, a3, a4, a5⟩ := h
  rcases hb with rfl | h | h
  · exact ⟨Nat.le_refl _, a1.lt⟩
  · cases ta with
    | none => simp at h
    | some a => have := own_ge a2 (show _ = some b by simpa [Value.ownBlock] using h); omega
  · cases pa with
    | none => simp at h
    | some a => have := own_ge a3 (show _ = some b by simpa [Value.ownBlock] using h); omega
end
set_option maxRecDepth 100000 in
set_option maxHeartbeats 4000000 in
theorem pair_any {B t tc pc p mb g n j gv : Nat} {W : World} {wp : Value} {ta pa : Option Addr} {tasks : List Task} {pieces : List ByteArray} {rg : Bool} {gvs : List Nat} {td : Nat → Bool} (h : TS B W t wp ta tc pa pc tasks pieces) (hF : WF W t p mb g 1 n rg gvs td) (hj : gvs[j]? = some gv) (hp : tasks.length ≤ 2000) :
    Calls Tryd.prog 32 #[.pointer (some ⟨t, 0, none⟩), .pointer (some ⟨g, j * 7, none⟩)] W (TSQ B t wp (RW t ta pa) W (tasks ++ [(1, (nx n rg (j + 1)).1, (nx n rg (j + 1)).2), (0, 1, (((j + 1) % 10 : Nat) : Int))]) pieces) := by
  have hrw := fun b => RW.lt (b := b) h
  obtain ⟨_, _, ⟨cur, hB, hT⟩, _, hgv, _⟩ := hF
  obtain ⟨_, _, hV⟩ := hgv j gv hj
  obtain ⟨c0, c1, _⟩ := hT.at hj
  have e1 := hB.cell c1
  rw [show arV 1 = 2 from rfl] at e1
  obtain ⟨a, b, hab⟩ : ∃ a b, nx n rg (j + 1) = (a, b) := ⟨_, _, rfl⟩
  obtain ⟨d, hd⟩ : ∃ d : Int, (((j + 1) % 10 : Nat) : Int) = d := ⟨_, rfl⟩
  have hfl : (flat (hdV 1 n rg (j + 1))).toArray = #[.int .i64 1, .int .i64 d, .int .i64 a, .int .i64 b] := by unfold hdV; rw [if_pos rfl, hab, hd]; rfl
  rw [hfl] at hV
  rw [hab, hd]
  have v0 := hV.cell (i := 0) rfl
  have v1 := hV.cell (i := 1) rfl
  have v2 := hV.cell (i := 2) rfl
  have v3 := hV.cell (i := 3) rfl
  have oN : Out 0 0 W ((W.alloc (.cells #[.int .i64 0, .int .i64 1, .int .i64 d, .int .i64 1, .int .i64 a, .int .i64 b] 72)).drew) := ((Out.refl _ _ _).alloc _).drew
  have hL := later_2 (c := 2) (h.out oN) (b := W.heap.size) ((Bl.new W #[.int .i64 0, .int .i64 1, .int .i64 d, .int .i64 1, .int .i64 a, .int .i64 b] 72).kept ((Out.refl 0 0 _).drew) (.inr (Nat.zero_le _))) (fun hr => by have := (hrw _ hr).2; omega) hp
  have hQ : ∀ e w', TSQ B t wp (fun x => RW t ta pa x ∨ x = W.heap.size) ((W.alloc (.cells #[.int .i64 0, .int .i64 1, .int .i64 d, .int .i64 1, .int .i64 a, .int .i64 b] 72)).drew) (tasks ++ [(1, a, b), (0, 1, d)]) pieces e w' → TSQ B t wp (RW t ta pa) W (tasks ++ [(1, a, b), (0, 1, d)]) pieces e w' := fun e w' h => h.of (Fx.of_out oN (fun b h1 h2 _ => by omega)) (fun b h => h.imp id (fun h => Nat.le_of_eq h.symm))
  have HL := hid_mk hL
  have HQ := hid_mk hQ
  clear oN hL hQ
  have HH := hid_mk h
  have HRW := hid_mk hrw
  have HP := hid_mk hp
  clear h hB hT hgv hV hfl hab hd hrw c0 c1 hp
  go_enter Tryd.func32, Tryd.ntmps32
  go_wp2_with fail
  go_region_with (go_at_call 19; refine HL.out.mono ?_; rintro e w2 hT2; have HT2 := hid_mk (HQ.out _ _ hT2); obtain ⟨⟨v2, rfl⟩, -⟩ := hT2)
  all_goals go_wp2_with fail
  all_goals exact bodyPost_end (results_none Tryd.results32 _ _ _) rfl ⟨⟨_, rfl⟩, HT2.out.2⟩
end Go.Proofs.YtmfnkhonghemeaaDoor
