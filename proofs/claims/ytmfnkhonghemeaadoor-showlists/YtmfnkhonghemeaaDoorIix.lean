/- package show: the teller over a chain: containers -/
import Derived.Test.YtmfnkhonghemeaaDoorIit
namespace Go.Proofs.YtmfnkhonghemeaaDoor
open Go.RowKit
set_option linter.unusedVariables false
set_option linter.unusedSimpArgs false

/-- one piece more, out of a row that was just laid -/
theorem add_new {B t tc pc c : Nat} {W : World} {wp : Value} {ta pa : Option Addr} {tasks : List Task} {pieces ss : List ByteArray} {cs : Array Value} {m : Nat} (h : TS B W t wp ta tc pa pc tasks pieces) (hcs : cs = (stL ss).toArray) (hs : ss.length = m) (hm0 : 0 < m) (hm : m ≤ 10) (hp : pieces.length ≤ 2000) :
    Calls Tryd.prog 22 #[.pointer (some ⟨t, 0, none⟩), .slice (some ⟨W.heap.size, 0, none⟩) m c] (W.alloc (.cells cs 9)) (TSQ B t wp (RW t ta pa) W tasks (pieces ++ ss)) := by
  subst hcs
  have o : Out 0 0 W (W.alloc (.cells (stL ss).toArray 9)) := (Out.refl _ _ _).alloc _
  refine (add_any (h.out o) (Bl.new W (stL ss).toArray 9) hs hm0 hm hp).mono (fun e w' h => h.of (Fx.of_out o (fun b h1 h2 _ => by omega)) (fun b h => .inl h))
theorem later1_new {B t tc pc c : Nat} {W : World} {wp : Value} {ta pa : Option Addr} {tasks : List Task} {pieces : List ByteArray} {x y z : Int} (h : TS B W t wp ta tc pa pc tasks pieces) (hp : tasks.length ≤ 2000) :
    Calls Tryd.prog 19 #[.pointer (some ⟨t, 0, none⟩), .slice (some ⟨W.heap.size, 0, none⟩) 1 c] (W.alloc (.cells #[.int .i64 x, .int .i64 y, .int .i64 z] 72)) (TSQ B t wp (RW t ta pa) W (tasks ++ [(x, y, z)]) pieces) := by
  have o : Out 0 0 W (W.alloc (.cells #[.int .i64 x, .int .i64 y, .int .i64 z] 72)) := (Out.refl _ _ _).alloc _
  exact (later_1 (h.out o) (Bl.new W _ _) (fun hr => by have := (RW.lt h hr).2; omega) hp).mono (fun e w' h => h.of (Fx.of_out o (fun b h1 h2 _ => by omega)) (fun b h => h.imp id (fun h => Nat.le_of_eq h.symm)))
theorem later2_new {B t tc pc c : Nat} {W : World} {wp : Value} {ta pa : Option Addr} {tasks : List Task} {pieces : List ByteArray} {a1 a2 a3 b1 b2 b3 : Int} (h : TS B W t wp ta tc pa pc tasks pieces) (hp : tasks.length ≤ 2000) :
    Calls Tryd.prog 19 #[.pointer (some ⟨t, 0, none⟩), .slice (some ⟨W.heap.size, 0, none⟩) 2 c] (W.alloc (.cells #[.int .i64 a1, .int .i64 a2, .int .i64 a3, .int .i64 b1, .int .i64 b2, .int .i64 b3] 72)) (TSQ B t wp (RW t ta pa) W (tasks ++ [(b1, b2, b3), (a1, a2, a3)]) pieces) := by
  have o : Out 0 0 W (W.alloc (.cells #[.int .i64 a1, .int .i64 a2, .int .i64 a3, .int .i64 b1, .int .i64 b2, .int .i64 b3] 72)) := (Out.refl _ _ _).alloc _
  exact (later_2 (h.out o) (Bl.new W _ _) (fun hr => by have := (RW.lt h hr).2; omega) hp).mono (fun e w' h => h.of (Fx.of_out o (fun b h1 h2 _ => by omega)) (fun b h => h.imp id (fun h => Nat.le_of_eq h.symm)))
/-- what a container is told as -/
def opS (k : Int) : ByteArray := if k = 1 then ⟨#[40]⟩ else ⟨#[35, 38]⟩
def opT (k : Int) (n : Nat) (rg : Bool) (j : Nat) : List Task := if k = 1 then [(1, (nx n rg (j + 1)).1, (nx n rg (j + 1)).2), (0, 1, (((j + 1) % 10 : Nat) : Int))] else [(0, (nx n rg (j + 1)).1, (nx n rg (j + 1)).2)]
set_option maxRecDepth 100000 in
set_option maxHeartbeats 4000000 in
theorem cont_any {B t tc pc p mb g n j gv : Nat} {W : World} {wp : Value} {ta pa : Option Addr} {tasks : List Task} {pieces : List ByteArray} {k : Int} {rg : Bool} {gvs : List Nat} {td : Nat → Bool} (hk : k = 1 ∨ k = 2) (h : TS B W t wp ta tc pa pc tasks pieces) (hF : WF W t p mb g k n rg gvs td) (hj : gvs[j]? = some gv) (hp : tasks.length ≤ 2000) (hpp : pieces.length ≤ 2000) :
    Calls Tryd.prog 31 #[.pointer (some ⟨t, 0, none⟩), .pointer (some ⟨g, j * 7, none⟩)] W (TSQ B t wp (RW t ta pa) W (tasks ++ opT k n rg j) (pieces ++ [opS k])) := by
  obtain ⟨cur, hB, hT⟩ := hF.2.2.1
  have e0 := hB.cell (hT.at hj).1
  have HH := hid_mk h
  have HF := hid_mk hF
  have HP := hid_mk hp
  have HPP := hid_mk hpp
  have hl : Hid (∀ b, RW t ta pa b → t ≤ b) := fun b hb => (RW.lt h hb).1
  clear h hF hp hpp hB hT
  rcases hk with rfl | rfl
  · have hA := add_new (c := 1) HH.out (ss := [⟨#[40]⟩]) rfl rfl (by decide) (by decide) HPP.out
    have HA := hid_mk hA
    clear hA
    go_enter Tryd.func31, Tryd.ntmps31
    go_wp2_with (first
      | (go_at_call 22; refine HA.out.mono ?_; rintro e w2 ⟨⟨v2, rfl⟩, ta1, tc1, pa1, pc1, h1, x1, hr1⟩; have HQ := hid_mk (And.intro h1 (And.intro x1 hr1)); clear h1 x1 hr1)
      | (go_at_call 32; refine (pair_any HQ.out.1 (HF.out.fx HQ.out.2.1 (fun b hb => hl.out b hb)) hj HP.out).mono ?_; rintro e w3 hT3; have HT3 := hid_mk (hT3.of HQ.out.2.1 HQ.out.2.2); obtain ⟨⟨v3, rfl⟩, -⟩ := hT3))
    exact bodyPost_end (results_none Tryd.results31 _ _ _) rfl ⟨⟨_, rfl⟩, HT3.out.2⟩
  · have hA := add_new (c := 1) HH.out (ss := [⟨#[35, 38]⟩]) rfl rfl (by decide) (by decide) HPP.out
    have HA := hid_mk hA
    clear hA
    obtain ⟨a, b, hab⟩ : ∃ a b, nx n rg (j + 1) = (a, b) := ⟨_, _, rfl⟩
    have hfl : (flat (hdV 2 n rg (j + 1))).toArray = #[.int .i64 a, .int .i64 b] := by unfold hdV; rw [if_neg (by decide), hab]; rfl
    go_enter Tryd.func31, Tryd.ntmps31
    go_wp2_with (first
      | (go_at_call 22; refine HA.out.mono ?_; rintro e w2 ⟨⟨v2, rfl⟩, ta1, tc1, pa1, pc1, h1, x1, hr1⟩; have hF2 := HF.out.fx x1 (fun b hb => hl.out b hb); obtain ⟨cur2, hB2, hT2⟩ := hF2.2.2.1; have y1 := hB2.cell (hT2.at hj).2.1; rw [show arV 2 = 1 from rfl] at y1; have hV2 := (hF2.2.2.2.2.1 j gv hj).2.2; rw [hfl] at hV2; have y2 := hV2.cell (i := 0) rfl; have y3 := hV2.cell (i := 1) rfl; have HQ := hid_mk (And.intro h1 (And.intro x1 hr1)); clear h1 x1 hr1 hF2 hB2 hT2 hV2)
      | (go_at_call 19; refine (later1_new HQ.out.1 HP.out).mono ?_; rintro e w3 hT3; have HT3 := hid_mk (hT3.of HQ.out.2.1 HQ.out.2.2); obtain ⟨⟨v3, rfl⟩, -⟩ := hT3))
    refine bodyPost_end (results_none Tryd.results31 _ _ _) rfl ⟨⟨_, rfl⟩, ?_⟩
    have := HT3.out.2
    unfold opT
    rw [if_neg (by decide), hab]
    exact this
end Go.Proofs.YtmfnkhonghemeaaDoor
namespace Go.Proofs.YtmfnkhonghemeaaDoor
open Go.RowKit
set_option linter.unusedVariables false

theorem WF.out {w w' : World} {t p mb g n : Nat} {k : Int} {rg : Bool} {gvs : List Nat} {td : Nat → Bool} (h : WF w t p mb g k n rg gvs td) (o : Out 0 0 w w') : WF w' t p mb g k n rg gvs td :=
  h.fx (S := fun _ => False) (Fx.of_out o (fun b h1 h2 _ => by omega)) (fun _ h => h.elim)
theorem WT.out {w w' : World} (h : WT w) (o : Out 0 0 w w') : WT w' := h.fx (S := fun _ => False) (Fx.of_out o (fun b h1 h2 _ => by omega)) (fun _ h => h.elim)
theorem TSQ.out {B t : Nat} {wp : Value} {S : Nat → Prop} {W W1 w' : World} {tasks : List Task} {pieces : List ByteArray} {e : Ending} (h : TSQ B t wp S W1 tasks pieces e w') (o : Out 0 0 W W1) : TSQ B t wp S W tasks pieces e w' :=
  h.of (Fx.of_out o (fun b h1 h2 _ => by omega)) (fun b h => .inl h)
theorem simple_nil {w : World} (ht : WT w) : Calls Tryd.prog 29 #[.agg #[.int .i64 3, .int .i64 0]] w fun e w' => e = .returned (.string ⟨#[40, 41]⟩) ∧ Out 0 0 w w' := by
  have o1 : Out 0 0 w (w.alloc (.cells #[.int .i64 3, .int .i64 0] 28)) := (Out.refl _ _ _).alloc _
  have b1 := Bl.new w #[.int .i64 3, .int .i64 0] 28
  have x0 := b1.cell (i := 0) rfl
  have x1 := b1.cell (i := 1) rfl
  have c0 := (ht.out o1).2
  go_enter Tryd.func29, Tryd.ntmps29
  go_wp2_with fail
  go_ret
  exact ⟨rfl, o1⟩
set_option maxRecDepth 100000 in
set_option maxHeartbeats 2000000 in
theorem whole_plain {B t tc pc : Nat} {W : World} {wp : Value} {ta pa : Option Addr} {tasks : List Task} {pieces : List ByteArray} {k x : Int} {s : ByteArray} (hk : k ≠ 2) (h : TS B W t wp ta tc pa pc tasks pieces) (hpp : pieces.length ≤ 2000)
    (hs : ∀ W1, Out 0 0 W W1 → Calls Tryd.prog 29 #[.agg #[.int .i64 k, .int .i64 x]] W1 fun e w' => e = .returned (.string s) ∧ Out 0 0 W1 w') :
    Calls Tryd.prog 20 #[.pointer (some ⟨t, 0, none⟩), .agg #[.int .i64 k, .int .i64 x]] W (TSQ B t wp (RW t ta pa) W tasks (pieces ++ [s])) := by
  have o1 : Out 0 0 W (W.alloc (.cells #[.int .i64 k, .int .i64 x] 28)) := (Out.refl _ _ _).alloc _
  have b1 := Bl.new W #[.int .i64 k, .int .i64 x] 28
  have x0 := b1.cell (i := 0) rfl
  have x1 := b1.cell (i := 1) rfl
  have hk2 : (k == 2) = false := by simpa using hk
  have HH := hid_mk h
  have HS := hid_mk hs
  have HO := hid_mk o1
  have HPP := hid_mk hpp
  clear h hs o1 hpp hk
  go_enter Tryd.func20, Tryd.ntmps20
  go_wp2_with (first
    | (go_at_call 29; refine (HS.out _ HO.out).mono ?_; rintro e w2 ⟨rfl, o2⟩)
    | (go_at_call 22; refine (add_new (c := 1) (HH.out.out (HO.out.trans o2)) (ss := [s]) (m := 1) rfl rfl (by decide) (by decide) HPP.out).mono ?_; rintro e w3 hT3; have HT3 := hid_mk (hT3.out (HO.out.trans o2)); obtain ⟨⟨v3, rfl⟩, -⟩ := hT3))
  exact bodyPost_ret (results_none Tryd.results20 _ _ _) rfl ⟨⟨_, rfl⟩, HT3.out.2⟩
theorem fK_at {n j : Nat} (h : j < n) : fK n ((j : Int) + 1) = some (.int .i64 (j : Int)) := by
  unfold fK; rw [if_pos (by omega)]; congr 2; omega
set_option maxRecDepth 100000 in
set_option maxHeartbeats 4000000 in
/-- a container without a label -/
theorem whole_cont {B t tc pc p mb g n j gv : Nat} {W : World} {ta pa : Option Addr} {tasks : List Task} {pieces : List ByteArray} {k : Int} {rg : Bool} {gvs : List Nat} {td : Nat → Bool} (hk : k = 1 ∨ k = 2) (h : TS B W t (.pointer (some ⟨p, 0, none⟩)) ta tc pa pc tasks pieces) (hF : WF W t p mb g k n rg gvs td) (hj : gvs[j]? = some gv) (hlb : lbR rg j = -1) (hp : tasks.length ≤ 2000) (hpp : pieces.length ≤ 2000) :
    Calls Tryd.prog 20 #[.pointer (some ⟨t, 0, none⟩), .agg #[.int .i64 2, .int .i64 ((j : Int) + 1)]] W (TSQ B t (.pointer (some ⟨p, 0, none⟩)) (RW t ta pa) W (tasks ++ opT k n rg j) (pieces ++ [opS k])) := by
  have hjn : j < n := by have := (List.getElem?_eq_some_iff.1 hj).1; have := hF.2.2.2.1; omega
  have hn6 : n ≤ 600 := hF.2.2.2.2.2.2.2.2.2.2.2.2
  have o1 : Out 0 0 W (W.alloc (.cells #[.int .i64 2, .int .i64 ((j : Int) + 1)] 28)) := (Out.refl _ _ _).alloc _
  have b1 := Bl.new W #[.int .i64 2, .int .i64 ((j : Int) + 1)] 28
  have x0 := b1.cell (i := 0) rfl
  have x1 := b1.cell (i := 1) rfl
  have y0 := (h.out o1).1.cell (i := 0) rfl
  have hF1 := hF.out o1.drew
  obtain ⟨hv, cap, cnt, hW1⟩ := hF1.1
  have HC := hid_mk (thing_any hW1 hF1.2.1 (fK_at hjn) (by omega) (by omega))
  have HH := hid_mk h
  have HF := hid_mk hF
  have HO := hid_mk o1.drew
  have HP := hid_mk hp
  have HPP := hid_mk hpp
  have HK := hid_mk hk
  clear h hF o1 hp hpp hk hF1 hW1 hn6
  go_enter Tryd.func20, Tryd.ntmps20
  go_wp2_with fail
  go_region_with (go_at_call 26; refine HC.out.mono ?_; rintro e w2 ⟨rfl, o2⟩)
  all_goals
    have hF2 := HF.out.out (HO.out.trans o2)
    obtain ⟨cur2, hB2, hT2⟩ := hF2.2.2.1
    have y1 := hB2.cell (hT2.at hj).1
    have y2 := hB2.cell (hT2.at hj).2.2.2.2.2.1
    rw [hlb] at y2
    have HY := hid_mk (container_yes HK.out y1)
    have HF2 := hid_mk hF2
    clear hF2 hB2 hT2
    go_wp2_with (first
      | (go_at_call 18; refine calls_same HY.out ?_)
      | (go_at_call 31; refine (cont_any HK.out (HH.out.out (HO.out.trans o2)) HF2.out hj HP.out HPP.out).mono ?_; rintro e w3 hT3; have HT3 := hid_mk (hT3.out (HO.out.trans o2)); obtain ⟨⟨v3, rfl⟩, -⟩ := hT3))
    exact bodyPost_end (results_none Tryd.results20 _ _ _) rfl ⟨⟨_, rfl⟩, HT3.out.2⟩
end Go.Proofs.YtmfnkhonghemeaaDoor
namespace Go.Proofs.YtmfnkhonghemeaaDoor
open Go.RowKit
set_option linter.unusedVariables false

theorem itoa_zero {w : World} (ht : WT w) : Calls Tryd.prog 30 #[.int .i64 0] w fun e w' => e = .returned (.string ⟨#[48]⟩) ∧ Out 0 0 w w' := by
  have h := itoa_at 0 (by decide) (by decide) ht.1
  rw [show Lib.itoa 0 = [48] from by decide +kernel] at h
  exact h
theorem WF.tell {w : World} {t p mb g n j gv : Nat} {k : Int} {rg : Bool} {gvs : List Nat} {td : Nat → Bool} (h : WF w t p mb g k n rg gvs td) (hj : gvs[j]? = some gv) :
    WF (w.setCell ⟨g, j * 7 + 6, none⟩ (.bool true)) t p mb g k n rg gvs (fun i => if i = j then true else td i) := by
  obtain ⟨⟨hv, cap, cnt, h1⟩, hM, ⟨cur, hB, hT⟩, hl, hg, hp, hm, hgt, hgp, hgm, hW, h8, hn⟩ := h
  have o : Out g (g + 1) w (w.setCell ⟨g, j * 7 + 6, none⟩ (.bool true)) := (Out.refl _ _ _).setCell (p := ⟨g, j * 7 + 6, none⟩) (.inl ⟨Nat.le_refl _, Nat.lt_succ_self _⟩) _
  have x : Fx (fun b => b = g) w (w.setCell ⟨g, j * 7 + 6, none⟩ (.bool true)) := Fx.of_out o (fun b h1 h2 _ => by omega)
  refine ⟨⟨hv, cap, cnt, h1.fx x (by omega)⟩, hM.fx x (by omega), ⟨_, hB.set (j * 7 + 6) _, hT.tell hj true⟩, hl, fun i gv e => ?_, hp, hm, hgt, hgp, hgm, hW.fx x (fun b h => by omega), h8, hn⟩
  obtain ⟨a, b, c⟩ := hg i gv e
  exact ⟨a, b, c.fx x b⟩
set_option maxRecDepth 100000 in
set_option maxHeartbeats 4000000 in
/-- a container with a label, told for the first time -/
theorem whole_first {B t tc pc p mb g n j gv : Nat} {W : World} {ta pa : Option Addr} {tasks : List Task} {pieces : List ByteArray} {k : Int} {rg : Bool} {gvs : List Nat} {td : Nat → Bool} (hk : k = 1 ∨ k = 2) (h : TS B W t (.pointer (some ⟨p, 0, none⟩)) ta tc pa pc tasks pieces) (hF : WF W t p mb g k n rg gvs td) (hj : gvs[j]? = some gv) (hlb : lbR rg j = 0) (htd : td j = false) (hp : tasks.length ≤ 2000) (hpp : pieces.length ≤ 1900) :
    Calls Tryd.prog 20 #[.pointer (some ⟨t, 0, none⟩), .agg #[.int .i64 2, .int .i64 ((j : Int) + 1)]] W fun e w' => TSQ B t (.pointer (some ⟨p, 0, none⟩)) (fun b => RW t ta pa b ∨ b = g) W (tasks ++ opT k n rg j) ((pieces ++ [⟨#[35]⟩, ⟨#[48]⟩, ⟨#[61]⟩]) ++ [opS k]) e w' ∧ WF w' t p mb g k n rg gvs (fun i => if i = j then true else td i) := by
  have hjn : j < n := by have := (List.getElem?_eq_some_iff.1 hj).1; have := hF.2.2.2.1; omega
  have hn6 : n ≤ 600 := hF.2.2.2.2.2.2.2.2.2.2.2.2
  have hgt : g < t := hF.2.2.2.2.2.2.2.1
  have o1 : Out 0 0 W (W.alloc (.cells #[.int .i64 2, .int .i64 ((j : Int) + 1)] 28)) := (Out.refl _ _ _).alloc _
  have b1 := Bl.new W #[.int .i64 2, .int .i64 ((j : Int) + 1)] 28
  have x0 := b1.cell (i := 0) rfl
  have x1 := b1.cell (i := 1) rfl
  have y0 := (h.out o1).1.cell (i := 0) rfl
  have hF1 := hF.out o1.drew
  obtain ⟨hv, cap, cnt, hW1⟩ := hF1.1
  have HC := hid_mk (thing_any hW1 hF1.2.1 (fK_at hjn) (by omega) (by omega))
  have hl : Hid (∀ b, RW t ta pa b → t ≤ b) := fun b hb => (RW.lt h hb).1
  have HH := hid_mk h
  have HF := hid_mk hF
  have HO := hid_mk o1.drew
  have HP := hid_mk hp
  have HPP := hid_mk hpp
  have HK := hid_mk hk
  have HG := hid_mk hgt
  clear h hF o1 hp hpp hk hF1 hW1 hn6 hgt
  go_enter Tryd.func20, Tryd.ntmps20
  go_wp2_with fail
  go_region_with (go_at_call 26; refine HC.out.mono ?_; rintro e w2 ⟨rfl, o2⟩)
  all_goals
    have hF2 := HF.out.out (HO.out.trans o2)
    obtain ⟨cur2, hB2, hT2⟩ := hF2.2.2.1
    have y1 := hB2.cell (hT2.at hj).1
    have y2 := hB2.cell (hT2.at hj).2.2.2.2.2.1
    rw [hlb] at y2
    have HY := hid_mk (container_yes HK.out y1)
    have HF2 := hid_mk hF2
    clear hF2 hB2 hT2
    go_wp2_with (first
      | (go_at_call 18; refine calls_same HY.out ?_)
      | (go_at_call 30; refine (itoa_zero HF2.out.2.2.2.2.2.2.2.2.2.2.1).mono ?_; rintro e w3 ⟨rfl, o3⟩; have hF3 := HF2.out.out o3; obtain ⟨cur3, hB3, hT3⟩ := hF3.2.2.1; have y6 := hB3.cell (hT3.at hj).2.2.2.2.2.2; rw [htd] at y6; have z6 := hB3.frozen (j * 7 + 6); have HF3 := hid_mk (hF3.tell hj); have HO3 := hid_mk ((HO.out.trans o2).trans o3); clear hF3 hB3 hT3)
      | (go_at_call 22; have x4 : Fx (fun b => b = g) W (w3.setCell ⟨g, j * 7 + 6, none⟩ (.bool true)) := (Fx.of_out HO3.out (fun b h1 h2 _ => by omega)).trans (Fx.of_out (lo := g) (hi := g + 1) ((Out.refl _ _ _).setCell (p := ⟨g, j * 7 + 6, none⟩) (.inl ⟨Nat.le_refl _, Nat.lt_succ_self _⟩) _) (fun b h1 h2 _ => by omega)); have h4 := HH.out.fx x4 (fun b h => .inl (by have := HG.out; omega)); have hA := add_new (c := 3) h4 (cs := #[.string ⟨#[35]⟩, .string ⟨#[48]⟩, .string ⟨#[61]⟩]) (ss := [⟨#[35]⟩, ⟨#[48]⟩, ⟨#[61]⟩]) (m := 3) rfl rfl (by decide) (by decide) (by have := HPP.out; omega); rw [size_set] at hA; refine hA.mono ?_; clear hA; rintro e w5 ⟨⟨v5, rfl⟩, ta1, tc1, pa1, pc1, h5, x5, hr5⟩; have HQ := hid_mk (And.intro h5 (And.intro (HF3.out.fx x5 (fun b hb => hl.out b hb)) (And.intro ((x4.wide (fun b _ h => Or.inr h)).trans (x5.wide (fun b _ h => Or.inl h)) : Fx (fun b => RW t ta pa b ∨ b = g) W w5) (fun b h => (hr5 b h).imp Or.inl (fun h => Nat.le_trans x4.size h) : ∀ b, RW t ta1 pa1 b → (RW t ta pa b ∨ b = g) ∨ W.heap.size ≤ b)))); clear h5 x5 hr5 x4 h4)
      | (go_at_call 31; refine (cont_any HK.out HQ.out.1 HQ.out.2.1 hj HP.out (by simp; have := HPP.out; omega)).mono ?_; rintro e w6 hT6; have HT6 := hid_mk (And.intro (hT6.of HQ.out.2.2.1 HQ.out.2.2.2) (HQ.out.2.1.fx hT6.2.choose_spec.choose_spec.choose_spec.choose_spec.2.1 (fun b hb => (RW.lt HQ.out.1 hb).1))); obtain ⟨⟨v6, rfl⟩, -⟩ := hT6))
    exact bodyPost_end (results_none Tryd.results20 _ _ _) rfl ⟨⟨⟨_, rfl⟩, HT6.out.1.2⟩, HT6.out.2⟩
set_option maxRecDepth 100000 in
set_option maxHeartbeats 4000000 in
/-- a container with a label, told once more -/
theorem whole_told {B t tc pc p mb g n j gv : Nat} {W : World} {ta pa : Option Addr} {tasks : List Task} {pieces : List ByteArray} {k : Int} {rg : Bool} {gvs : List Nat} {td : Nat → Bool} (hk : k = 1 ∨ k = 2) (h : TS B W t (.pointer (some ⟨p, 0, none⟩)) ta tc pa pc tasks pieces) (hF : WF W t p mb g k n rg gvs td) (hj : gvs[j]? = some gv) (hlb : lbR rg j = 0) (htd : td j = true) (hp : tasks.length ≤ 2000) (hpp : pieces.length ≤ 1900) :
    Calls Tryd.prog 20 #[.pointer (some ⟨t, 0, none⟩), .agg #[.int .i64 2, .int .i64 ((j : Int) + 1)]] W (TSQ B t (.pointer (some ⟨p, 0, none⟩)) (RW t ta pa) W tasks (pieces ++ [⟨#[35]⟩, ⟨#[48]⟩, ⟨#[35]⟩])) := by
  have hjn : j < n := by have := (List.getElem?_eq_some_iff.1 hj).1; have := hF.2.2.2.1; omega
  have hn6 : n ≤ 600 := hF.2.2.2.2.2.2.2.2.2.2.2.2
  have o1 : Out 0 0 W (W.alloc (.cells #[.int .i64 2, .int .i64 ((j : Int) + 1)] 28)) := (Out.refl _ _ _).alloc _
  have b1 := Bl.new W #[.int .i64 2, .int .i64 ((j : Int) + 1)] 28
  have x0 := b1.cell (i := 0) rfl
  have x1 := b1.cell (i := 1) rfl
  have y0 := (h.out o1).1.cell (i := 0) rfl
  have hF1 := hF.out o1.drew
  obtain ⟨hv, cap, cnt, hW1⟩ := hF1.1
  have HC := hid_mk (thing_any hW1 hF1.2.1 (fK_at hjn) (by omega) (by omega))
  have HH := hid_mk h
  have HF := hid_mk hF
  have HO := hid_mk o1.drew
  have HP := hid_mk hp
  have HPP := hid_mk hpp
  have HK := hid_mk hk
  clear h hF o1 hp hpp hk hF1 hW1 hn6
  go_enter Tryd.func20, Tryd.ntmps20
  go_wp2_with fail
  go_region_with (go_at_call 26; refine HC.out.mono ?_; rintro e w2 ⟨rfl, o2⟩)
  all_goals
    have hF2 := HF.out.out (HO.out.trans o2)
    obtain ⟨cur2, hB2, hT2⟩ := hF2.2.2.1
    have y1 := hB2.cell (hT2.at hj).1
    have y2 := hB2.cell (hT2.at hj).2.2.2.2.2.1
    rw [hlb] at y2
    have HY := hid_mk (container_yes HK.out y1)
    have HF2 := hid_mk hF2
    clear hF2 hB2 hT2
    go_wp2_with (first
      | (go_at_call 18; refine calls_same HY.out ?_)
      | (go_at_call 30; refine (itoa_zero HF2.out.2.2.2.2.2.2.2.2.2.2.1).mono ?_; rintro e w3 ⟨rfl, o3⟩; have hF3 := HF2.out.out o3; obtain ⟨cur3, hB3, hT3⟩ := hF3.2.2.1; have y6 := hB3.cell (hT3.at hj).2.2.2.2.2.2; rw [htd] at y6; have HO3 := hid_mk ((HO.out.trans o2).trans o3); clear hF3 hB3 hT3)
      | (go_at_call 22; refine (add_new (c := 3) (HH.out.out HO3.out) (ss := [⟨#[35]⟩, ⟨#[48]⟩, ⟨#[35]⟩]) (m := 3) rfl rfl (by decide) (by decide) (by have := HPP.out; omega)).mono ?_; rintro e w5 hT5; have HT5 := hid_mk (hT5.out HO3.out); obtain ⟨⟨v5, rfl⟩, -⟩ := hT5))
    exact bodyPost_ret (results_none Tryd.results20 _ _ _) rfl ⟨⟨_, rfl⟩, HT5.out.2⟩
end Go.Proofs.YtmfnkhonghemeaaDoor
namespace Go.Proofs.YtmfnkhonghemeaaDoor
open Go.RowKit
set_option linter.unusedVariables false

set_option maxRecDepth 100000 in
set_option maxHeartbeats 2000000 in
theorem rest_nil {B t tc pc : Nat} {W : World} {wp : Value} {ta pa : Option Addr} {tasks : List Task} {pieces : List ByteArray} (h : TS B W t wp ta tc pa pc tasks pieces) (hpp : pieces.length ≤ 1900) :
    Calls Tryd.prog 21 #[.pointer (some ⟨t, 0, none⟩), .agg #[.int .i64 3, .int .i64 0]] W (TSQ B t wp (RW t ta pa) W tasks (pieces ++ [⟨#[41]⟩])) := by
  have o1 : Out 0 0 W (W.alloc (.cells #[.int .i64 3, .int .i64 0] 28)) := (Out.refl _ _ _).alloc _
  have b1 := Bl.new W #[.int .i64 3, .int .i64 0] 28
  have x0 := b1.cell (i := 0) rfl
  have x1 := b1.cell (i := 1) rfl
  have hA := add_new (c := 1) (h.out o1) (cs := #[.string ⟨#[41]⟩]) (ss := [⟨#[41]⟩]) (m := 1) rfl rfl (by decide) (by decide) (by omega)
  rw [size_alloc] at hA
  have HA := hid_mk hA
  have HO := hid_mk o1
  clear h o1 hpp hA
  go_enter Tryd.func21, Tryd.ntmps21
  go_wp2_with (go_at_call 22; refine HA.out.mono ?_; rintro e w3 hT3; have HT3 := hid_mk (hT3.out HO.out); obtain ⟨⟨v3, rfl⟩, -⟩ := hT3)
  exact bodyPost_ret (results_none Tryd.results21 _ _ _) rfl ⟨⟨_, rfl⟩, HT3.out.2⟩
set_option maxRecDepth 100000 in
set_option maxHeartbeats 4000000 in
/-- the next pair of a list -/
theorem rest_pair {B t tc pc p mb g n j gv : Nat} {W : World} {ta pa : Option Addr} {tasks : List Task} {pieces : List ByteArray} {rg : Bool} {gvs : List Nat} {td : Nat → Bool} (h : TS B W t (.pointer (some ⟨p, 0, none⟩)) ta tc pa pc tasks pieces) (hF : WF W t p mb g 1 n rg gvs td) (hj : gvs[j]? = some gv) (hlb : lbR rg j = -1) (hp : tasks.length ≤ 2000) (hpp : pieces.length ≤ 1900) :
    Calls Tryd.prog 21 #[.pointer (some ⟨t, 0, none⟩), .agg #[.int .i64 2, .int .i64 ((j : Int) + 1)]] W (TSQ B t (.pointer (some ⟨p, 0, none⟩)) (RW t ta pa) W (tasks ++ opT 1 n rg j) (pieces ++ [⟨#[32]⟩])) := by
  have hjn : j < n := by have := (List.getElem?_eq_some_iff.1 hj).1; have := hF.2.2.2.1; omega
  have hn6 : n ≤ 600 := hF.2.2.2.2.2.2.2.2.2.2.2.2
  have o1 : Out 0 0 W (W.alloc (.cells #[.int .i64 2, .int .i64 ((j : Int) + 1)] 28)) := (Out.refl _ _ _).alloc _
  have b1 := Bl.new W #[.int .i64 2, .int .i64 ((j : Int) + 1)] 28
  have x0 := b1.cell (i := 0) rfl
  have x1 := b1.cell (i := 1) rfl
  have y0 := (h.out o1).1.cell (i := 0) rfl
  have hF1 := hF.out o1.drew
  obtain ⟨hv, cap, cnt, hW1⟩ := hF1.1
  have HC := hid_mk (thing_any hW1 hF1.2.1 (fK_at hjn) (by omega) (by omega))
  have hl : Hid (∀ b, RW t ta pa b → t ≤ b) := fun b hb => (RW.lt h hb).1
  have HH := hid_mk h
  have HF := hid_mk hF
  have HO := hid_mk o1.drew
  have HP := hid_mk hp
  have HPP := hid_mk hpp
  clear h hF o1 hp hpp hF1 hW1 hn6
  go_enter Tryd.func21, Tryd.ntmps21
  go_wp2_with fail
  go_region_with (go_at_call 26; refine HC.out.mono ?_; rintro e w2 ⟨rfl, o2⟩)
  all_goals
    have hF2 := HF.out.out (HO.out.trans o2)
    obtain ⟨cur2, hB2, hT2⟩ := hF2.2.2.1
    have y1 := hB2.cell (hT2.at hj).1
    have y2 := hB2.cell (hT2.at hj).2.2.2.2.2.1
    rw [hlb] at y2
    have HF2 := hid_mk hF2
    clear hF2 hB2 hT2
    go_wp2_with (first
      | (go_at_call 22; refine (add_new (c := 1) (HH.out.out (HO.out.trans o2)) (cs := #[.string ⟨#[32]⟩]) (ss := [⟨#[32]⟩]) (m := 1) rfl rfl (by decide) (by decide) (by have := HPP.out; omega)).mono ?_; rintro e w5 ⟨⟨v5, rfl⟩, ta1, tc1, pa1, pc1, h5, x5, hr5⟩; have HQ := hid_mk (And.intro h5 (And.intro (HF2.out.fx x5 (fun b hb => hl.out b hb)) (And.intro x5 hr5))); clear h5 x5 hr5)
      | (go_at_call 32; refine (pair_any HQ.out.1 HQ.out.2.1 hj HP.out).mono ?_; rintro e w6 hT6; have HT6 := hid_mk ((hT6.of HQ.out.2.2.1 HQ.out.2.2.2).out (HO.out.trans o2)); obtain ⟨⟨v6, rfl⟩, -⟩ := hT6))
    exact bodyPost_ret (results_none Tryd.results21 _ _ _) rfl ⟨⟨_, rfl⟩, HT6.out.2⟩
set_option maxRecDepth 100000 in
set_option maxHeartbeats 4000000 in
/-- a pair with a label ends the list -/
theorem rest_label {B t tc pc p mb g n j gv : Nat} {W : World} {ta pa : Option Addr} {tasks : List Task} {pieces : List ByteArray} {rg : Bool} {gvs : List Nat} {td : Nat → Bool} (h : TS B W t (.pointer (some ⟨p, 0, none⟩)) ta tc pa pc tasks pieces) (hF : WF W t p mb g 1 n rg gvs td) (hj : gvs[j]? = some gv) (hlb : lbR rg j = 0) (hp : tasks.length ≤ 2000) (hpp : pieces.length ≤ 1900) :
    Calls Tryd.prog 21 #[.pointer (some ⟨t, 0, none⟩), .agg #[.int .i64 2, .int .i64 ((j : Int) + 1)]] W (TSQ B t (.pointer (some ⟨p, 0, none⟩)) (RW t ta pa) W (tasks ++ [(3, 0, 0), (0, 2, (j : Int) + 1)]) (pieces ++ [⟨#[32, 46, 32]⟩])) := by
  have hjn : j < n := by have := (List.getElem?_eq_some_iff.1 hj).1; have := hF.2.2.2.1; omega
  have hn6 : n ≤ 600 := hF.2.2.2.2.2.2.2.2.2.2.2.2
  have o1 : Out 0 0 W (W.alloc (.cells #[.int .i64 2, .int .i64 ((j : Int) + 1)] 28)) := (Out.refl _ _ _).alloc _
  have b1 := Bl.new W #[.int .i64 2, .int .i64 ((j : Int) + 1)] 28
  have x0 := b1.cell (i := 0) rfl
  have x1 := b1.cell (i := 1) rfl
  have y0 := (h.out o1).1.cell (i := 0) rfl
  have hF1 := hF.out o1.drew
  obtain ⟨hv, cap, cnt, hW1⟩ := hF1.1
  have HC := hid_mk (thing_any hW1 hF1.2.1 (fK_at hjn) (by omega) (by omega))
  have hl : Hid (∀ b, RW t ta pa b → b < W.heap.size) := fun b hb => (RW.lt h hb).2
  have HB1 := hid_mk (b1.kept ((Out.refl 0 0 _).drew) (.inr (Nat.zero_le _)))
  have HH := hid_mk h
  have HF := hid_mk hF
  have HO := hid_mk o1.drew
  have HP := hid_mk hp
  have HPP := hid_mk hpp
  clear h hF o1 hp hpp hF1 hW1 hn6
  go_enter Tryd.func21, Tryd.ntmps21
  go_wp2_with fail
  go_region_with (go_at_call 26; refine HC.out.mono ?_; rintro e w2 ⟨rfl, o2⟩)
  all_goals
    have hF2 := HF.out.out (HO.out.trans o2)
    obtain ⟨cur2, hB2, hT2⟩ := hF2.2.2.1
    have y1 := hB2.cell (hT2.at hj).1
    have y2 := hB2.cell (hT2.at hj).2.2.2.2.2.1
    rw [hlb] at y2
    have b2 := HB1.out.kept o2 (.inr (Nat.zero_le _))
    have x2 := b2.cell (i := 0) rfl
    have x3 := b2.cell (i := 1) rfl
    have HB2 := hid_mk b2
    clear hF2 hB2 hT2 b2
    go_wp2_with (first
      | (go_at_call 22; refine (add_new (c := 1) (HH.out.out (HO.out.trans o2)) (cs := #[.string ⟨#[32, 46, 32]⟩]) (ss := [⟨#[32, 46, 32]⟩]) (m := 1) rfl rfl (by decide) (by decide) (by have := HPP.out; omega)).mono ?_; rintro e w5 ⟨⟨v5, rfl⟩, ta1, tc1, pa1, pc1, h5, x5, hr5⟩; have b5 := HB2.out.fx x5 (fun hb => by have := hl.out _ hb; omega); have x6 := b5.cell (i := 0) rfl; have x7 := b5.cell (i := 1) rfl; have HQ := hid_mk (And.intro h5 (And.intro x5 hr5)); clear h5 x5 hr5 b5)
      | (go_at_call 19; refine (later2_new (c := 2) HQ.out.1 HP.out).mono ?_; rintro e w6 hT6; have HT6 := hid_mk ((hT6.of HQ.out.2.1 HQ.out.2.2).out (HO.out.trans o2)); obtain ⟨⟨v6, rfl⟩, -⟩ := hT6))
    exact bodyPost_end (results_none Tryd.results21 _ _ _) rfl ⟨⟨_, rfl⟩, HT6.out.2⟩
end Go.Proofs.YtmfnkhonghemeaaDoor
