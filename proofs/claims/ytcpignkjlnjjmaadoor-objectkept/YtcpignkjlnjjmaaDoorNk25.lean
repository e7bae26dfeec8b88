import Derived.Test.YtcpignkjlnjjmaaDoorNk18
import Derived.Test.YtcpignkjlnjjmaaDoorNk24
import Derived.Test.YtcpignkjlnjjmaaDoorNk23
namespace Go.Proofs.YtcpignkjlnjjmaaDoor
open Go.RowKit
set_option linter.unusedVariables false
set_option linter.unusedSimpArgs false

def raw0 : Raw := ⟨fun _ => 0, fun _ => (0, 0, 0), fun _ _ => false, fun _ => false, fun _ => none, fun _ => none, 0⟩
theorem New_yes {w : World} (hT : Tab w) (n : Nat) (h1 : 1 ≤ n) (h2 : n ≤ 4096) :
    Calls Tryd.prog 9 #[.int .i64 n] w fun e w' => ∃ s cap hi hb, e = .returned (.tuple #[.pointer (some ⟨hb, 0, none⟩), .int .i64 0]) ∧ RawAt w' w.heap.size hi s n cap raw0 ∧ hi ≤ hb ∧ w'.cell? ⟨hb, 0, none⟩ = some (.pointer (some ⟨s 14, 0, none⟩)) ∧ Out 0 0 w w' := by
  have HS := hid_mk (spNew_yes hT n h1 h2)
  clear hT h1 h2
  go_enter Tryd.func9, Tryd.ntmps9
  go_wp2_with fail
  refine HS.out.mono ?_
  rintro e X ⟨s, cap, rfl, R, q⟩
  go_wp2
  go_ret2
  have o := (Out.refl 0 0 X).alloc (.cells #[.pointer (some ⟨s 14, 0, none⟩)] 56)
  refine ⟨s, cap, X.heap.size, X.heap.size, rfl, R.quiet o, Nat.le_refl _, ?_, q.trans o⟩
  have f := heap_alloc_new X (.cells #[.pointer (some ⟨s 14, 0, none⟩)] 56)
  simp only [World.cell?, f]
  rfl
section
variable {w : World} {lo hi hb : Nat} {s : Nat → Nat} {n cap : Nat} {st : Sp}
set_option maxRecDepth 100000 in
set_option maxHeartbeats 2000000 in
theorem take_size (h : SpAt w lo hi s n cap st) (hH : w.cell? ⟨hb, 0, none⟩ = some (.pointer (some ⟨s 14, 0, none⟩))) (hout : hb < lo ∨ hi ≤ hb) (k nn t : Int) (hz : sizeB k nn = false) : Calls Tryd.prog 26 #[.pointer (some ⟨hb, 0, none⟩), .int .i64 k, .int .i64 nn, .int .i64 t] w fun e w' => e = .panicked [stopP 24 0] ∧ Out 0 0 w w' := by
  have Hh := hid_mk h
  have fR := hid_mk (heap_alloc_new w (.cells #[.int .i64 0, .int .i64 0, .int .i64 0, .int .i64 0, .int .i64 0] 49))
  have HO := hid_mk ((Out.refl 0 0 w).alloc (.cells #[.int .i64 0, .int .i64 0, .int .i64 0, .int .i64 0, .int .i64 0] 49))
  obtain ⟨gv, hgv⟩ : ∃ g, w.heap.size = g := ⟨_, rfl⟩
  have Hgv := hid_mk hgv
  obtain ⟨V1, hV1⟩ : ∃ V, w.alloc (.cells #[.int .i64 0, .int .i64 0, .int .i64 0, .int .i64 0, .int .i64 0] 49) = V := ⟨_, rfl⟩
  rw [hV1, hgv] at fR
  rw [hV1] at HO
  have hH1 := HO.out.cell hH (.inr (Nat.zero_le _))
  have HSz := hid_mk (size_any k nn (Hh.out.quiet HO.out).1.tab)
  clear h hH
  rw [hz] at HSz
  clear hz hout
  go_enter Tryd.func26, Tryd.ntmps26
  go_wp2_with fail
  (try rw [hV1])
  (try rw [hgv])
  clear hV1 hgv
  refine HSz.out.mono ?_
  rintro e w5 ⟨rfl, he⟩
  rw [he]
  clear he w5
  go_wp2_with fail
  refine (want_no _ _).mono ?_
  rintro e w6 ⟨rfl, he⟩
  rw [he]
  exact ⟨rfl, rfl, HO.out⟩
set_option maxRecDepth 100000 in
set_option maxHeartbeats 2000000 in
theorem take_full (h : SpAt w lo hi s n cap st) (hH : w.cell? ⟨hb, 0, none⟩ = some (.pointer (some ⟨s 14, 0, none⟩))) (hout : hb < lo ∨ hi ≤ hb) (k nn t : Int) {z a ec fa : Int} (hz : sizeB k nn = true) (hzv : sizeV k nn = z) (z1 : -9223372036854775808 ≤ z) (z2 : z ≤ 9223372036854775807) (hl : st.last < 4611686018427387904) (ha : (alF n st k z t).1 = a) (he : (alF n st k z t).2.1 = ec) (hf : (alF n st k z t).2.2.1 = fa) (hne : ec ≠ 0) : Calls Tryd.prog 26 #[.pointer (some ⟨hb, 0, none⟩), .int .i64 k, .int .i64 nn, .int .i64 t] w fun e w' => e = .panicked [stopP ec fa] ∧ SpAt w' lo hi s n cap (alF n st k z t).2.2.2 ∧ Out lo hi w w' := by
  have Hh := hid_mk h
  have fR := hid_mk (heap_alloc_new w (.cells #[.int .i64 0, .int .i64 0, .int .i64 0, .int .i64 0, .int .i64 0] 49))
  have HO := hid_mk ((Out.refl 0 0 w).alloc (.cells #[.int .i64 0, .int .i64 0, .int .i64 0, .int .i64 0, .int .i64 0] 49))
  obtain ⟨gv, hgv⟩ : ∃ g, w.heap.size = g := ⟨_, rfl⟩
  have Hgv := hid_mk hgv
  obtain ⟨V1, hV1⟩ : ∃ V, w.alloc (.cells #[.int .i64 0, .int .i64 0, .int .i64 0, .int .i64 0, .int .i64 0] 49) = V := ⟨_, rfl⟩
  rw [hV1, hgv] at fR
  rw [hV1] at HO
  have hH1 := HO.out.cell hH (.inr (Nat.zero_le _))
  have HSz := hid_mk (size_any k nn (Hh.out.quiet HO.out).1.tab)
  clear h hH
  rw [hz, hzv] at HSz
  have HAl := hid_mk (alloc_any (Hh.out.quiet HO.out) k z t z1 z2 hl)
  rw [ha, he, hf] at HAl
  have Hout := hid_mk hout
  clear hz hzv z1 z2 hl ha he hf hout
  go_enter Tryd.func26, Tryd.ntmps26
  go_wp2_with fail
  (try rw [hV1])
  (try rw [hgv])
  clear hV1 hgv
  refine HSz.out.mono ?_
  rintro e w5 ⟨rfl, he⟩
  rw [he]
  clear he w5
  go_wp2_with fail
  refine (want_yes _ _).mono ?_
  rintro e w6 ⟨rfl, he⟩
  rw [he]
  clear he w6
  go_wp2_with fail
  refine HAl.out.mono ?_
  rintro e' X3 ⟨rfl, S3, q3⟩
  have HS3 := hid_mk S3
  have HQ3 := hid_mk ((HO.out.any lo hi).trans q3)
  have HR3 := hid_mk (q3.heap fR.out (.inr (by have h1 := Hh.out.1.top; have h2 := Hgv.out; omega)))
  have HH3 := hid_mk (q3.cell hH1 Hout.out)
  clear S3 q3 hH1
  go_wp2_with fail
  refine (fail_no hne _ _).mono ?_
  rintro e' X4 ⟨rfl, q4⟩
  have o4 := ((Out.refl 0 0 X3).alloc _).trans q4
  exact ⟨rfl, rfl, HS3.out.quiet o4, HQ3.out.trans (o4.any lo hi)⟩
set_option maxRecDepth 100000 in
set_option maxHeartbeats 2000000 in
theorem take_ok (h : SpAt w lo hi s n cap st) (hH : w.cell? ⟨hb, 0, none⟩ = some (.pointer (some ⟨s 14, 0, none⟩))) (hout : hb < lo ∨ hi ≤ hb) (k nn t : Int) {z a fa : Int} (hz : sizeB k nn = true) (hzv : sizeV k nn = z) (z1 : -9223372036854775808 ≤ z) (z2 : z ≤ 9223372036854775807) (hl : st.last < 4611686018427387904) (ha : (alF n st k z t).1 = a) (he : (alF n st k z t).2.1 = 0) (hf : (alF n st k z t).2.2.1 = fa) {b1 b2 b3 b4 : Int} (hM : (rawOf n (alF n st k z t).2.2.2).M a = some (b1, b2, b3, b4)) : Calls Tryd.prog 26 #[.pointer (some ⟨hb, 0, none⟩), .int .i64 k, .int .i64 nn, .int .i64 t] w fun e w' => e = .returned (.agg #[.int .i64 a, .int .i64 b1, .int .i64 b2, .int .i64 b3, .int .i64 b4]) ∧ SpAt w' lo hi s n cap (alF n st k z t).2.2.2 ∧ Out lo hi w w' := by
  have Hh := hid_mk h
  have fR := hid_mk (heap_alloc_new w (.cells #[.int .i64 0, .int .i64 0, .int .i64 0, .int .i64 0, .int .i64 0] 49))
  have HO := hid_mk ((Out.refl 0 0 w).alloc (.cells #[.int .i64 0, .int .i64 0, .int .i64 0, .int .i64 0, .int .i64 0] 49))
  obtain ⟨gv, hgv⟩ : ∃ g, w.heap.size = g := ⟨_, rfl⟩
  have Hgv := hid_mk hgv
  obtain ⟨V1, hV1⟩ : ∃ V, w.alloc (.cells #[.int .i64 0, .int .i64 0, .int .i64 0, .int .i64 0, .int .i64 0] 49) = V := ⟨_, rfl⟩
  rw [hV1, hgv] at fR
  rw [hV1] at HO
  have hH1 := HO.out.cell hH (.inr (Nat.zero_le _))
  have HSz := hid_mk (size_any k nn (Hh.out.quiet HO.out).1.tab)
  clear h hH
  rw [hz, hzv] at HSz
  have HAl := hid_mk (alloc_any (Hh.out.quiet HO.out) k z t z1 z2 hl)
  rw [ha, he, hf] at HAl
  have Hout := hid_mk hout
  clear hz hzv z1 z2 hl ha he hf hout
  have HM := hid_mk hM
  clear hM
  go_enter Tryd.func26, Tryd.ntmps26
  go_wp2_with fail
  (try rw [hV1])
  (try rw [hgv])
  clear hV1 hgv
  refine HSz.out.mono ?_
  rintro e w5 ⟨rfl, he⟩
  rw [he]
  clear he w5
  go_wp2_with fail
  refine (want_yes _ _).mono ?_
  rintro e w6 ⟨rfl, he⟩
  rw [he]
  clear he w6
  go_wp2_with fail
  refine HAl.out.mono ?_
  rintro e' X3 ⟨rfl, S3, q3⟩
  have HS3 := hid_mk S3
  have HQ3 := hid_mk ((HO.out.any lo hi).trans q3)
  have HR3 := hid_mk (q3.heap fR.out (.inr (by have h1 := Hh.out.1.top; have h2 := Hgv.out; omega)))
  have HH3 := hid_mk (q3.cell hH1 Hout.out)
  clear S3 q3 hH1
  go_wp2_with fail
  refine (fail_ok _ _).mono ?_
  rintro e' X4 ⟨rfl, q4⟩
  have o4 := ((Out.refl 0 0 X3).alloc _).trans q4
  have hH4 := o4.cell HH3.out (.inr (Nat.zero_le _))
  have HO4 := hid_mk o4
  clear q4 o4
  go_wp2_with fail
  refine (block_some (HS3.out.quiet HO4.out).1 HM.out).mono ?_
  rintro e' X5 ⟨rfl, q5⟩
  obtain ⟨V6, hV6⟩ : ∃ V, X5.alloc (.cells #[.int .i64 a, .int .i64 b1, .int .i64 b2, .int .i64 b3, .int .i64 b4] 49) = V := ⟨_, rfl⟩
  have o6 : Out 0 0 X3 V6 := by rw [← hV6]; exact (HO4.out.trans q5).alloc _
  have HR6 := hid_mk (o6.heap HR3.out (.inr (Nat.zero_le _)))
  have HO6 := hid_mk o6
  have f6 : V6.heap[X5.heap.size]? = some (.cells #[.int .i64 a, .int .i64 b1, .int .i64 b2, .int .i64 b3, .int .i64 b4] 49 (0, 0)) := by rw [← hV6]; exact heap_alloc_new _ _
  obtain ⟨g5, hg5⟩ : ∃ g, X5.heap.size = g := ⟨_, rfl⟩
  rw [hg5] at f6
  obtain ⟨y0, y1, y2, y3, y4, y5⟩ := blk5 f6
  obtain ⟨x0, x1, x2, x3, x4, x5⟩ := blk5 HR6.out
  clear q5 o6 hH4
  go_wp2
  have o7 := (Out.refl gv (gv + 1) V6).set5 (g := gv) (.inl ⟨Nat.le_refl _, Nat.lt_succ_self _⟩) (.int .i64 a) (.int .i64 b1) (.int .i64 b2) (.int .i64 b3) (.int .i64 b4)
  have hd : hi ≤ gv := by have h1 := Hh.out.1.top; have h2 := Hgv.out; omega
  have hn : 4 ≤ gv := by have h3 := Hh.out.1.glob; have h4 := Hh.out.1.inn 0 (by omega); omega
  refine retBlk1 Tryd.results26 rfl rfl (blk_set HR6.out) ⟨rfl, (HS3.out.quiet HO6.out).kept o7 (.inl hd) (.inl hn), (HQ3.out.trans (HO6.out.any lo hi)).then o7 (by have := Hgv.out; omega)⟩
end
end Go.Proofs.YtcpignkjlnjjmaaDoor
