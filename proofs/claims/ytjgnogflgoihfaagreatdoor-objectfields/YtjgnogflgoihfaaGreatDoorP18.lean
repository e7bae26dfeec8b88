import Derived.Test.YtjgnogflgoihfaaGreatDoorP04
set_option linter.unusedSimpArgs false
set_option linter.unusedVariables false
set_option maxHeartbeats 16000000
set_option maxRecDepth 100000
namespace Go.Proofs.YtjgnogflgoihfaaGreatDoor
open Go.RowKit
theorem q7n (v:Int) (w:World) (h1:-9223372036854775808<=v) (h2:v<=9223372036854775807) :
  Kz 171 #[Iz v] w fun e w'=>e=.returned (.tuple #[Iz (v % 8),Iz (v / 8)])/\w'=w:=by
 by_cases hv:0<=v
 ·have e3:0<=v % 8:=by omega
  have e4:v % 8<8:=by omega
  go_enter Tryz.func171,Tryz.ntmps171
  go_wp2;go_ret2;exact⟨z5w rfl rfl,rfl⟩
 ·have e1:v.tmod 8 = -((-v) % 8):=by
   have:v = -(-v):=by omega
   rw[this,Int.neg_tmod,Int.tmod_eq_emod_of_nonneg (by omega)];omega
  have e2:(v+1).tdiv 8 = -((-(v+1)) / 8):=by
   have:v+1 = -(-(v+1)):=by omega
   rw[this,Int.neg_tdiv,Int.tdiv_eq_ediv_of_nonneg (by omega)];omega
  have hn:v<0:=by omega
  clear hv;have H2:=Q3 e2;clear e2;by_cases hz:-v % 8=0
  ·go_enter Tryz.func171,Tryz.ntmps171
   go_wp2;go_ret2;have q2:=H2.out;have hz':v % 8=0:=by omega
   refine⟨z5w ?_ ?_,rfl⟩
   ·first | omega | (rw[e1];omega) | (simp;omega)
   ·simp only[q2];unfold wrap64;omega
  ·have iH:-(-v % 8)<0:=by omega
   have hz3:-8 < -(-v % 8):=by omega
   go_enter Tryz.func171,Tryz.ntmps171
   go_wp2;go_ret2;have q2:=H2.out;refine⟨z5w ?_ ?_,rfl⟩
   ·omega
   ·simp only[q2];unfold wrap64;omega
theorem U6 (k n:Int) (w:World) :
  Kz 122 #[z4o k n] w fun e w'=>e=.returned (.bool (Q8 k n))/\Below w.heap.size w w':=by
 unfold z4o;have h0:Below w.heap.size w (w.alloc (Dz k n 32)):=(Below.refl _ _).alloc (Nat.le_refl _) _;have hA:=heap_alloc_new w (Dz k n 32);obtain⟨x0,x1⟩:=z3o hA;clear hA;rcases j5d k with rfl | rfl | rfl | rfl | hk
 ·rw[j0j];go_enter Tryz.func122,Tryz.ntmps122
  go_wp2_with fail
  all_goals go_ret
  all_goals refine⟨U9 ?_,h0⟩
  all_goals (unfold z4a;rw[Bool.eq_iff_iff];simp;try omega)
 ·rw[j0k];go_enter Tryz.func122,Tryz.ntmps122
  go_wp2_with fail
  all_goals go_ret
  all_goals refine⟨U9 ?_,h0⟩
  all_goals (unfold z4a;rw[Bool.eq_iff_iff];simp;try omega)
 ·rw[j0l];go_enter Tryz.func122,Tryz.ntmps122
  go_wp2_with fail
  all_goals go_ret
  all_goals refine⟨U9 ?_,h0⟩
  all_goals (rw[Bool.eq_iff_iff];simp;try omega)
 ·rw[j0m];go_enter Tryz.func122,Tryz.ntmps122
  go_wp2_with fail
  all_goals go_ret
  all_goals refine⟨U9 ?_,h0⟩
  all_goals (unfold z2c;rw[Bool.eq_iff_iff];simp;try omega)
 ·rw[j0n k n hk];obtain⟨k1,k2,k3,k4⟩:=hk;go_enter Tryz.func122,Tryz.ntmps122
  go_wp2_with fail;go_ret;exact⟨rfl,h0⟩
theorem z3l (k n:Int) (w:World) :
  Kz 67 #[z4o k n] w fun e w'=>e=.returned (.tuple #[Iz (z0g k n),.bool (Q8 k n)])/\Below w.heap.size w w':=by
 unfold z4o;have b1:Below w.heap.size w (w.alloc (Dz k n 32)):=(Below.refl _ _).alloc (Nat.le_refl _) _;have V0:=VC_v.new w k n;obtain⟨x0,x1,x2,x3⟩:=V0.facts;have HV:=Q3 V0;clear V0;by_cases hv:Q8 k n=true
 ·have hw:z0g k n=n*8+(k-1):=by unfold z0g;rw[if_pos hv]
  obtain⟨r1,r2,r3,r4⟩:=z3p hv;rw[hw,hv];go_enter Tryz.func67,Tryz.ntmps67
  go_wp2_with fail;refine(U6 k n _).mono ?_;rintro e w1 ⟨rfl,hg⟩;rw[hv];obtain⟨x0,x1,x2,x3⟩:=(HV.out.kept hg).facts;have hb:=b1.trans (hg.mono b1.size);clear hg b1 HV;go_wp2_with fail;go_ret2;exact⟨z9j (by first | omega | (unfold wrap64;omega)) rfl,hb⟩
 ·have nG:=Bool.eq_false_iff.mpr hv;have hw:z0g k n=0:=by unfold z0g;rw[if_neg hv]
  rw[hw,nG];clear hv;go_enter Tryz.func67,Tryz.ntmps67
  go_wp2_with fail;refine(U6 k n _).mono ?_;rintro e w1 ⟨rfl,hg⟩;rw[nG];have hb:=b1.trans (hg.mono b1.size);clear hg b1 HV;go_wp2_with fail;go_ret2;exact⟨rfl,hb⟩
theorem B8 (v:Int) (w:World) (h1:-9223372036854775808<=v) (h2:v<=9223372036854775807) :
  Kz 124 #[Iz v] w fun e w'=>e=.returned (.tuple #[.agg #[Iz (z0t (v % 8+1) (v / 8)),Iz (z0u (v % 8+1) (v / 8))],.bool (Q8 (v % 8+1) (v / 8))])/\Below w.heap.size w w':=by
 obtain⟨t,ht⟩:∃ t,t=v % 8:=⟨_,rfl⟩
 obtain⟨b,hb⟩:∃ b,b=v / 8:=⟨_,rfl⟩
 have hs:=Q3 (fun w=>q7n v w h1 h2);rw[<-ht,<-hb] at hs ⊢;have t1:0<=t:=by omega
 have t2:t<8:=by omega
 clear ht hb h1 h2;have b1:Below w.heap.size w (w.alloc (Dz 0 0 32)):=(Below.refl _ _).alloc (Nat.le_refl _) _;have b2:=b1.alloc b1.size (Dz (t+1) b 32);have HB:=Q3 b2;have V0:=Q3 ((VC_v.new w 0 0).alloc (Dz (t+1) b 32));have V1:Hid (VC_v ((w.alloc (Dz 0 0 32)).alloc (Dz (t+1) b 32)) (w.heap.size+1) (t+1) b):=heap_alloc2_new _ _ _;clear b1 b2;by_cases hv:Q8 (t+1) b=true
 ·go_enter Tryz.func124,Tryz.ntmps124
  go_wp2_with (go_at_call 171;refine Q4 (hs.out _) ?_);refine(U6 (t+1) b _).mono ?_;rintro e w1 ⟨rfl,hg⟩;rw[hv];have g0:=Q3 (V0.out.kept hg);have g1:=V1.out.kept hg;have hb:=HB.out.trans (hg.mono HB.out.size);clear hg HB V0 V1;obtain⟨x0,x1,x2,x3⟩:=g0.out.facts;obtain⟨x4,x5,x6,x7⟩:=g1.facts;go_wp2_with fail;refine z5v Tryz.results124 rfl rfl rfl (g0.out.set (t+1) b) ⟨?_,?_⟩
  ·rw[q2a hv,hv];rfl
  ·exact(hb.setCell (Nat.le_refl _) _).setCell (Nat.le_refl _) _
 ·have nG:=Bool.eq_false_iff.mpr hv;clear hv;go_enter Tryz.func124,Tryz.ntmps124
  go_wp2_with (go_at_call 171;refine Q4 (hs.out _) ?_);refine(U6 (t+1) b _).mono ?_;rintro e w1 ⟨rfl,hg⟩;rw[nG];have g0:=Q3 (V0.out.kept hg);have g1:=V1.out.kept hg;have hb:=HB.out.trans (hg.mono HB.out.size);clear hg HB V0 V1;obtain⟨x0,x1,x2,x3⟩:=g0.out.facts;obtain⟨x4,x5,x6,x7⟩:=g1.facts;go_wp2_with fail;refine z5v Tryz.results124 rfl rfl rfl (g0.out.set 0 0) ⟨?_,?_⟩
  ·rw[q7i nG,nG];rfl
  ·exact(hb.setCell (Nat.le_refl _) _).setCell (Nat.le_refl _) _
end Go.Proofs.YtjgnogflgoihfaaGreatDoor
