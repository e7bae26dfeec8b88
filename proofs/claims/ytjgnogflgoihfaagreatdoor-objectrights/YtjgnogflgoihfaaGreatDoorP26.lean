import Derived.Test.YtjgnogflgoihfaaGreatDoorP25
namespace Go.Proofs.YtjgnogflgoihfaaGreatDoor
open Go.RowKit
set_option linter.unusedVariables false
set_option maxRecDepth 100000
set_option maxHeartbeats 16000000
set_option linter.unusedSimpArgs false
theorem x7v {k z i:Int}:J9 k z i=0\/J9 k z i=1\/(2<=J9 k z i/\J9 k z i<=5)\/J9 k z i=6\/J9 k z i=7\/J9 k z i=8\/J9 k z i=9:=by
 unfold J9;split
 ·unfold z4d q1j;repeat' split
  all_goals omega
 ·left;rfl
theorem j7k {k z i:Int} (h:J9 k z i=9):k=12\/k=13:=by
 unfold J9 at h;split at h
 ·unfold z4d q1j at h;repeat' split at h
  all_goals simp_all
 ·omega
theorem j6j {v:Int}:(v == 2)=(v % 8+1 == 3 && v / 8 == 0):=by
 rw[Bool.eq_iff_iff];simp;omega
section
variable {w:World} {lo hi rb cw co n:Nat} {s:Nat->Nat} {st:Sp}
theorem z5d (h:RfAt w lo hi s n cw co st) (hI:Inv n st) (hR:w.cell? ⟨rb,0,none⟩=some (.pointer (some ⟨s 0,0,none⟩))) (a i v:Int) (v1:-9223372036854775808<=v) (v2:v<=9223372036854775807):Calls Tryz.prog 68 #[.pointer (some ⟨rb,0,none⟩),.int .i64 a,.int .i64 i,.int .i64 v] w fun e w'=>e=.returned (.bool (z8c (J0 n st) a i v))/\Out 0 0 w w':=by
 unfold z8c;cases hM:(J0 n st).M a with
 | none=>exact q7m hR a i v (fun X o=>z5o (h.quiet o) hM) (by omega) (by omega) rfl rfl
 | some b=>
  obtain⟨t1,t2,t3,t4⟩:=b;have dY:=fun X (o:Out 0 0 w X)=>z2g (h.quiet o) hI hM
  have pS:=H7 hI a _ hM;dsimp only at pS ⊢;have s1:-9223372036854775808<=t2:=by omega
  have s2:t2<=9223372036854775807:=by omega
  obtain⟨aN,bE⟩:∃ r,J9 t1 t2 i=r:=⟨_,rfl⟩
  have hrs:=x7v (k:=t1) (z:=t2) (i:=i);have h12:=j7k (k:=t1) (z:=t2) (i:=i);rw[bE] at hrs h12 ⊢;obtain⟨kx,iJ⟩:∃ k,v % 8+1=k:=⟨_,rfl⟩
  obtain⟨nx,eQ⟩:∃ k,v / 8=k:=⟨_,rfl⟩
  unfold rgB;by_cases r01:aN=0\/aN=1
  ·rw[if_pos r01];rcases r01 with r0 | r0
   ·rw[show (aN == 1)=false from by rw[r0];rfl];exact q7n hR a i v dY s1 s2 bE rfl r0
   ·rw[show (aN == 1)=true from by rw[r0];rfl];exact j2a hR a i v dY s1 s2 bE rfl r0
  ·rw[if_neg r01,iJ,eQ];cases hv:J2 kx nx
   ·rw[if_neg (by simp)];exact j1z hR a i v dY s1 s2 bE rfl (by omega) v1 v2 iJ eQ hv
   ·rw[if_pos rfl];have hblk:∃ d0 d1 d2 d3 d4 ok,(∀ X,Out 0 0 w X->Calls Tryz.prog 123 #[.pointer (some ⟨s 0,0,none⟩),.int .i64 nx] X fun e w'=>e=.returned (.tuple #[.agg #[.int .i64 d0,.int .i64 d1,.int .i64 d2,.int .i64 d3,.int .i64 d4],.bool ok])/\Out 0 0 X w')/\((ok=false/\(J0 n st).M nx=none)\/(ok=true/\d0=nx/\(J0 n st).M nx=some (d1,d2,d3,d4))):=by
     cases hx:(J0 n st).M nx with
     | none=>exact⟨0,0,0,0,0,false,fun X o=>z5o (h.quiet o) hx,.inl ⟨rfl,rfl⟩⟩
     | some t=>
      obtain⟨d1,d2,d3,d4⟩:=t;exact⟨nx,d1,d2,d3,d4,true,fun X o=>z2g (h.quiet o) hI hx,.inr ⟨rfl,rfl,rfl⟩⟩
    obtain⟨d0,d1,d2,d3,d4,ok,kG,hMx⟩:=hblk;by_cases r5:aN<=5
    ·have qM:z3g aN=true:=by
      unfold z3g;have:aN=2\/aN=3\/aN=4\/aN=5:=by omega
      rcases this with e | e | e | e <;> rw[e] <;> rfl
     by_cases k2:kx=2
     ·rw[if_pos k2];rcases hMx with ⟨e1,e2⟩ | ⟨e1,e2,e3⟩
      ·rw[e2];exact z4g hR a i v dY s1 s2 bE rfl (by omega) v1 v2 iJ eQ hv r5 (fun X o=>q7k (o.cell hR z0) kx nx hv (fun Y o2=>kG Y (o.trans o2)) k2 e1)
      ·rw[e3];have hl:z9v a (t1,t2,t3,t4) aN nx (d1,d2,d3,d4)=x8c d1:=by
        unfold z9v;rw[if_neg (by omega),if_neg (by omega),if_neg (by omega),if_neg (by omega)]
       dsimp only;rw[hl];exact z4g hR a i v dY s1 s2 bE rfl (by omega) v1 v2 iJ eQ hv r5 (fun X o=>q4k (o.cell hR z0) kx nx hv (fun Y o2=>kG Y (o.trans o2)) k2 e1)
     ·rw[if_neg k2,qM,Bool.true_or];exact z4g hR a i v dY s1 s2 bE rfl (by omega) v1 v2 iJ eQ hv r5 (fun X o=>q4j (o.cell hR z0) kx nx hv (fun Y o2=>kG Y (o.trans o2)) k2)
    ·have qM:z3g aN=false:=by
      unfold z3g;simp;omega
     by_cases k2:kx=2
     ·rw[if_pos k2];rcases hMx with ⟨e1,e2⟩ | ⟨e1,e2,e3⟩
      ·rw[e2];have hq:=q7l hR a i v dY s1 s2 bE rfl (by omega) v1 v2 iJ eQ hv kG k2 e1;rw[show (v == 2)=false from by simp;omega] at hq;exact hq
      ·rw[e3];dsimp only;have hr:aN=6\/aN=7\/aN=8\/aN=9:=by omega
       unfold z9v;rcases hr with r | r | r | r
       ·rw[if_pos r];exact j4q hR a i v dY s1 s2 bE rfl r v1 v2 iJ eQ hv kG k2 e1
       ·rw[if_neg (by omega),if_pos r];exact j4r hR a i v dY s1 s2 bE rfl r v1 v2 iJ eQ hv kG k2 e1
       ·rw[if_neg (by omega),if_neg (by omega),if_pos r];exact j4s hR a i v dY s1 s2 bE rfl r v1 v2 iJ eQ hv kG k2 e1
       ·rw[if_neg (by omega),if_neg (by omega),if_neg (by omega),if_pos r];have hq:=j4t hR a i v dY s1 s2 bE rfl r v1 v2 iJ eQ hv kG k2 e1;have ha:z5u a t1 nx=(t1 == 12 || decide (a<d0)):=by
         unfold z5u;rw[e2];rcases h12 r with e | e <;> rw[e] <;> rfl
        dsimp only;rw[ha];exact hq
     ·rw[if_neg k2,qM,Bool.false_or];have hq:=q2n hR a i v dY s1 s2 bE rfl (by omega) v1 v2 iJ eQ hv kG k2;rw[j6j,iJ,eQ] at hq;exact hq
end
section
variable {w:World} {lo hi rb cw co n:Nat} {s:Nat->Nat} {st:Sp}
theorem q1h (k m i xk xn:Int) {b0 b1 b2 b3 b4 e0 a0:Int} (hWd:∀ X,Out 0 0 w X->Kz 66 #[Pq rb,Vz k m,Iz i,.bool false] X fun e w'=>e=.returned (.tuple #[Wz b0 b1 b2 b3 b4,Vz e0 a0])/\Out 0 0 X w') (he:e0 ≠ 0):Kz 25 #[Pq rb,Vz k m,Iz i,Vz xk xn] w fun e w'=>e=.returned (Vz e0 a0)/\Out 0 0 w w':=by
 have qR:(e0 != 0)=true:=by simpa using he
 clear he;have fV:=Q3 (V5 (w:=w) (o:=Dz k m 32) (o2:=Dz xk xn 32) (o3:=Dz 0 0 46));have fX:=Q3 (X0 (w:=w) (o:=Dz k m 32) (o2:=Dz xk xn 32) (o3:=Dz 0 0 46));have fF:=Q3 (K4 (w:=w) (o:=Dz k m 32) (o2:=Dz xk xn 32) (o3:=Dz 0 0 46));have aI:=Q3 ((((Out.refl 0 0 w).alloc (Dz k m 32)).alloc (Dz xk xn 32)).alloc (Dz 0 0 46));have iD:=Q3 hWd;obtain⟨gv,aR⟩:∃ g,w.heap.size=g:=⟨_,rfl⟩
 have bD:=Q3 aR;obtain⟨V2,aS⟩:∃ V,((w.alloc (Dz k m 32)).alloc (Dz xk xn 32)).alloc (Dz 0 0 46)=V:=⟨_,rfl⟩
 rw[aS,aR] at fV fX fF;rw[aS] at aI;obtain⟨u0,u1,u2,u3⟩:=Q5 fV.out;clear hWd;go_enter Tryz.func25,Tryz.ntmps25
 go_wp2_with fail;(try rw[aS]);(try rw[aR]);clear aS aR;refine(iD.out _ aI.out).mono ?_;rintro e X3 ⟨rfl,q3⟩;clear u0 u1 u2 u3;have eS:=J3 (w:=X3) (o:=Ez b0 b1 b2 b3 b4 81) (o2:=Dz e0 a0 46);have gJ:=J7 (w:=X3) (o:=Ez b0 b1 b2 b3 b4 81) (o2:=Dz e0 a0 46);have o4:=(q3.alloc (Ez b0 b1 b2 b3 b4 81)).alloc (Dz e0 a0 46);have kH:=o4.heap fF.out Oz;have lI:=o4.heap fX.out Oz;obtain⟨y0,y1,y2,y3,y4,y5⟩:=W7 eS;obtain⟨z0,z1,z2,z3⟩:=flt_facts gJ;have cV:=Q3 (And.intro eS (And.intro gJ (And.intro o4 (And.intro kH lI))));have bU:Hid (gv+3<=X3.heap.size):=by have h1:=Q8 fF.out;have h2:=q3.size;exact Nat.le_trans h1 h2
 clear eS gJ o4 q3;obtain⟨c0,c1,c2,c3⟩:=flt_facts kH;have f2:=J5 (x':=e0) (y':=a0) kH;have o2:=(Out.refl (gv+2) (gv+3) ((X3.alloc (Ez b0 b1 b2 b3 b4 81)).alloc (Dz e0 a0 46))).set2 (b:=gv+2) (o:=0) (o':=1) Lz (Iz e0) (Iz a0);have HE:=Q3 (And.intro f2 ((aI.out.trans cV.out.2.2.1).then o2 (by have:=bD.out;omega)));clear f2 o2 kH lI;go_wp2;exact bodyPost_ret (W6 Tryz.results25 rfl (J8 HE.out.1)) rfl ⟨rfl,HE.out.2⟩
theorem q4l (k m i xk xn:Int) {b0 b1 b2 b3 b4 a0:Int} (hWd:∀ X,Out 0 0 w X->Kz 66 #[Pq rb,Vz k m,Iz i,.bool false] X fun e w'=>e=.returned (.tuple #[Wz b0 b1 b2 b3 b4,Vz 0 a0])/\Out 0 0 X w') (hv:J2 xk xn=false):Kz 25 #[Pq rb,Vz k m,Iz i,Vz xk xn] w fun e w'=>e=.returned (Vz 33 0)/\Out 0 0 w w':=by
 have fV:=Q3 (V5 (w:=w) (o:=Dz k m 32) (o2:=Dz xk xn 32) (o3:=Dz 0 0 46));have fX:=Q3 (X0 (w:=w) (o:=Dz k m 32) (o2:=Dz xk xn 32) (o3:=Dz 0 0 46));have fF:=Q3 (K4 (w:=w) (o:=Dz k m 32) (o2:=Dz xk xn 32) (o3:=Dz 0 0 46));have aI:=Q3 ((((Out.refl 0 0 w).alloc (Dz k m 32)).alloc (Dz xk xn 32)).alloc (Dz 0 0 46));have iD:=Q3 hWd;obtain⟨gv,aR⟩:∃ g,w.heap.size=g:=⟨_,rfl⟩
 have bD:=Q3 aR;obtain⟨V2,aS⟩:∃ V,((w.alloc (Dz k m 32)).alloc (Dz xk xn 32)).alloc (Dz 0 0 46)=V:=⟨_,rfl⟩
 rw[aS,aR] at fV fX fF;rw[aS] at aI;obtain⟨u0,u1,u2,u3⟩:=Q5 fV.out;clear hWd;go_enter Tryz.func25,Tryz.ntmps25
 go_wp2_with fail;(try rw[aS]);(try rw[aR]);clear aS aR;refine(iD.out _ aI.out).mono ?_;rintro e X3 ⟨rfl,q3⟩;clear u0 u1 u2 u3;have eS:=J3 (w:=X3) (o:=Ez b0 b1 b2 b3 b4 81) (o2:=Dz 0 a0 46);have gJ:=J7 (w:=X3) (o:=Ez b0 b1 b2 b3 b4 81) (o2:=Dz 0 a0 46);have o4:=(q3.alloc (Ez b0 b1 b2 b3 b4 81)).alloc (Dz 0 a0 46);have kH:=o4.heap fF.out Oz;have lI:=o4.heap fX.out Oz;obtain⟨y0,y1,y2,y3,y4,y5⟩:=W7 eS;obtain⟨z0,z1,z2,z3⟩:=flt_facts gJ;have cV:=Q3 (And.intro eS (And.intro gJ (And.intro o4 (And.intro kH lI))));have bU:Hid (gv+3<=X3.heap.size):=by have h1:=Q8 fF.out;have h2:=q3.size;exact Nat.le_trans h1 h2
 clear eS gJ o4 q3;obtain⟨V4,cG⟩:∃ V,(X3.alloc (Ez b0 b1 b2 b3 b4 81)).alloc (Dz 0 a0 46)=V:=⟨_,rfl⟩
 obtain⟨gb,bG⟩:∃ g,X3.heap.size=g:=⟨_,rfl⟩
 rw[cG,bG] at cV y0 z0 z1;rw[bG] at bU;rw[cG] at lI;obtain⟨x0,x1,x2,x3⟩:=Q5 lI;clear y1 y2 y3 y4 y5 z1 z2 z3 kH lI;go_wp2_with fail;(try rw[cG]);(try rw[bG]);clear cG bG z0 x0 x1 x2 x3;refine(z3u xk xn _).mono ?_;rintro e X5 ⟨rfl,q5⟩;have o5:=W8 q5;rw[hv];have y0':=o5.cell y0 Oz;have bJ:=Q3 (aI.out.trans (cV.out.2.2.1.trans o5));have HH5:=Q3 (And.intro (o5.heap cV.out.1 Oz) (And.intro (o5.heap cV.out.2.1 Oz) (o5.heap cV.out.2.2.2.1 Oz)));clear q5 o5 y0 cV;go_wp2_with fail;refine(G5 33 _).mono ?_;rintro e X7 ⟨rfl,q7⟩;have fF7:=q7.heap HH5.out.2.2 Oz;obtain⟨c0,c1,c2,c3⟩:=flt_facts fF7;have f2:=J5 (x':=33) (y':=0) fF7;have o2:=(Out.refl (gv+2) (gv+3) X7).set2 (b:=gv+2) (o:=0) (o':=1) Lz (Iz 33) (Iz 0);have HE:=Q3 (And.intro f2 ((bJ.out.trans q7).then o2 (by have:=bD.out;omega)));clear f2 o2 fF7 q7;go_wp2;exact bodyPost_ret (W6 Tryz.results25 rfl (J8 HE.out.1)) rfl ⟨rfl,HE.out.2⟩
theorem j2c (k m i xk xn:Int) {b0 b1 b2 b3 b4 a0:Int} (hWd:∀ X,Out 0 0 w X->Kz 66 #[Pq rb,Vz k m,Iz i,.bool false] X fun e w'=>e=.returned (.tuple #[Wz b0 b1 b2 b3 b4,Vz 0 a0])/\Out 0 0 X w') (hv:J2 xk xn=true) {wv:Int} (hwv:z0j xk xn=wv) {rg:Bool} (hRt:∀ X,Out 0 0 w X->Kz 68 #[Pq rb,Iz b0,Iz i,Iz wv] X fun e w'=>e=.returned (.bool rg)/\Out 0 0 X w') (hrg:rg=false):Kz 25 #[Pq rb,Vz k m,Iz i,Vz xk xn] w fun e w'=>e=.returned (Vz 33 0)/\Out 0 0 w w':=by
 subst hrg;have HRt:=Q3 hRt;clear hRt;have fV:=Q3 (V5 (w:=w) (o:=Dz k m 32) (o2:=Dz xk xn 32) (o3:=Dz 0 0 46));have fX:=Q3 (X0 (w:=w) (o:=Dz k m 32) (o2:=Dz xk xn 32) (o3:=Dz 0 0 46));have fF:=Q3 (K4 (w:=w) (o:=Dz k m 32) (o2:=Dz xk xn 32) (o3:=Dz 0 0 46));have aI:=Q3 ((((Out.refl 0 0 w).alloc (Dz k m 32)).alloc (Dz xk xn 32)).alloc (Dz 0 0 46));have iD:=Q3 hWd;obtain⟨gv,aR⟩:∃ g,w.heap.size=g:=⟨_,rfl⟩
 have bD:=Q3 aR;obtain⟨V2,aS⟩:∃ V,((w.alloc (Dz k m 32)).alloc (Dz xk xn 32)).alloc (Dz 0 0 46)=V:=⟨_,rfl⟩
 rw[aS,aR] at fV fX fF;rw[aS] at aI;obtain⟨u0,u1,u2,u3⟩:=Q5 fV.out;clear hWd;go_enter Tryz.func25,Tryz.ntmps25
 go_wp2_with fail;(try rw[aS]);(try rw[aR]);clear aS aR;refine(iD.out _ aI.out).mono ?_;rintro e X3 ⟨rfl,q3⟩;clear u0 u1 u2 u3;have eS:=J3 (w:=X3) (o:=Ez b0 b1 b2 b3 b4 81) (o2:=Dz 0 a0 46);have gJ:=J7 (w:=X3) (o:=Ez b0 b1 b2 b3 b4 81) (o2:=Dz 0 a0 46);have o4:=(q3.alloc (Ez b0 b1 b2 b3 b4 81)).alloc (Dz 0 a0 46);have kH:=o4.heap fF.out Oz;have lI:=o4.heap fX.out Oz;obtain⟨y0,y1,y2,y3,y4,y5⟩:=W7 eS;obtain⟨z0,z1,z2,z3⟩:=flt_facts gJ;have cV:=Q3 (And.intro eS (And.intro gJ (And.intro o4 (And.intro kH lI))));have bU:Hid (gv+3<=X3.heap.size):=by have h1:=Q8 fF.out;have h2:=q3.size;exact Nat.le_trans h1 h2
 clear eS gJ o4 q3;obtain⟨V4,cG⟩:∃ V,(X3.alloc (Ez b0 b1 b2 b3 b4 81)).alloc (Dz 0 a0 46)=V:=⟨_,rfl⟩
 obtain⟨gb,bG⟩:∃ g,X3.heap.size=g:=⟨_,rfl⟩
 rw[cG,bG] at cV y0 z0 z1;rw[bG] at bU;rw[cG] at lI;obtain⟨x0,x1,x2,x3⟩:=Q5 lI;clear y1 y2 y3 y4 y5 z1 z2 z3 kH lI;go_wp2_with fail;(try rw[cG]);(try rw[bG]);clear cG bG z0 x0 x1 x2 x3;refine(z3u xk xn _).mono ?_;rintro e X5 ⟨rfl,q5⟩;have o5:=W8 q5;rw[hv,hwv];have y0':=o5.cell y0 Oz;have bJ:=Q3 (aI.out.trans (cV.out.2.2.1.trans o5));have HH5:=Q3 (And.intro (o5.heap cV.out.1 Oz) (And.intro (o5.heap cV.out.2.1 Oz) (o5.heap cV.out.2.2.2.1 Oz)));clear q5 o5 y0 cV;go_wp2_with fail;refine(HRt.out _ bJ.out).mono ?_;rintro e X6 ⟨rfl,q6⟩;have dU:=Q3 (bJ.out.trans q6);have HH6:=Q3 (And.intro (q6.heap HH5.out.1 Oz) (And.intro (q6.heap HH5.out.2.1 Oz) (q6.heap HH5.out.2.2 Oz)));clear q6 y0' HH5 bJ;go_wp2_with fail;refine(G5 33 _).mono ?_;rintro e X7 ⟨rfl,q7⟩;have fF7:=q7.heap HH6.out.2.2 Oz;obtain⟨c0,c1,c2,c3⟩:=flt_facts fF7;have f2:=J5 (x':=33) (y':=0) fF7;have o2:=(Out.refl (gv+2) (gv+3) X7).set2 (b:=gv+2) (o:=0) (o':=1) Lz (Iz 33) (Iz 0);have HE:=Q3 (And.intro f2 ((dU.out.trans q7).then o2 (by have:=bD.out;omega)));clear f2 o2 fF7 q7;go_wp2;exact bodyPost_ret (W6 Tryz.results25 rfl (J8 HE.out.1)) rfl ⟨rfl,HE.out.2⟩
theorem x3m (h:RfAt w lo hi s n cw co st) (hR:cq w rb 0=some (Pq (s 0))) (hro:rb<lo\/hi<=rb) (k m i xk xn:Int) {b0 b1 b2 b3 b4 a0:Int} (hWd:∀ X,Out 0 0 w X->Kz 66 #[Pq rb,Vz k m,Iz i,.bool false] X fun e w'=>e=.returned (.tuple #[Wz b0 b1 b2 b3 b4,Vz 0 a0])/\Out 0 0 X w') (hv:J2 xk xn=true) {wv:Int} (hwv:z0j xk xn=wv) {rg:Bool} (hRt:∀ X,Out 0 0 w X->Kz 68 #[Pq rb,Iz b0,Iz i,Iz wv] X fun e w'=>e=.returned (.bool rg)/\Out 0 0 X w') (hrg:rg=true) {a:Nat} (oP:b0+i=(a:Int)) (ha:a<64*n):Kz 25 #[Pq rb,Vz k m,Iz i,Vz xk xn] w fun e w'=>e=.returned (Vz 0 a0)/\RfAt w' lo hi s n cw co { st with W:=z3a st.W a wv }/\Out lo hi w w':=by
 subst hrg;have HRt:=Q3 hRt;have Hh:=Q3 h;have HR:=Q3 (And.intro hR hro);have mD:IntKind.i64.wrap (a:Int)=(a:Int):=by rw[IntKind.wrap_i64];have:=Hh.out.n2;omega
 have Ha:=Q3 ha;obtain⟨M,hM⟩:∃ M,64*n=M:=⟨_,rfl⟩
 have a1:(a:Int)<(M:Int):=by omega
 have a0':(0:Int)<=(a:Int):=by omega
 have HMn:=Q3 hM;clear hRt h hR hro ha hM;have fV:=Q3 (V5 (w:=w) (o:=Dz k m 32) (o2:=Dz xk xn 32) (o3:=Dz 0 0 46));have fX:=Q3 (X0 (w:=w) (o:=Dz k m 32) (o2:=Dz xk xn 32) (o3:=Dz 0 0 46));have fF:=Q3 (K4 (w:=w) (o:=Dz k m 32) (o2:=Dz xk xn 32) (o3:=Dz 0 0 46));have aI:=Q3 ((((Out.refl 0 0 w).alloc (Dz k m 32)).alloc (Dz xk xn 32)).alloc (Dz 0 0 46));have iD:=Q3 hWd;obtain⟨gv,aR⟩:∃ g,w.heap.size=g:=⟨_,rfl⟩
 have bD:=Q3 aR;obtain⟨V2,aS⟩:∃ V,((w.alloc (Dz k m 32)).alloc (Dz xk xn 32)).alloc (Dz 0 0 46)=V:=⟨_,rfl⟩
 rw[aS,aR] at fV fX fF;rw[aS] at aI;obtain⟨u0,u1,u2,u3⟩:=Q5 fV.out;clear hWd;go_enter Tryz.func25,Tryz.ntmps25
 go_wp2_with fail;(try rw[aS]);(try rw[aR]);clear aS aR;refine(iD.out _ aI.out).mono ?_;rintro e X3 ⟨rfl,q3⟩;clear u0 u1 u2 u3;have eS:=J3 (w:=X3) (o:=Ez b0 b1 b2 b3 b4 81) (o2:=Dz 0 a0 46);have gJ:=J7 (w:=X3) (o:=Ez b0 b1 b2 b3 b4 81) (o2:=Dz 0 a0 46);have o4:=(q3.alloc (Ez b0 b1 b2 b3 b4 81)).alloc (Dz 0 a0 46);have kH:=o4.heap fF.out Oz;have lI:=o4.heap fX.out Oz;obtain⟨y0,y1,y2,y3,y4,y5⟩:=W7 eS;obtain⟨z0,z1,z2,z3⟩:=flt_facts gJ;have cV:=Q3 (And.intro eS (And.intro gJ (And.intro o4 (And.intro kH lI))));have bU:Hid (gv+3<=X3.heap.size):=by have h1:=Q8 fF.out;have h2:=q3.size;exact Nat.le_trans h1 h2
 clear eS gJ o4 q3;obtain⟨V4,cG⟩:∃ V,(X3.alloc (Ez b0 b1 b2 b3 b4 81)).alloc (Dz 0 a0 46)=V:=⟨_,rfl⟩
 obtain⟨gb,bG⟩:∃ g,X3.heap.size=g:=⟨_,rfl⟩
 rw[cG,bG] at cV y0 z0 z1;rw[bG] at bU;rw[cG] at lI;obtain⟨x0,x1,x2,x3⟩:=Q5 lI;clear y1 y2 y3 y4 y5 z1 z2 z3 kH lI;go_wp2_with fail;(try rw[cG]);(try rw[bG]);clear cG bG z0 x0 x1 x2 x3;refine(z3u xk xn _).mono ?_;rintro e X5 ⟨rfl,q5⟩;have o5:=W8 q5;rw[hv,hwv];have y0':=o5.cell y0 Oz;have bJ:=Q3 (aI.out.trans (cV.out.2.2.1.trans o5));have HH5:=Q3 (And.intro (o5.heap cV.out.1 Oz) (And.intro (o5.heap cV.out.2.1 Oz) (o5.heap cV.out.2.2.2.1 Oz)));clear q5 o5 y0 cV;go_wp2_with fail;refine(HRt.out _ bJ.out).mono ?_;rintro e X6 ⟨rfl,q6⟩;have dU:=Q3 (bJ.out.trans q6);have HH6:=Q3 (And.intro (q6.heap HH5.out.1 Oz) (And.intro (q6.heap HH5.out.2.1 Oz) (q6.heap HH5.out.2.2 Oz)));clear q6 y0' HH5 bJ;have fM:=Q3 (Hh.out.quiet dU.out);have c1:=fM.out.cells.1;rw[HMn.out] at c1;have c2:=dU.out.cell HR.out.1 Oz;obtain⟨y0,_,_,_,_,_⟩:=W7 HH6.out.1;go_wp2_with fail;refine wp_region_held_drew (S:=fun w'=>cq w' rb 0=some (Pq (s 0))/\cq w' (s 0) 0=some (.slice (some ⟨s 1,0,none⟩) M cw)/\cq w' gb 0=some (Iz b0)) (by kernel_rfl) ?hS61 (fun aB=>?rest61)
 case hS61=>exact⟨c2,c1,y0⟩
 obtain⟨Q0,hZ⟩:∃ Z,X6.drew=Z:=⟨_,rfl⟩
 have OQ:Out 0 0 X6 Q0:=by rw[<-hZ];exact(Out.refl 0 0 _).drew
 rw[hZ] at aB ⊢;clear hZ;refine tk 0 ?_;refine tk 1 ?_;refine tk 2 ?_;refine tk 3 ?_;refine tk 4 ?_;refine tk 5 ?_;refine tk 6 ?_;refine tk 7 ?_;refine tk 8 ?_;refine tk 9 ?_;refine tk 10 ?_;refine tk 11 ?_;refine tk 12 ?_;refine rd1 13 fun KK hK=>?_
 simp only[xa,xb,xc];have hrf:=fM.out.quiet OQ;have c5:=hrf.rw.cell (i:=a) Ha.out;have c6:=hrf.rw.frozen a;go_simp;clear c5 c6;obtain⟨hS1,o8⟩:=hrf.setW Ha.out wv;obtain⟨Q1,hY⟩:∃ V,Q0.setCell ⟨s 1,a,none⟩ (Iz wv)=V:=⟨_,rfl⟩
 rw[hY] at hS1 o8 ⊢;clear hY hrf;have mG:=Q3 hS1;have hgbh:hi<=gv:=by have h1:=Hh.out.top;have h2:=bD.out;omega
 have HFe:=Q3 (o8.heap (OQ.heap HH6.out.2.1 Oz) (.inr (by have:=bU.out;omega)));have HFr:=Q3 (o8.heap (OQ.heap HH6.out.2.2 Oz) (.inr (by omega)));have iH:=Q3 (((dU.out.trans OQ).any lo hi).trans o8);have c9:=hS1.cells.1;rw[HMn.out] at c9;clear hS1;refine hK.out _ _ ⟨o8.cell aB.1 HR.out.2,c9,o8.cell aB.2.2 (.inr (by have:=bU.out;omega))⟩ fun aB=>?_
 clear o8 c9 hK KK;refine dn ?_;clear aB OQ;have f2:=J5 (x':=0) (y':=a0) HFr.out;have o2:=(Out.refl (gv+2) (gv+3) Q1).set2 (b:=gv+2) (o:=0) (o':=1) Lz (Iz 0) (Iz a0);obtain⟨z0,z1,z2,z3⟩:=flt_facts HFe.out;obtain⟨v0,v1,v2,v3⟩:=flt_facts HFr.out;have HE:=Q3 (And.intro f2 (And.intro (mG.out.kept o2 (.inl (by omega))) (iH.out.then o2 (by have:=bD.out;omega))));clear f2 o2;go_wp2;exact bodyPost_ret (W6 Tryz.results25 rfl (J8 HE.out.1)) rfl ⟨rfl,HE.out.2.1,HE.out.2.2⟩
end
theorem z8d {g:Nat} {x y:Int} {w:World} (hg:w.heap[g]? = some (.cells #[.int .i64 x,.int .i64 y] 46 (0,0))) :
  CallsD Tryz.prog 69 #[.pointer (some ⟨g,0,none⟩)] .returning w fun e u' w'=>e=.returned (.tuple #[])/\u'=.returning/\w'.heap[g]? = some (.cells #[.int .i64 0,.int .i64 0] 46 (0,0))/\Out g (g+1) w w':=by
 refine callsD_of_wpS Tryz.func69 rfl fun c₀ cs hu=>?_
 apply wpS_region;simp[wpOpsS,go_sem,recoverD,hu,Tryz.ntmps69,Exit.thenS];refine(z2d w).mono ?_;rintro e w1 ⟨rfl,o1⟩;have h1:=o1.heap hg z0;obtain⟨a1,a2,a3,a4⟩:=flt_facts h1;have h2:=J5 (x':=0) (y':=0) h1;have h3:=(o1.any g (g+1)).trans (z1x w1 g (.int .i64 0) (.int .i64 0));have c2:(w1.setCell ⟨g,0,none⟩ (.int .i64 0)).cell? ⟨g,1,none⟩=some (.int .i64 y):=by simp[World.cell?,World.setCell,Array.getElem?_modify,h1]
 have c3:(w1.setCell ⟨g,0,none⟩ (.int .i64 0)).frozen? ⟨g,1,none⟩=false:=by simp[World.frozen?,World.setCell,Array.getElem?_modify,h1]
 simp[go_sem,storeCells,a1,a2,a3,a4,c2,c3,bodyPostS,results,Tryz.results69];cases c₀;simp_all
theorem z4a {g:Nat} {x y e a:Int} {older:List PanicEntry} {w:World} (hg:w.heap[g]? = some (.cells #[.int .i64 x,.int .i64 y] 46 (0,0))) :
  CallsD Tryz.prog 69 #[.pointer (some ⟨g,0,none⟩)] (.panicking (z0u e a :: older)) w fun e' u' w'=>e'=.returned (.tuple #[])/\u'=.panicking ({ v:=.iface 162 (.agg #[.int .i64 e,.int .i64 a]),recovered:=true } :: older)/\w'.heap[g]? = some (.cells #[.int .i64 e,.int .i64 a] 46 (0,0))/\Out g (g+1) w w':=by
 refine callsD_of_wpS Tryz.func69 rfl fun c₀ cs hu=>?_
 apply wpS_region;unfold z0u at hu;simp[wpOpsS,go_sem,recoverD,hu,Tryz.ntmps69,Exit.thenS];refine(z1i e a w).mono ?_;rintro e' w1 ⟨rfl,o1⟩;have h1:=o1.heap hg z0;obtain⟨a1,a2,a3,a4⟩:=flt_facts h1;have h2:=J5 (x':=e) (y':=a) h1;have h3:=(o1.any g (g+1)).trans (z1x w1 g (.int .i64 e) (.int .i64 a));have c2:(w1.setCell ⟨g,0,none⟩ (.int .i64 e)).cell? ⟨g,1,none⟩=some (.int .i64 y):=by simp[World.cell?,World.setCell,Array.getElem?_modify,h1]
 have c3:(w1.setCell ⟨g,0,none⟩ (.int .i64 e)).frozen? ⟨g,1,none⟩=false:=by simp[World.frozen?,World.setCell,Array.getElem?_modify,h1]
 simp[go_sem,storeCells,a1,a2,a3,a4,c2,c3,bodyPostS,results,Tryz.results69];exact⟨h2,h3⟩
section
variable {w:World} {lo hi hb:Nat} {s:Nat->Nat} {n cap:Nat} {r:Raw}
theorem x1g (hr:RawAt w lo hi s n cap r) (hA:U6 n r) (hH:cq w hb 0=some (Pq (s 14))) (k m i:Int) (dX:opE r k m ≠ 0):Kz 70 #[Pq hb,Vz k m,Iz i] w fun e w'=>e=.panicked [z0u (opE r k m) (opA r k m)]/\Out 0 0 w w':=by
 have fV:=Q3 (heap_alloc_new w (Dz k m 32));have aI:=Q3 ((Out.refl 0 0 w).alloc (Dz k m 32));obtain⟨u0,u1,u2,u3⟩:=Q5 fV.out;have Hr:=Q3 (hr.quiet aI.out);have HA:=Q3 hA;have HH:=Q3 (aI.out.cell hH z0);clear hr hA hH;go_enter Tryz.func70,Tryz.ntmps70
 go_wp2_with fail;refine(q3e Hr.out HA.out HH.out k m dX).mono ?_;rintro e X3 ⟨rfl,q3⟩;exact⟨rfl,rfl,aI.out.trans q3⟩
theorem j7a (hr:RawAt w lo hi s n cap r) (hA:U6 n r) (hH:cq w hb 0=some (Pq (s 14))) (k m i:Int) {t1 t2 t3 t4:Int} (hM:r.M m=some (t1,t2,t3,t4)) (dX:opE r k m=0) (hT:n<=4096) (hf:J9 t1 t2 i ≠ 1):Kz 70 #[Pq hb,Vz k m,Iz i] w fun e w'=>e=.panicked [z0u 32 0]/\Out 0 0 w w':=by
 have hf2:(J9 t1 t2 i == 1)=false:=by simpa using hf
 clear hf;have fV:=Q3 (heap_alloc_new w (Dz k m 32));have aI:=Q3 ((Out.refl 0 0 w).alloc (Dz k m 32));obtain⟨u0,u1,u2,u3⟩:=Q5 fV.out;have Hr:=Q3 (hr.quiet aI.out);have HA:=Q3 hA;have HH:=Q3 (aI.out.cell hH z0);clear hr hA hH;go_enter Tryz.func70,Tryz.ntmps70
 go_wp2_with fail;obtain⟨a1,a2,a3,a4,h1,h2⟩:=z1n Hr.out HA.out HH.out k m dX;rw[hM] at h1;simp only[Option.some.injEq,Prod.mk.injEq] at h1;obtain⟨rfl,rfl,rfl,rfl⟩:=h1;refine h2.mono ?_;rintro e X3 ⟨rfl,q3⟩;have hs:=HA.out m _ hM;have Hs:Hid (0<=m/\m+t2<=64*n/\1<=t2/\t2<=1024/\n<=4096):=⟨hs.1,hs.2.1,hs.2.2.1,hs.2.2.2,hT⟩
 have f4:=heap_alloc_new X3 (Ez m t1 t2 t3 t4 81);have o4:=q3.alloc (Ez m t1 t2 t3 t4 81);obtain⟨y0,y1,y2,y3,y4,y5⟩:=W7 f4;have HT4:=Q3 (Hr.out.quiet o4).tab;have iN:=Q3 (And.intro f4 (aI.out.trans o4));clear h2 hM dX hT hs q3 f4 o4 u0 u1 u2 u3;go_wp2_with fail;refine(z3i t1 t2 i HT4.out (by have:=Hs.out;omega) (by have:=Hs.out;omega)).mono ?_;rintro e X5 ⟨rfl,he⟩;rw[he];clear he X5;generalize J9 t1 t2 i=aN at *
 go_wp2_with fail;refine(z2z _ _).mono ?_;rintro e X7 ⟨rfl,he⟩;rw[he];exact⟨rfl,rfl,iN.out.2⟩
theorem x5f (hr:RawAt w lo hi s n cap r) (hA:U6 n r) (hH:cq w hb 0=some (Pq (s 14))) (k m i:Int) {t1 t2 t3 t4:Int} (hM:r.M m=some (t1,t2,t3,t4)) (dX:opE r k m=0) (hT:n<=4096) (hf:J9 t1 t2 i=1):Kz 70 #[Pq hb,Vz k m,Iz i] w fun e w'=>e=.returned (Iz (m+i))/\Out 0 0 w w':=by
 have fV:=Q3 (heap_alloc_new w (Dz k m 32));have aI:=Q3 ((Out.refl 0 0 w).alloc (Dz k m 32));obtain⟨u0,u1,u2,u3⟩:=Q5 fV.out;have Hr:=Q3 (hr.quiet aI.out);have HA:=Q3 hA;have HH:=Q3 (aI.out.cell hH z0);clear hr hA hH;go_enter Tryz.func70,Tryz.ntmps70
 go_wp2_with fail;obtain⟨a1,a2,a3,a4,h1,h2⟩:=z1n Hr.out HA.out HH.out k m dX;rw[hM] at h1;simp only[Option.some.injEq,Prod.mk.injEq] at h1;obtain⟨rfl,rfl,rfl,rfl⟩:=h1;refine h2.mono ?_;rintro e X3 ⟨rfl,q3⟩;have hs:=HA.out m _ hM;have Hs:Hid (0<=m/\m+t2<=64*n/\1<=t2/\t2<=1024/\n<=4096):=⟨hs.1,hs.2.1,hs.2.2.1,hs.2.2.2,hT⟩
 have f4:=heap_alloc_new X3 (Ez m t1 t2 t3 t4 81);have o4:=q3.alloc (Ez m t1 t2 t3 t4 81);obtain⟨y0,y1,y2,y3,y4,y5⟩:=W7 f4;have HT4:=Q3 (Hr.out.quiet o4).tab;have iN:=Q3 (And.intro f4 (aI.out.trans o4));clear h2 hM dX hT hs q3 f4 o4 u0 u1 u2 u3;go_wp2_with fail;refine(z3i t1 t2 i HT4.out (by have:=Hs.out;omega) (by have:=Hs.out;omega)).mono ?_;rintro e X5 ⟨rfl,he⟩;rw[he];clear he X5;have oP:1<=i/\i<t2:=by
  unfold J9 at hf;by_cases c:F4 t1 t2=true/\1<=i/\i<t2
  ·exact c.2
  ·rw[if_neg c] at hf;exact absurd hf (by decide)
 have mD:IntKind.i64.wrap (m+i)=m+i:=by have:=Hs.out;rw[IntKind.wrap_i64];omega
 rw[hf];clear hf oP;go_wp2_with fail;refine(z0o _ _).mono ?_;rintro e X7 ⟨rfl,he⟩;rw[he];clear he X7;go_wp2;go_ret;exact⟨rfl,iN.out.2⟩
theorem q6x (hr:RawAt w lo hi s n cap r) (hA:U6 n r) (hH:cq w hb 0=some (Pq (s 14))) (k m i x:Int) (dX:opE r k m ≠ 0):Kz 26 #[Pq hb,Vz k m,Iz i,Iz x] w fun e w'=>e=.returned (Vz (opE r k m) (opA r k m))/\Out 0 0 w w':=by
 have pM:∀ (fn:Fn) (first cap:Array Value) (w:World),(Instr.makeFunc fn first cap).run Tryz.prog w=.ok (.func fn first cap) w:=fun _ _ _ _=>rfl
 have fV:=Q3 (J3 (w:=w) (o:=Dz k m 32) (o2:=Dz 0 0 46));have fF:=Q3 (J7 (w:=w) (o:=Dz k m 32) (o2:=Dz 0 0 46));have aI:=Q3 (((Out.refl 0 0 w).alloc (Dz k m 32)).alloc (Dz 0 0 46));have Hr:=Q3 hr;have HA:=Q3 hA;obtain⟨gv,aR⟩:∃ g,w.heap.size=g:=⟨_,rfl⟩
 have bD:=Q3 aR;obtain⟨V2,aS⟩:∃ V,(w.alloc (Dz k m 32)).alloc (Dz 0 0 46)=V:=⟨_,rfl⟩
 rw[aS,aR] at fV fF;rw[aS] at aI;have jT:=Q3 (aI.out.cell hH z0);obtain⟨u0,u1,u2,u3⟩:=Q5 fV.out;clear hH hr hA;have mM:=Q3 dX;clear dX;have HRw:Hid (∀ V,Out 0 0 V2 V->Kz 70 #[Pq hb,Vz k m,Iz i] V fun e w'=>e=.panicked [z0u (opE r k m) (opA r k m)]/\Out 0 0 V w'):=fun V o=>x1g (Hr.out.quiet (aI.out.trans o)) HA.out (o.cell jT.out z0) k m i mM.out
 go_enter_defers Tryz.func26,Tryz.ntmps26
 go_wp2_with fail;(try rw[aS]);(try rw[aR]);clear aS aR;refine(U3 _ _).mono ?_;rintro e w5 ⟨rfl,he⟩;rw[he];clear he w5;have y6:=jT.out;go_wp2_with fail;refine wp_region_held_drew (S:=fun w'=>cq w' hb 0=some (Pq (s 14))/\cq w' gv 0=some (Iz k)/\cq w' gv 1=some (Iz m)) (by kernel_rfl) ?hS61 (fun aB=>?rest61)
 case hS61=>exact⟨y6,u0,u1⟩
 obtain⟨Z0,hZ⟩:∃ Z,V2.drew=Z:=⟨_,rfl⟩
 have O:Out 0 0 V2 Z0:=by rw[<-hZ];exact(Out.refl 0 0 _).drew
 rw[hZ] at aB ⊢;clear hZ;refine wpAnyH_take (i:=0) (v:=?v62) rfl (by kernel_rfl) (by kernel_rfl) (by kernel_rfl) (fun _ _ _ h=>Q6 (J6 Tryz.results26 (by decide) _ _) _ _ _ h) (Or.inl ⟨by rfl,?hy62⟩) (by assumption) ?rest62
 case hy62=>(intro w aW;(try dsimp only at aW);simp only[xa,xb,xc];go_simp;(try with_reducible rfl))
 (try simp only[Act.put,xa,xb,xc,xd,xe,xf]);refine wpAnyH_take (i:=1) (v:=?v63) rfl (by kernel_rfl) (by kernel_rfl) (by kernel_rfl) (fun _ _ _ h=>Q6 (J6 Tryz.results26 (by decide) _ _) _ _ _ h) (Or.inl ⟨by rfl,?hy63⟩) (by assumption) ?rest63
 case hy63=>(intro w aW;(try dsimp only at aW);simp only[xa,xb,xc];go_simp;(try with_reducible rfl))
 (try simp only[Act.put,xa,xb,xc,xd,xe,xf]);refine wpAnyH_take (i:=2) (v:=?v64) rfl (by kernel_rfl) (by kernel_rfl) (by kernel_rfl) (fun _ _ _ h=>Q6 (J6 Tryz.results26 (by decide) _ _) _ _ _ h) (Or.inl ⟨by rfl,?hy64⟩) (by assumption) ?rest64
 case hy64=>(intro w aW;(try dsimp only at aW);simp only[xa,xb,xc];go_simp;(try with_reducible rfl))
 (try simp only[Act.put,xa,xb,xc,xd,xe,xf]);refine wpAnyH_take (i:=3) (v:=?v65) rfl (by kernel_rfl) (by kernel_rfl) (by kernel_rfl) (fun _ _ _ h=>Q6 (J6 Tryz.results26 (by decide) _ _) _ _ _ h) (Or.inl ⟨by rfl,?hy65⟩) (by assumption) ?rest65
 case hy65=>(intro w aW;(try dsimp only at aW);simp only[xa,xb,xc];go_simp;(try with_reducible rfl))
 (try simp only[Act.put,xa,xb,xc,xd,xe,xf]);refine wpAnyH_take (i:=4) (v:=?v66) rfl (by kernel_rfl) (by kernel_rfl) (by kernel_rfl) (fun _ _ _ h=>Q6 (J6 Tryz.results26 (by decide) _ _) _ _ _ h) (Or.inl ⟨by rfl,?hy66⟩) (by assumption) ?rest66
 case hy66=>(intro w aW;(try dsimp only at aW);simp only[xa,xb,xc];go_simp;(try with_reducible rfl))
 (try simp only[Act.put,xa,xb,xc,xd,xe,xf]);refine wpAnyH_take (i:=5) (v:=?v67) rfl (by kernel_rfl) (by kernel_rfl) (by kernel_rfl) (fun _ _ _ h=>Q6 (J6 Tryz.results26 (by decide) _ _) _ _ _ h) (Or.inl ⟨by rfl,?hy67⟩) (by assumption) ?rest67
 case hy67=>(intro w aW;(try dsimp only at aW);simp only[xa,xb,xc];go_simp;(try with_reducible rfl))
 (try simp only[Act.put,xa,xb,xc,xd,xe,xf]);refine wpAnyH_take (i:=6) (v:=?v68) rfl (by kernel_rfl) (by kernel_rfl) (by kernel_rfl) (fun _ _ _ h=>Q6 (J6 Tryz.results26 (by decide) _ _) _ _ _ h) (Or.inl ⟨by rfl,?hy68⟩) (by assumption) ?rest68
 case hy68=>(intro w aW;(try dsimp only at aW);simp only[xa,xb,xc];go_simp;(try with_reducible rfl))
 (try simp only[Act.put,xa,xb,xc,xd,xe,xf]);refine wpAnyH_take (i:=8) (v:=?v69) rfl (by kernel_rfl) (by kernel_rfl) (by kernel_rfl) (fun _ _ _ h=>Q6 (J6 Tryz.results26 (by decide) _ _) _ _ _ h) (Or.inl ⟨by rfl,?hy69⟩) (by assumption) ?rest69
 case hy69=>(intro w aW;(try dsimp only at aW);simp only[xa,xb,xc];go_simp;(try with_reducible rfl))
 refine rd1 7 fun KK hK=>?_
 simp only[xa,xb,xc];go_simp;refine(HRw.out _ O).mono ?_;rintro e X3 ⟨rfl,q3⟩;simp;refine leaves_cons (f:=69) (args:=#[.pointer (some ⟨gv+1,0,none⟩)]) (by simp) (by simp[go_sem]) ?_;refine(z4a ((O.trans q3).heap fF.out z0)).mono ?_;rintro e u' w9 ⟨rfl,rfl,f9,q9⟩;exact U0 (W6 Tryz.results26 rfl (J8 f9)) ⟨rfl,(aI.out.trans (O.trans q3)).trans' q9 (by have:=bD.out;omega)⟩
theorem q4d (hr:RawAt w lo hi s n cap r) (hA:U6 n r) (hH:cq w hb 0=some (Pq (s 14))) (k m i x:Int) {t1 t2 t3 t4:Int} (hM:r.M m=some (t1,t2,t3,t4)) (dX:opE r k m=0) (hf:J9 t1 t2 i ≠ 1):Kz 26 #[Pq hb,Vz k m,Iz i,Iz x] w fun e w'=>e=.returned (Vz 32 0)/\Out 0 0 w w':=by
 have pM:∀ (fn:Fn) (first cap:Array Value) (w:World),(Instr.makeFunc fn first cap).run Tryz.prog w=.ok (.func fn first cap) w:=fun _ _ _ _=>rfl
 have fV:=Q3 (J3 (w:=w) (o:=Dz k m 32) (o2:=Dz 0 0 46));have fF:=Q3 (J7 (w:=w) (o:=Dz k m 32) (o2:=Dz 0 0 46));have aI:=Q3 (((Out.refl 0 0 w).alloc (Dz k m 32)).alloc (Dz 0 0 46));have Hr:=Q3 hr;have HA:=Q3 hA;obtain⟨gv,aR⟩:∃ g,w.heap.size=g:=⟨_,rfl⟩
 have bD:=Q3 aR;obtain⟨V2,aS⟩:∃ V,(w.alloc (Dz k m 32)).alloc (Dz 0 0 46)=V:=⟨_,rfl⟩
 rw[aS,aR] at fV fF;rw[aS] at aI;have jT:=Q3 (aI.out.cell hH z0);obtain⟨u0,u1,u2,u3⟩:=Q5 fV.out;clear hH hr hA;have mM:=Q3 dX;have HM:=Q3 hM;have Hf:=Q3 hf;clear dX hM hf;have HRw:Hid (∀ V,Out 0 0 V2 V->Kz 70 #[Pq hb,Vz k m,Iz i] V fun e w'=>e=.panicked [z0u 32 0]/\Out 0 0 V w'):=fun V o=>j7a (Hr.out.quiet (aI.out.trans o)) HA.out (o.cell jT.out z0) k m i HM.out mM.out Hr.out.n2 Hf.out
 go_enter_defers Tryz.func26,Tryz.ntmps26
 go_wp2_with fail;(try rw[aS]);(try rw[aR]);clear aS aR;refine(U3 _ _).mono ?_;rintro e w5 ⟨rfl,he⟩;rw[he];clear he w5;have y6:=jT.out;go_wp2_with fail;refine wp_region_held_drew (S:=fun w'=>cq w' hb 0=some (Pq (s 14))/\cq w' gv 0=some (Iz k)/\cq w' gv 1=some (Iz m)) (by kernel_rfl) ?hS72 (fun aB=>?rest72)
 case hS72=>exact⟨y6,u0,u1⟩
 obtain⟨Z0,hZ⟩:∃ Z,V2.drew=Z:=⟨_,rfl⟩
 have O:Out 0 0 V2 Z0:=by rw[<-hZ];exact(Out.refl 0 0 _).drew
 rw[hZ] at aB ⊢;clear hZ;refine wpAnyH_take (i:=0) (v:=?v73) rfl (by kernel_rfl) (by kernel_rfl) (by kernel_rfl) (fun _ _ _ h=>Q6 (J6 Tryz.results26 (by decide) _ _) _ _ _ h) (Or.inl ⟨by rfl,?hy73⟩) (by assumption) ?rest73
 case hy73=>(intro w aW;(try dsimp only at aW);simp only[xa,xb,xc];go_simp;(try with_reducible rfl))
 (try simp only[Act.put,xa,xb,xc,xd,xe,xf]);refine wpAnyH_take (i:=1) (v:=?v74) rfl (by kernel_rfl) (by kernel_rfl) (by kernel_rfl) (fun _ _ _ h=>Q6 (J6 Tryz.results26 (by decide) _ _) _ _ _ h) (Or.inl ⟨by rfl,?hy74⟩) (by assumption) ?rest74
 case hy74=>(intro w aW;(try dsimp only at aW);simp only[xa,xb,xc];go_simp;(try with_reducible rfl))
 (try simp only[Act.put,xa,xb,xc,xd,xe,xf]);refine wpAnyH_take (i:=2) (v:=?v75) rfl (by kernel_rfl) (by kernel_rfl) (by kernel_rfl) (fun _ _ _ h=>Q6 (J6 Tryz.results26 (by decide) _ _) _ _ _ h) (Or.inl ⟨by rfl,?hy75⟩) (by assumption) ?rest75
 case hy75=>(intro w aW;(try dsimp only at aW);simp only[xa,xb,xc];go_simp;(try with_reducible rfl))
 (try simp only[Act.put,xa,xb,xc,xd,xe,xf]);refine wpAnyH_take (i:=3) (v:=?v76) rfl (by kernel_rfl) (by kernel_rfl) (by kernel_rfl) (fun _ _ _ h=>Q6 (J6 Tryz.results26 (by decide) _ _) _ _ _ h) (Or.inl ⟨by rfl,?hy76⟩) (by assumption) ?rest76
 case hy76=>(intro w aW;(try dsimp only at aW);simp only[xa,xb,xc];go_simp;(try with_reducible rfl))
 (try simp only[Act.put,xa,xb,xc,xd,xe,xf]);refine wpAnyH_take (i:=4) (v:=?v77) rfl (by kernel_rfl) (by kernel_rfl) (by kernel_rfl) (fun _ _ _ h=>Q6 (J6 Tryz.results26 (by decide) _ _) _ _ _ h) (Or.inl ⟨by rfl,?hy77⟩) (by assumption) ?rest77
 case hy77=>(intro w aW;(try dsimp only at aW);simp only[xa,xb,xc];go_simp;(try with_reducible rfl))
 (try simp only[Act.put,xa,xb,xc,xd,xe,xf]);refine wpAnyH_take (i:=5) (v:=?v78) rfl (by kernel_rfl) (by kernel_rfl) (by kernel_rfl) (fun _ _ _ h=>Q6 (J6 Tryz.results26 (by decide) _ _) _ _ _ h) (Or.inl ⟨by rfl,?hy78⟩) (by assumption) ?rest78
 case hy78=>(intro w aW;(try dsimp only at aW);simp only[xa,xb,xc];go_simp;(try with_reducible rfl))
 (try simp only[Act.put,xa,xb,xc,xd,xe,xf]);refine wpAnyH_take (i:=6) (v:=?v79) rfl (by kernel_rfl) (by kernel_rfl) (by kernel_rfl) (fun _ _ _ h=>Q6 (J6 Tryz.results26 (by decide) _ _) _ _ _ h) (Or.inl ⟨by rfl,?hy79⟩) (by assumption) ?rest79
 case hy79=>(intro w aW;(try dsimp only at aW);simp only[xa,xb,xc];go_simp;(try with_reducible rfl))
 (try simp only[Act.put,xa,xb,xc,xd,xe,xf]);refine wpAnyH_take (i:=8) (v:=?v80) rfl (by kernel_rfl) (by kernel_rfl) (by kernel_rfl) (fun _ _ _ h=>Q6 (J6 Tryz.results26 (by decide) _ _) _ _ _ h) (Or.inl ⟨by rfl,?hy80⟩) (by assumption) ?rest80
 case hy80=>(intro w aW;(try dsimp only at aW);simp only[xa,xb,xc];go_simp;(try with_reducible rfl))
 refine rd1 7 fun KK hK=>?_
 simp only[xa,xb,xc];go_simp;refine(HRw.out _ O).mono ?_;rintro e X3 ⟨rfl,q3⟩;simp;refine leaves_cons (f:=69) (args:=#[.pointer (some ⟨gv+1,0,none⟩)]) (by simp) (by simp[go_sem]) ?_;refine(z4a ((O.trans q3).heap fF.out z0)).mono ?_;rintro e u' w9 ⟨rfl,rfl,f9,q9⟩;exact U0 (W6 Tryz.results26 rfl (J8 f9)) ⟨rfl,(aI.out.trans (O.trans q3)).trans' q9 (by have:=bD.out;omega)⟩
theorem j1p (hr:RawAt w lo hi s n cap r) (hA:U6 n r) (hH:cq w hb 0=some (Pq (s 14))) (k m i x:Int) {t1 t2 t3 t4:Int} (hM:r.M m=some (t1,t2,t3,t4)) (dX:opE r k m=0) (hf:J9 t1 t2 i=1) (hout:hb<lo\/hi<=hb):Kz 26 #[Pq hb,Vz k m,Iz i,Iz x] w fun e w'=>e=.returned (Vz 0 0)/\RawAt w' lo hi s n cap { r with W:=F8 n r.W (m+i) x }/\Out lo hi w w':=by
 have pM:∀ (fn:Fn) (first cap:Array Value) (w:World),(Instr.makeFunc fn first cap).run Tryz.prog w=.ok (.func fn first cap) w:=fun _ _ _ _=>rfl
 have fV:=Q3 (J3 (w:=w) (o:=Dz k m 32) (o2:=Dz 0 0 46));have fF:=Q3 (J7 (w:=w) (o:=Dz k m 32) (o2:=Dz 0 0 46));have aI:=Q3 (((Out.refl 0 0 w).alloc (Dz k m 32)).alloc (Dz 0 0 46));have Hr:=Q3 hr;have HA:=Q3 hA;obtain⟨gv,aR⟩:∃ g,w.heap.size=g:=⟨_,rfl⟩
 have bD:=Q3 aR;obtain⟨V2,aS⟩:∃ V,(w.alloc (Dz k m 32)).alloc (Dz 0 0 46)=V:=⟨_,rfl⟩
 rw[aS,aR] at fV fF;rw[aS] at aI;have jT:=Q3 (aI.out.cell hH z0);obtain⟨u0,u1,u2,u3⟩:=Q5 fV.out;clear hH hr hA;have mM:=Q3 dX;have HM:=Q3 hM;have Hf:=Q3 hf;clear dX hM hf;have fK:=Q3 hout;clear hout;have HRw:Hid (∀ V,Out 0 0 V2 V->Kz 70 #[Pq hb,Vz k m,Iz i] V fun e w'=>e=.returned (Iz (m+i))/\Out 0 0 V w'):=fun V o=>x5f (Hr.out.quiet (aI.out.trans o)) HA.out (o.cell jT.out z0) k m i HM.out mM.out Hr.out.n2 Hf.out
 go_enter_defers Tryz.func26,Tryz.ntmps26
 go_wp2_with fail;(try rw[aS]);(try rw[aR]);clear aS aR;refine(U3 _ _).mono ?_;rintro e w5 ⟨rfl,he⟩;rw[he];clear he w5;have y6:=jT.out;go_wp2_with fail;refine wp_region_held_drew (S:=fun w'=>cq w' hb 0=some (Pq (s 14))/\cq w' gv 0=some (Iz k)/\cq w' gv 1=some (Iz m)) (by kernel_rfl) ?hS83 (fun aB=>?rest83)
 case hS83=>exact⟨y6,u0,u1⟩
 obtain⟨Z0,hZ⟩:∃ Z,V2.drew=Z:=⟨_,rfl⟩
 have O:Out 0 0 V2 Z0:=by rw[<-hZ];exact(Out.refl 0 0 _).drew
 rw[hZ] at aB ⊢;clear hZ;refine wpAnyH_take (i:=0) (v:=?v84) rfl (by kernel_rfl) (by kernel_rfl) (by kernel_rfl) (fun _ _ _ h=>Q6 (J6 Tryz.results26 (by decide) _ _) _ _ _ h) (Or.inl ⟨by rfl,?hy84⟩) (by assumption) ?rest84
 case hy84=>(intro w aW;(try dsimp only at aW);simp only[xa,xb,xc];go_simp;(try with_reducible rfl))
 (try simp only[Act.put,xa,xb,xc,xd,xe,xf]);refine wpAnyH_take (i:=1) (v:=?v85) rfl (by kernel_rfl) (by kernel_rfl) (by kernel_rfl) (fun _ _ _ h=>Q6 (J6 Tryz.results26 (by decide) _ _) _ _ _ h) (Or.inl ⟨by rfl,?hy85⟩) (by assumption) ?rest85
 case hy85=>(intro w aW;(try dsimp only at aW);simp only[xa,xb,xc];go_simp;(try with_reducible rfl))
 (try simp only[Act.put,xa,xb,xc,xd,xe,xf]);refine wpAnyH_take (i:=2) (v:=?v86) rfl (by kernel_rfl) (by kernel_rfl) (by kernel_rfl) (fun _ _ _ h=>Q6 (J6 Tryz.results26 (by decide) _ _) _ _ _ h) (Or.inl ⟨by rfl,?hy86⟩) (by assumption) ?rest86
 case hy86=>(intro w aW;(try dsimp only at aW);simp only[xa,xb,xc];go_simp;(try with_reducible rfl))
 (try simp only[Act.put,xa,xb,xc,xd,xe,xf]);refine wpAnyH_take (i:=3) (v:=?v87) rfl (by kernel_rfl) (by kernel_rfl) (by kernel_rfl) (fun _ _ _ h=>Q6 (J6 Tryz.results26 (by decide) _ _) _ _ _ h) (Or.inl ⟨by rfl,?hy87⟩) (by assumption) ?rest87
 case hy87=>(intro w aW;(try dsimp only at aW);simp only[xa,xb,xc];go_simp;(try with_reducible rfl))
 (try simp only[Act.put,xa,xb,xc,xd,xe,xf]);refine wpAnyH_take (i:=4) (v:=?v88) rfl (by kernel_rfl) (by kernel_rfl) (by kernel_rfl) (fun _ _ _ h=>Q6 (J6 Tryz.results26 (by decide) _ _) _ _ _ h) (Or.inl ⟨by rfl,?hy88⟩) (by assumption) ?rest88
 case hy88=>(intro w aW;(try dsimp only at aW);simp only[xa,xb,xc];go_simp;(try with_reducible rfl))
 (try simp only[Act.put,xa,xb,xc,xd,xe,xf]);refine wpAnyH_take (i:=5) (v:=?v89) rfl (by kernel_rfl) (by kernel_rfl) (by kernel_rfl) (fun _ _ _ h=>Q6 (J6 Tryz.results26 (by decide) _ _) _ _ _ h) (Or.inl ⟨by rfl,?hy89⟩) (by assumption) ?rest89
 case hy89=>(intro w aW;(try dsimp only at aW);simp only[xa,xb,xc];go_simp;(try with_reducible rfl))
 (try simp only[Act.put,xa,xb,xc,xd,xe,xf]);refine wpAnyH_take (i:=6) (v:=?v90) rfl (by kernel_rfl) (by kernel_rfl) (by kernel_rfl) (fun _ _ _ h=>Q6 (J6 Tryz.results26 (by decide) _ _) _ _ _ h) (Or.inl ⟨by rfl,?hy90⟩) (by assumption) ?rest90
 case hy90=>(intro w aW;(try dsimp only at aW);simp only[xa,xb,xc];go_simp;(try with_reducible rfl))
 (try simp only[Act.put,xa,xb,xc,xd,xe,xf]);refine wpAnyH_take (i:=8) (v:=?v91) rfl (by kernel_rfl) (by kernel_rfl) (by kernel_rfl) (fun _ _ _ h=>Q6 (J6 Tryz.results26 (by decide) _ _) _ _ _ h) (Or.inl ⟨by rfl,?hy91⟩) (by assumption) ?rest91
 case hy91=>(intro w aW;(try dsimp only at aW);simp only[xa,xb,xc];go_simp;(try with_reducible rfl))
 refine rd1 7 fun KK hK=>?_
 simp only[xa,xb,xc];go_simp;refine(HRw.out _ O).mono ?_;rintro e X3 ⟨rfl,q3⟩;refine hK.out _ _ ⟨q3.cell aB.1 z0,q3.cell aB.2.1 z0,q3.cell aB.2.2 z0⟩ fun aC=>?_
 have O3:=O.trans q3;clear q3 hK KK;replace aB:=aC;clear aC;refine rd1 9 fun KK hK=>?_
 simp only[xa,xb,xc];go_simp;refine(q3i (Hr.out.quiet (aI.out.trans O3)) (m+i) x).mono ?_;rintro e X9 ⟨rfl,P9,q9⟩;refine hK.out _ _ ⟨q9.cell aB.1 fK.out,q9.cell aB.2.1 (.inr (by have h1:=Hr.out.top;have h2:=bD.out;omega)),q9.cell aB.2.2 (.inr (by have h1:=Hr.out.top;have h2:=bD.out;omega))⟩ fun aB=>?_
 clear hK KK;refine dn ?_;have HP9:=Q3 P9;have HQ9:=Q3 (((aI.out.trans O3).any lo hi).trans q9);have iI:=Q3 (q9.heap (O3.heap fF.out z0) (.inr (by have h1:=Hr.out.top;have h2:=bD.out;omega)));obtain⟨b0,b1,b2,b3⟩:=flt_facts iI.out;clear aB P9 q9 O O3;go_wp2;have o10:=(Out.refl (gv+1) (gv+2) X9).set2 (b:=gv+1) (o:=0) (o':=1) z1 (Iz 0) (Iz 0);refine leaves_cons (f:=69) (args:=#[.pointer (some ⟨gv+1,0,none⟩)]) (by simp) (by simp[go_sem]) ?_;refine(z8d (J5 (x':=0) (y':=0) iI.out)).mono ?_;rintro e u' w9 ⟨rfl,rfl,f9,q9⟩;have hd:hi<=gv+1:=by have h1:=Hr.out.top;have h2:=bD.out;omega
 have hn:4<=gv+1:=by have h1:=Hr.out.top;have h2:=bD.out;have h3:=Hr.out.glob;have h4:=Hr.out.inn 0 (by omega);omega
 exact U0 (W6 Tryz.results26 rfl (J8 f9)) ⟨rfl,(HP9.out.kept o10 (.inl hd) (.inl hn)).kept q9 (.inl hd) (.inl hn),(HQ9.out.then o10 (by have:=bD.out;omega)).then q9 (by have:=bD.out;omega)⟩
end
def seQ (n:Nat) (st:Sp) (k m i xk xn:Int):Int × Int × Sp:=
 if opE (J0 n st) k m ≠ 0 then (opE (J0 n st) k m,opA (J0 n st) k m,st) else
 match (J0 n st).M m with
 | none=>(0,0,st)
 | some b=>if G3 (J9 b.1 b.2.1 i)=false then (32,0,st) else if J2 xk xn=false then (33,0,st) else if rgB (J0 n st) m b (J9 b.1 b.2.1 i) (xn*8+(xk-1))=false then (33,0,st) else (0,0,z1y st (F8 n st.W (m+i) (xn*8+(xk-1))))
def srQ (n:Nat) (st:Sp) (k m i x:Int):Int × Int × Sp:=
 if opE (J0 n st) k m ≠ 0 then (opE (J0 n st) k m,opA (J0 n st) k m,st) else
 match (J0 n st).M m with
 | none=>(0,0,st)
 | some b=>if J9 b.1 b.2.1 i=1 then (0,0,z1y st (F8 n st.W (m+i) x)) else (32,0,st)
theorem z3o {n:Nat} {st:Sp} {k m:Int} (h:opE (J0 n st) k m=0):k=2/\∃ b,(J0 n st).M m=some b/\z6u (J0 n st) m=0/\z5m (J0 n st) m=0:=by
 unfold opE at h;by_cases c:k=2/\(J0 n st).M m ≠ none
 ·rw[if_pos c] at h;refine⟨c.1,?_⟩;cases hM:(J0 n st).M m with
  | none=>exact absurd hM c.2
  | some b=>
   refine⟨b,rfl,h,?_⟩;unfold z6u at h;unfold z5m;rw[hM] at h ⊢;simp only[] at h ⊢;by_cases d:(J0 n st).W m.toNat=F0 m b.1 b.2.1
   ·rw[if_pos d]
   ·rw[if_neg d] at h;exact absurd h (by decide)
 ·rw[if_neg c] at h;exact absurd h (by decide)
section
variable {w:World} {lo hi hb n cap:Nat} {s:Nat->Nat} {st:Sp}
theorem q3g (h:SpAt w lo hi s n cap st) (hH:w.cell? ⟨hb,0,none⟩=some (.pointer (some ⟨s 14,0,none⟩))) (hout:hb<lo\/hi<=hb) (k m i xk xn:Int) {e0 a0:Int} {st':Sp} (hq:seQ n st k m i xk xn=(e0,a0,st')):Calls Tryz.prog 17 #[.pointer (some ⟨hb,0,none⟩),.agg #[.int .i64 k,.int .i64 m],.int .i64 i,.agg #[.int .i64 xk,.int .i64 xn]] w fun e w'=>e=.returned (.agg #[.int .i64 e0,.int .i64 a0])/\SpAt w' lo hi s n cap st'/\Out lo hi w w':=by
 unfold seQ at hq;by_cases ho:opE (J0 n st) k m ≠ 0
 ·rw[if_pos ho] at hq;cases hq;exact(j8v h.1 (H7 h.2) hH k m i xk xn ho).mono fun e w' ⟨e1,e2⟩=>⟨e1,h.quiet e2,e2.any lo hi⟩
 ·rw[if_neg ho] at hq;have eK:opE (J0 n st) k m=0:=by omega
  obtain⟨hk,b,hM,_,_⟩:=z3o eK;rw[hM] at hq;obtain⟨t1,t2,t3,t4⟩:=b;dsimp only at hq;cases hf:G3 (J9 t1 t2 i)
  ·rw[hf,if_pos rfl] at hq;cases hq;exact(j3t h.1 (H7 h.2) hH k m i xk xn hM eK hf).mono fun e w' ⟨e1,e2⟩=>⟨e1,h.quiet e2,e2.any lo hi⟩
  ·rw[hf,if_neg (by simp)] at hq;cases hx:J2 xk xn
   ·rw[hx,if_pos rfl] at hq;cases hq;exact(q6y h.1 (H7 h.2) hH k m i xk xn hM eK hf hx).mono fun e w' ⟨e1,e2⟩=>⟨e1,h.quiet e2,e2.any lo hi⟩
   ·rw[hx,if_neg (by simp)] at hq;cases hg:rgB (J0 n st) m (t1,t2,t3,t4) (J9 t1 t2 i) (xn*8+(xk-1))
    ·rw[hg,if_pos rfl] at hq;cases hq;exact(j3u h.1 (H7 h.2) hH k m i xk xn hM eK hf hx hg).mono fun e w' ⟨e1,e2⟩=>⟨e1,h.quiet e2,e2.any lo hi⟩
    ·rw[hg,if_neg (by simp)] at hq;cases hq;exact q9v h hH hout k m i xk xn hM eK hf hx hg
theorem z5q (h:SpAt w lo hi s n cap st) (hH:w.cell? ⟨hb,0,none⟩=some (.pointer (some ⟨s 14,0,none⟩))) (hout:hb<lo\/hi<=hb) (k m i x:Int) {e0 a0:Int} {st':Sp} (hq:srQ n st k m i x=(e0,a0,st')):Calls Tryz.prog 26 #[.pointer (some ⟨hb,0,none⟩),.agg #[.int .i64 k,.int .i64 m],.int .i64 i,.int .i64 x] w fun e w'=>e=.returned (.agg #[.int .i64 e0,.int .i64 a0])/\SpAt w' lo hi s n cap st'/\Out lo hi w w':=by
 unfold srQ at hq;by_cases ho:opE (J0 n st) k m ≠ 0
 ·rw[if_pos ho] at hq;cases hq;exact(q6x h.1 (H7 h.2) hH k m i x ho).mono fun e w' ⟨e1,e2⟩=>⟨e1,h.quiet e2,e2.any lo hi⟩
 ·rw[if_neg ho] at hq;have eK:opE (J0 n st) k m=0:=by omega
  obtain⟨hk,b,hM,_,_⟩:=z3o eK;rw[hM] at hq;obtain⟨t1,t2,t3,t4⟩:=b;dsimp only at hq;by_cases hf:J9 t1 t2 i=1
  ·rw[if_pos hf] at hq;cases hq;exact(j1p h.1 (H7 h.2) hH k m i x hM eK hf hout).mono fun e w' ⟨e1,e2,e3⟩=>⟨e1,⟨e2,j1k h.2 _⟩,e3⟩
  ·rw[if_neg hf] at hq;cases hq;exact(q4d h.1 (H7 h.2) hH k m i x hM eK hf).mono fun e w' ⟨e1,e2⟩=>⟨e1,h.quiet e2,e2.any lo hi⟩
end
end Go.Proofs.YtjgnogflgoihfaaGreatDoor
