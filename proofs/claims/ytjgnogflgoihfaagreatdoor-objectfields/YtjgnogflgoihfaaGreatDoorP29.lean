import Derived.Test.YtjgnogflgoihfaaGreatDoorP28
set_option linter.unusedSimpArgs false
set_option linter.unusedVariables false
set_option maxHeartbeats 16000000
set_option maxRecDepth 100000
namespace Go.Proofs.YtjgnogflgoihfaaGreatDoor
open Go.RowKit
theorem x7n {k z i:Int}:J6 k z i=0\/J6 k z i=1\/(2<=J6 k z i/\J6 k z i<=5)\/J6 k z i=6\/J6 k z i=7\/J6 k z i=8\/J6 k z i=9:=by
 unfold J6;split
 ·unfold z3t q0m;repeat' split
  all_goals omega
 ·left;rfl
theorem j6r {k z i:Int} (h:J6 k z i=9):k=12\/k=13:=by
 unfold J6 at h;split at h
 ·unfold z3t q0m at h;repeat' split at h
  all_goals simp_all
 ·omega
theorem j5p {v:Int}:(v == 2)=(v % 8+1 == 3 && v / 8 == 0):=by
 rw[Bool.eq_iff_iff];simp;omega
section
variable {w:World} {lo hi rb cw co n:Nat} {s:Nat->Nat} {st:Sp}
theorem q0j (h:RfAt w lo hi s n cw co st) (hI:Inv n st) (hR:w.cell? ⟨rb,0,none⟩=some (.pointer (some ⟨s 0,0,none⟩))) (a i v:Int) (v1:-9223372036854775808<=v) (v2:v<=9223372036854775807):Calls Tryz.prog 68 #[.pointer (some ⟨rb,0,none⟩),.int .i64 a,.int .i64 i,.int .i64 v] w fun e w'=>e=.returned (.bool (j0c (Q6 n st) a i v))/\Out 0 0 w w':=by
 unfold j0c;cases hM:(Q6 n st).M a with
 | none=>exact q6o hR a i v (fun X o=>z5a (h.quiet o) hM) (by omega) (by omega) rfl rfl
 | some b=>
  obtain⟨t1,t2,t3,t4⟩:=b;have cM:=fun X (o:Out 0 0 w X)=>z1w (h.quiet o) hI hM
  have nO:=G6 hI a _ hM;dsimp only at nO ⊢;have s1:-9223372036854775808<=t2:=by omega
  have s2:t2<=9223372036854775807:=by omega
  obtain⟨aK,aX⟩:∃ r,J6 t1 t2 i=r:=⟨_,rfl⟩
  have hrs:=x7n (k:=t1) (z:=t2) (i:=i);have h12:=j6r (k:=t1) (z:=t2) (i:=i);rw[aX] at hrs h12 ⊢;obtain⟨kx,fJ⟩:∃ k,v % 8+1=k:=⟨_,rfl⟩
  obtain⟨nx,dC⟩:∃ k,v / 8=k:=⟨_,rfl⟩
  unfold rgB;by_cases r01:aK=0\/aK=1
  ·rw[if_pos r01];rcases r01 with r0 | r0
   ·rw[show (aK == 1)=false from by rw[r0];rfl];exact q6p hR a i v cM s1 s2 aX rfl r0
   ·rw[show (aK == 1)=true from by rw[r0];rfl];exact j1d hR a i v cM s1 s2 aX rfl r0
  ·rw[if_neg r01,fJ,dC];cases hv:Q8 kx nx
   ·rw[if_neg (by simp)];exact j1c hR a i v cM s1 s2 aX rfl (by omega) v1 v2 fJ dC hv
   ·rw[if_pos rfl];have hblk:∃ d0 d1 d2 d3 d4 ok,(∀ X,Out 0 0 w X->Calls Tryz.prog 123 #[.pointer (some ⟨s 0,0,none⟩),.int .i64 nx] X fun e w'=>e=.returned (.tuple #[.agg #[.int .i64 d0,.int .i64 d1,.int .i64 d2,.int .i64 d3,.int .i64 d4],.bool ok])/\Out 0 0 X w')/\((ok=false/\(Q6 n st).M nx=none)\/(ok=true/\d0=nx/\(Q6 n st).M nx=some (d1,d2,d3,d4))):=by
     cases hx:(Q6 n st).M nx with
     | none=>exact⟨0,0,0,0,0,false,fun X o=>z5a (h.quiet o) hx,.inl ⟨rfl,rfl⟩⟩
     | some t=>
      obtain⟨d1,d2,d3,d4⟩:=t;exact⟨nx,d1,d2,d3,d4,true,fun X o=>z1w (h.quiet o) hI hx,.inr ⟨rfl,rfl,rfl⟩⟩
    obtain⟨d0,d1,d2,d3,d4,ok,iT,hMx⟩:=hblk;by_cases r5:aK<=5
    ·have oL:z2v aK=true:=by
      unfold z2v;have:aK=2\/aK=3\/aK=4\/aK=5:=by omega
      rcases this with e | e | e | e <;> rw[e] <;> rfl
     by_cases k2:kx=2
     ·rw[if_pos k2];rcases hMx with ⟨e1,e2⟩ | ⟨e1,e2,e3⟩
      ·rw[e2];exact z3v hR a i v cM s1 s2 aX rfl (by omega) v1 v2 fJ dC hv r5 (fun X o=>q6m (o.cell hR z0) kx nx hv (fun Y o2=>iT Y (o.trans o2)) k2 e1)
      ·rw[e3];have hl:z8y a (t1,t2,t3,t4) aK nx (d1,d2,d3,d4)=x7u d1:=by
        unfold z8y;rw[if_neg (by omega),if_neg (by omega),if_neg (by omega),if_neg (by omega)]
       dsimp only;rw[hl];exact z3v hR a i v cM s1 s2 aX rfl (by omega) v1 v2 fJ dC hv r5 (fun X o=>q3i (o.cell hR z0) kx nx hv (fun Y o2=>iT Y (o.trans o2)) k2 e1)
     ·rw[if_neg k2,oL,Bool.true_or];exact z3v hR a i v cM s1 s2 aX rfl (by omega) v1 v2 fJ dC hv r5 (fun X o=>q3h (o.cell hR z0) kx nx hv (fun Y o2=>iT Y (o.trans o2)) k2)
    ·have oL:z2v aK=false:=by
      unfold z2v;simp;omega
     by_cases k2:kx=2
     ·rw[if_pos k2];rcases hMx with ⟨e1,e2⟩ | ⟨e1,e2,e3⟩
      ·rw[e2];have hq:=q6n hR a i v cM s1 s2 aX rfl (by omega) v1 v2 fJ dC hv iT k2 e1;rw[show (v == 2)=false from by simp;omega] at hq;exact hq
      ·rw[e3];dsimp only;have hr:aK=6\/aK=7\/aK=8\/aK=9:=by omega
       unfold z8y;rcases hr with r | r | r | r
       ·rw[if_pos r];exact j3w hR a i v cM s1 s2 aX rfl r v1 v2 fJ dC hv iT k2 e1
       ·rw[if_neg (by omega),if_pos r];exact j3x hR a i v cM s1 s2 aX rfl r v1 v2 fJ dC hv iT k2 e1
       ·rw[if_neg (by omega),if_neg (by omega),if_pos r];exact j3y hR a i v cM s1 s2 aX rfl r v1 v2 fJ dC hv iT k2 e1
       ·rw[if_neg (by omega),if_neg (by omega),if_neg (by omega),if_pos r];have hq:=j3z hR a i v cM s1 s2 aX rfl r v1 v2 fJ dC hv iT k2 e1;have ha:z5e a t1 nx=(t1 == 12 || decide (a<d0)):=by
         unfold z5e;rw[e2];rcases h12 r with e | e <;> rw[e] <;> rfl
        dsimp only;rw[ha];exact hq
     ·rw[if_neg k2,oL,Bool.false_or];have hq:=q1r hR a i v cM s1 s2 aX rfl (by omega) v1 v2 fJ dC hv iT k2;rw[j5p,fJ,dC] at hq;exact hq
end
section
variable {w:World} {lo hi rb cw co n:Nat} {s:Nat->Nat} {st:Sp}
theorem q0k (k m i xk xn:Int) {b0 b1 b2 b3 b4 e0 a0:Int} (hWd:∀ X,Out 0 0 w X->Kz 66 #[Pq rb,Vz k m,Iz i,.bool false] X fun e w'=>e=.returned (.tuple #[Wz b0 b1 b2 b3 b4,Vz e0 a0])/\Out 0 0 X w') (he:e0 ≠ 0):Kz 25 #[Pq rb,Vz k m,Iz i,Vz xk xn] w fun e w'=>e=.returned (Vz e0 a0)/\Out 0 0 w w':=by
 have oQ:(e0 != 0)=true:=by simpa using he
 clear he;have fV:=Q3 (J8 (w:=w) (o:=Dz k m 32) (o2:=Dz xk xn 32) (o3:=Dz 0 0 46));have fX:=Q3 (J7 (w:=w) (o:=Dz k m 32) (o2:=Dz xk xn 32) (o3:=Dz 0 0 46));have fF:=Q3 (J9 (w:=w) (o:=Dz k m 32) (o2:=Dz xk xn 32) (o3:=Dz 0 0 46));have aH:=Q3 ((((Out.refl 0 0 w).alloc (Dz k m 32)).alloc (Dz xk xn 32)).alloc (Dz 0 0 46));have jG:=Q3 hWd;obtain⟨gv,aN⟩:∃ g,w.heap.size=g:=⟨_,rfl⟩
 have aW:=Q3 aN;obtain⟨V2,aQ⟩:∃ V,((w.alloc (Dz k m 32)).alloc (Dz xk xn 32)).alloc (Dz 0 0 46)=V:=⟨_,rfl⟩
 rw[aQ,aN] at fV fX fF;rw[aQ] at aH;obtain⟨u0,u1,u2,u3⟩:=Q5 fV.out;clear hWd;go_enter Tryz.func25,Tryz.ntmps25
 go_wp2_with fail;(try rw[aQ]);(try rw[aN]);clear aQ aN;refine(jG.out _ aH.out).mono ?_;rintro e X3 ⟨rfl,q3⟩;clear u0 u1 u2 u3;have dE:=J0 (w:=X3) (o:=Ez b0 b1 b2 b3 b4 81) (o2:=Dz e0 a0 46);have eG:=J4 (w:=X3) (o:=Ez b0 b1 b2 b3 b4 81) (o2:=Dz e0 a0 46);have o4:=(q3.alloc (Ez b0 b1 b2 b3 b4 81)).alloc (Dz e0 a0 46);have iU:=o4.heap fF.out Oz;have jU:=o4.heap fX.out Oz;obtain⟨y0,y1,y2,y3,y4,y5⟩:=K7 dE;obtain⟨z0,z1,z2,z3⟩:=flt_facts eG;have bY:=Q3 (And.intro dE (And.intro eG (And.intro o4 (And.intro iU jU))));have bK:Hid (gv+3<=X3.heap.size):=by have h1:=Q7 fF.out;have h2:=q3.size;exact Nat.le_trans h1 h2
 clear dE eG o4 q3;obtain⟨c0,c1,c2,c3⟩:=flt_facts iU;have f2:=J3 (x':=e0) (y':=a0) iU;have o2:=(Out.refl (gv+2) (gv+3) ((X3.alloc (Ez b0 b1 b2 b3 b4 81)).alloc (Dz e0 a0 46))).set2 (b:=gv+2) (o:=0) (o':=1) Lz (Iz e0) (Iz a0);have HE:=Q3 (And.intro f2 ((aH.out.trans bY.out.2.2.1).then o2 (by have:=aW.out;omega)));clear f2 o2 iU jU;go_wp2;exact bodyPost_ret (K5 Tryz.results25 rfl (J5 HE.out.1)) rfl ⟨rfl,HE.out.2⟩
theorem q3j (k m i xk xn:Int) {b0 b1 b2 b3 b4 a0:Int} (hWd:∀ X,Out 0 0 w X->Kz 66 #[Pq rb,Vz k m,Iz i,.bool false] X fun e w'=>e=.returned (.tuple #[Wz b0 b1 b2 b3 b4,Vz 0 a0])/\Out 0 0 X w') (hv:Q8 xk xn=false):Kz 25 #[Pq rb,Vz k m,Iz i,Vz xk xn] w fun e w'=>e=.returned (Vz 33 0)/\Out 0 0 w w':=by
 have fV:=Q3 (J8 (w:=w) (o:=Dz k m 32) (o2:=Dz xk xn 32) (o3:=Dz 0 0 46));have fX:=Q3 (J7 (w:=w) (o:=Dz k m 32) (o2:=Dz xk xn 32) (o3:=Dz 0 0 46));have fF:=Q3 (J9 (w:=w) (o:=Dz k m 32) (o2:=Dz xk xn 32) (o3:=Dz 0 0 46));have aH:=Q3 ((((Out.refl 0 0 w).alloc (Dz k m 32)).alloc (Dz xk xn 32)).alloc (Dz 0 0 46));have jG:=Q3 hWd;obtain⟨gv,aN⟩:∃ g,w.heap.size=g:=⟨_,rfl⟩
 have aW:=Q3 aN;obtain⟨V2,aQ⟩:∃ V,((w.alloc (Dz k m 32)).alloc (Dz xk xn 32)).alloc (Dz 0 0 46)=V:=⟨_,rfl⟩
 rw[aQ,aN] at fV fX fF;rw[aQ] at aH;obtain⟨u0,u1,u2,u3⟩:=Q5 fV.out;clear hWd;go_enter Tryz.func25,Tryz.ntmps25
 go_wp2_with fail;(try rw[aQ]);(try rw[aN]);clear aQ aN;refine(jG.out _ aH.out).mono ?_;rintro e X3 ⟨rfl,q3⟩;clear u0 u1 u2 u3;have dE:=J0 (w:=X3) (o:=Ez b0 b1 b2 b3 b4 81) (o2:=Dz 0 a0 46);have eG:=J4 (w:=X3) (o:=Ez b0 b1 b2 b3 b4 81) (o2:=Dz 0 a0 46);have o4:=(q3.alloc (Ez b0 b1 b2 b3 b4 81)).alloc (Dz 0 a0 46);have iU:=o4.heap fF.out Oz;have jU:=o4.heap fX.out Oz;obtain⟨y0,y1,y2,y3,y4,y5⟩:=K7 dE;obtain⟨z0,z1,z2,z3⟩:=flt_facts eG;have bY:=Q3 (And.intro dE (And.intro eG (And.intro o4 (And.intro iU jU))));have bK:Hid (gv+3<=X3.heap.size):=by have h1:=Q7 fF.out;have h2:=q3.size;exact Nat.le_trans h1 h2
 clear dE eG o4 q3;obtain⟨V4,bV⟩:∃ V,(X3.alloc (Ez b0 b1 b2 b3 b4 81)).alloc (Dz 0 a0 46)=V:=⟨_,rfl⟩
 obtain⟨gb,bD⟩:∃ g,X3.heap.size=g:=⟨_,rfl⟩
 rw[bV,bD] at bY y0 z0 z1;rw[bD] at bK;rw[bV] at jU;obtain⟨x0,x1,x2,x3⟩:=Q5 jU;clear y1 y2 y3 y4 y5 z1 z2 z3 iU jU;go_wp2_with fail;(try rw[bV]);(try rw[bD]);clear bV bD z0 x0 x1 x2 x3;refine(z3l xk xn _).mono ?_;rintro e X5 ⟨rfl,q5⟩;have o5:=K8 q5;rw[hv];have y0':=o5.cell y0 Oz;have bL:=Q3 (aH.out.trans (bY.out.2.2.1.trans o5));have HH5:=Q3 (And.intro (o5.heap bY.out.1 Oz) (And.intro (o5.heap bY.out.2.1 Oz) (o5.heap bY.out.2.2.2.1 Oz)));clear q5 o5 y0 bY;go_wp2_with fail;refine(G0 33 _).mono ?_;rintro e X7 ⟨rfl,q7⟩;have fF7:=q7.heap HH5.out.2.2 Oz;obtain⟨c0,c1,c2,c3⟩:=flt_facts fF7;have f2:=J3 (x':=33) (y':=0) fF7;have o2:=(Out.refl (gv+2) (gv+3) X7).set2 (b:=gv+2) (o:=0) (o':=1) Lz (Iz 33) (Iz 0);have HE:=Q3 (And.intro f2 ((bL.out.trans q7).then o2 (by have:=aW.out;omega)));clear f2 o2 fF7 q7;go_wp2;exact bodyPost_ret (K5 Tryz.results25 rfl (J5 HE.out.1)) rfl ⟨rfl,HE.out.2⟩
theorem j1f (k m i xk xn:Int) {b0 b1 b2 b3 b4 a0:Int} (hWd:∀ X,Out 0 0 w X->Kz 66 #[Pq rb,Vz k m,Iz i,.bool false] X fun e w'=>e=.returned (.tuple #[Wz b0 b1 b2 b3 b4,Vz 0 a0])/\Out 0 0 X w') (hv:Q8 xk xn=true) {wv:Int} (hwv:z0g xk xn=wv) {rg:Bool} (hRt:∀ X,Out 0 0 w X->Kz 68 #[Pq rb,Iz b0,Iz i,Iz wv] X fun e w'=>e=.returned (.bool rg)/\Out 0 0 X w') (hrg:rg=false):Kz 25 #[Pq rb,Vz k m,Iz i,Vz xk xn] w fun e w'=>e=.returned (Vz 33 0)/\Out 0 0 w w':=by
 subst hrg;have HRt:=Q3 hRt;clear hRt;have fV:=Q3 (J8 (w:=w) (o:=Dz k m 32) (o2:=Dz xk xn 32) (o3:=Dz 0 0 46));have fX:=Q3 (J7 (w:=w) (o:=Dz k m 32) (o2:=Dz xk xn 32) (o3:=Dz 0 0 46));have fF:=Q3 (J9 (w:=w) (o:=Dz k m 32) (o2:=Dz xk xn 32) (o3:=Dz 0 0 46));have aH:=Q3 ((((Out.refl 0 0 w).alloc (Dz k m 32)).alloc (Dz xk xn 32)).alloc (Dz 0 0 46));have jG:=Q3 hWd;obtain⟨gv,aN⟩:∃ g,w.heap.size=g:=⟨_,rfl⟩
 have aW:=Q3 aN;obtain⟨V2,aQ⟩:∃ V,((w.alloc (Dz k m 32)).alloc (Dz xk xn 32)).alloc (Dz 0 0 46)=V:=⟨_,rfl⟩
 rw[aQ,aN] at fV fX fF;rw[aQ] at aH;obtain⟨u0,u1,u2,u3⟩:=Q5 fV.out;clear hWd;go_enter Tryz.func25,Tryz.ntmps25
 go_wp2_with fail;(try rw[aQ]);(try rw[aN]);clear aQ aN;refine(jG.out _ aH.out).mono ?_;rintro e X3 ⟨rfl,q3⟩;clear u0 u1 u2 u3;have dE:=J0 (w:=X3) (o:=Ez b0 b1 b2 b3 b4 81) (o2:=Dz 0 a0 46);have eG:=J4 (w:=X3) (o:=Ez b0 b1 b2 b3 b4 81) (o2:=Dz 0 a0 46);have o4:=(q3.alloc (Ez b0 b1 b2 b3 b4 81)).alloc (Dz 0 a0 46);have iU:=o4.heap fF.out Oz;have jU:=o4.heap fX.out Oz;obtain⟨y0,y1,y2,y3,y4,y5⟩:=K7 dE;obtain⟨z0,z1,z2,z3⟩:=flt_facts eG;have bY:=Q3 (And.intro dE (And.intro eG (And.intro o4 (And.intro iU jU))));have bK:Hid (gv+3<=X3.heap.size):=by have h1:=Q7 fF.out;have h2:=q3.size;exact Nat.le_trans h1 h2
 clear dE eG o4 q3;obtain⟨V4,bV⟩:∃ V,(X3.alloc (Ez b0 b1 b2 b3 b4 81)).alloc (Dz 0 a0 46)=V:=⟨_,rfl⟩
 obtain⟨gb,bD⟩:∃ g,X3.heap.size=g:=⟨_,rfl⟩
 rw[bV,bD] at bY y0 z0 z1;rw[bD] at bK;rw[bV] at jU;obtain⟨x0,x1,x2,x3⟩:=Q5 jU;clear y1 y2 y3 y4 y5 z1 z2 z3 iU jU;go_wp2_with fail;(try rw[bV]);(try rw[bD]);clear bV bD z0 x0 x1 x2 x3;refine(z3l xk xn _).mono ?_;rintro e X5 ⟨rfl,q5⟩;have o5:=K8 q5;rw[hv,hwv];have y0':=o5.cell y0 Oz;have bL:=Q3 (aH.out.trans (bY.out.2.2.1.trans o5));have HH5:=Q3 (And.intro (o5.heap bY.out.1 Oz) (And.intro (o5.heap bY.out.2.1 Oz) (o5.heap bY.out.2.2.2.1 Oz)));clear q5 o5 y0 bY;go_wp2_with fail;refine(HRt.out _ bL.out).mono ?_;rintro e X6 ⟨rfl,q6⟩;have cJ:=Q3 (bL.out.trans q6);have HH6:=Q3 (And.intro (q6.heap HH5.out.1 Oz) (And.intro (q6.heap HH5.out.2.1 Oz) (q6.heap HH5.out.2.2 Oz)));clear q6 y0' HH5 bL;go_wp2_with fail;refine(G0 33 _).mono ?_;rintro e X7 ⟨rfl,q7⟩;have fF7:=q7.heap HH6.out.2.2 Oz;obtain⟨c0,c1,c2,c3⟩:=flt_facts fF7;have f2:=J3 (x':=33) (y':=0) fF7;have o2:=(Out.refl (gv+2) (gv+3) X7).set2 (b:=gv+2) (o:=0) (o':=1) Lz (Iz 33) (Iz 0);have HE:=Q3 (And.intro f2 ((cJ.out.trans q7).then o2 (by have:=aW.out;omega)));clear f2 o2 fF7 q7;go_wp2;exact bodyPost_ret (K5 Tryz.results25 rfl (J5 HE.out.1)) rfl ⟨rfl,HE.out.2⟩
theorem x3a (h:RfAt w lo hi s n cw co st) (hR:cq w rb 0=some (Pq (s 0))) (hro:rb<lo\/hi<=rb) (k m i xk xn:Int) {b0 b1 b2 b3 b4 a0:Int} (hWd:∀ X,Out 0 0 w X->Kz 66 #[Pq rb,Vz k m,Iz i,.bool false] X fun e w'=>e=.returned (.tuple #[Wz b0 b1 b2 b3 b4,Vz 0 a0])/\Out 0 0 X w') (hv:Q8 xk xn=true) {wv:Int} (hwv:z0g xk xn=wv) {rg:Bool} (hRt:∀ X,Out 0 0 w X->Kz 68 #[Pq rb,Iz b0,Iz i,Iz wv] X fun e w'=>e=.returned (.bool rg)/\Out 0 0 X w') (hrg:rg=true) {a:Nat} (mR:b0+i=(a:Int)) (ha:a<64*n):Kz 25 #[Pq rb,Vz k m,Iz i,Vz xk xn] w fun e w'=>e=.returned (Vz 0 a0)/\RfAt w' lo hi s n cw co { st with W:=z2p st.W a wv }/\Out lo hi w w':=by
 subst hrg;have HRt:=Q3 hRt;have Hh:=Q3 h;have HR:=Q3 (And.intro hR hro);have kO:IntKind.i64.wrap (a:Int)=(a:Int):=by rw[IntKind.wrap_i64];have:=Hh.out.n2;omega
 have Ha:=Q3 ha;obtain⟨M,hM⟩:∃ M,64*n=M:=⟨_,rfl⟩
 have a1:(a:Int)<(M:Int):=by omega
 have a0':(0:Int)<=(a:Int):=by omega
 have HMn:=Q3 hM;clear hRt h hR hro ha hM;have fV:=Q3 (J8 (w:=w) (o:=Dz k m 32) (o2:=Dz xk xn 32) (o3:=Dz 0 0 46));have fX:=Q3 (J7 (w:=w) (o:=Dz k m 32) (o2:=Dz xk xn 32) (o3:=Dz 0 0 46));have fF:=Q3 (J9 (w:=w) (o:=Dz k m 32) (o2:=Dz xk xn 32) (o3:=Dz 0 0 46));have aH:=Q3 ((((Out.refl 0 0 w).alloc (Dz k m 32)).alloc (Dz xk xn 32)).alloc (Dz 0 0 46));have jG:=Q3 hWd;obtain⟨gv,aN⟩:∃ g,w.heap.size=g:=⟨_,rfl⟩
 have aW:=Q3 aN;obtain⟨V2,aQ⟩:∃ V,((w.alloc (Dz k m 32)).alloc (Dz xk xn 32)).alloc (Dz 0 0 46)=V:=⟨_,rfl⟩
 rw[aQ,aN] at fV fX fF;rw[aQ] at aH;obtain⟨u0,u1,u2,u3⟩:=Q5 fV.out;clear hWd;go_enter Tryz.func25,Tryz.ntmps25
 go_wp2_with fail;(try rw[aQ]);(try rw[aN]);clear aQ aN;refine(jG.out _ aH.out).mono ?_;rintro e X3 ⟨rfl,q3⟩;clear u0 u1 u2 u3;have dE:=J0 (w:=X3) (o:=Ez b0 b1 b2 b3 b4 81) (o2:=Dz 0 a0 46);have eG:=J4 (w:=X3) (o:=Ez b0 b1 b2 b3 b4 81) (o2:=Dz 0 a0 46);have o4:=(q3.alloc (Ez b0 b1 b2 b3 b4 81)).alloc (Dz 0 a0 46);have iU:=o4.heap fF.out Oz;have jU:=o4.heap fX.out Oz;obtain⟨y0,y1,y2,y3,y4,y5⟩:=K7 dE;obtain⟨z0,z1,z2,z3⟩:=flt_facts eG;have bY:=Q3 (And.intro dE (And.intro eG (And.intro o4 (And.intro iU jU))));have bK:Hid (gv+3<=X3.heap.size):=by have h1:=Q7 fF.out;have h2:=q3.size;exact Nat.le_trans h1 h2
 clear dE eG o4 q3;obtain⟨V4,bV⟩:∃ V,(X3.alloc (Ez b0 b1 b2 b3 b4 81)).alloc (Dz 0 a0 46)=V:=⟨_,rfl⟩
 obtain⟨gb,bD⟩:∃ g,X3.heap.size=g:=⟨_,rfl⟩
 rw[bV,bD] at bY y0 z0 z1;rw[bD] at bK;rw[bV] at jU;obtain⟨x0,x1,x2,x3⟩:=Q5 jU;clear y1 y2 y3 y4 y5 z1 z2 z3 iU jU;go_wp2_with fail;(try rw[bV]);(try rw[bD]);clear bV bD z0 x0 x1 x2 x3;refine(z3l xk xn _).mono ?_;rintro e X5 ⟨rfl,q5⟩;have o5:=K8 q5;rw[hv,hwv];have y0':=o5.cell y0 Oz;have bL:=Q3 (aH.out.trans (bY.out.2.2.1.trans o5));have HH5:=Q3 (And.intro (o5.heap bY.out.1 Oz) (And.intro (o5.heap bY.out.2.1 Oz) (o5.heap bY.out.2.2.2.1 Oz)));clear q5 o5 y0 bY;go_wp2_with fail;refine(HRt.out _ bL.out).mono ?_;rintro e X6 ⟨rfl,q6⟩;have cJ:=Q3 (bL.out.trans q6);have HH6:=Q3 (And.intro (q6.heap HH5.out.1 Oz) (And.intro (q6.heap HH5.out.2.1 Oz) (q6.heap HH5.out.2.2 Oz)));clear q6 y0' HH5 bL;have dY:=Q3 (Hh.out.quiet cJ.out);have c1:=dY.out.cells.1;rw[HMn.out] at c1;have c2:=cJ.out.cell HR.out.1 Oz;obtain⟨y0,_,_,_,_,_⟩:=K7 HH6.out.1;go_wp2_with fail;refine wp_region_held_drew (S:=fun w'=>cq w' rb 0=some (Pq (s 0))/\cq w' (s 0) 0=some (.slice (some ⟨s 1,0,none⟩) M cw)/\cq w' gb 0=some (Iz b0)) (by kernel_rfl) ?hS61 (fun aB=>?rest61)
 case hS61=>exact⟨c2,c1,y0⟩
 obtain⟨Q0,hZ⟩:∃ Z,X6.drew=Z:=⟨_,rfl⟩
 have OQ:Out 0 0 X6 Q0:=by rw[<-hZ];exact(Out.refl 0 0 _).drew
 rw[hZ] at aB ⊢;clear hZ;refine tk 0 ?_;refine tk 1 ?_;refine tk 2 ?_;refine tk 3 ?_;refine tk 4 ?_;refine tk 5 ?_;refine tk 6 ?_;refine tk 7 ?_;refine tk 8 ?_;refine tk 9 ?_;refine tk 10 ?_;refine tk 11 ?_;refine tk 12 ?_;refine rd1 13 fun KK hK=>?_
 simp only[xa,xb,xc];have hrf:=dY.out.quiet OQ;have c5:=hrf.rw.cell (i:=a) Ha.out;have c6:=hrf.rw.frozen a;go_simp;clear c5 c6;obtain⟨hS1,o8⟩:=hrf.setW Ha.out wv;obtain⟨Q1,hY⟩:∃ V,Q0.setCell ⟨s 1,a,none⟩ (Iz wv)=V:=⟨_,rfl⟩
 rw[hY] at hS1 o8 ⊢;clear hY hrf;have HS1:=Q3 hS1;have hgbh:hi<=gv:=by have h1:=Hh.out.top;have h2:=aW.out;omega
 have HFe:=Q3 (o8.heap (OQ.heap HH6.out.2.1 Oz) (.inr (by have:=bK.out;omega)));have HFr:=Q3 (o8.heap (OQ.heap HH6.out.2.2 Oz) (.inr (by omega)));have fH:=Q3 (((cJ.out.trans OQ).any lo hi).trans o8);have c9:=hS1.cells.1;rw[HMn.out] at c9;clear hS1;refine hK.out _ _ ⟨o8.cell aB.1 HR.out.2,c9,o8.cell aB.2.2 (.inr (by have:=bK.out;omega))⟩ fun aB=>?_
 clear o8 c9 hK KK;refine dn ?_;clear aB OQ;have f2:=J3 (x':=0) (y':=a0) HFr.out;have o2:=(Out.refl (gv+2) (gv+3) Q1).set2 (b:=gv+2) (o:=0) (o':=1) Lz (Iz 0) (Iz a0);obtain⟨z0,z1,z2,z3⟩:=flt_facts HFe.out;obtain⟨v0,v1,v2,v3⟩:=flt_facts HFr.out;have HE:=Q3 (And.intro f2 (And.intro (HS1.out.kept o2 (.inl (by omega))) (fH.out.then o2 (by have:=aW.out;omega))));clear f2 o2;go_wp2;exact bodyPost_ret (K5 Tryz.results25 rfl (J5 HE.out.1)) rfl ⟨rfl,HE.out.2.1,HE.out.2.2⟩
end
theorem z7n {g:Nat} {x y:Int} {w:World} (hg:w.heap[g]? = some (.cells #[.int .i64 x,.int .i64 y] 46 (0,0))) :
  CallsD Tryz.prog 69 #[.pointer (some ⟨g,0,none⟩)] .returning w fun e u' w'=>e=.returned (.tuple #[])/\u'=.returning/\w'.heap[g]? = some (.cells #[.int .i64 0,.int .i64 0] 46 (0,0))/\Out g (g+1) w w':=by
 refine callsD_of_wpS Tryz.func69 rfl fun c₀ cs hu=>?_
 apply wpS_region;simp[wpOpsS,go_sem,recoverD,hu,Tryz.ntmps69,Exit.thenS];refine(z1u w).mono ?_;rintro e w1 ⟨rfl,o1⟩;have h1:=o1.heap hg z0;obtain⟨a1,a2,a3,a4⟩:=flt_facts h1;have h2:=J3 (x':=0) (y':=0) h1;have h3:=(o1.any g (g+1)).trans (z1p w1 g (.int .i64 0) (.int .i64 0));have c2:(w1.setCell ⟨g,0,none⟩ (.int .i64 0)).cell? ⟨g,1,none⟩=some (.int .i64 y):=by simp[World.cell?,World.setCell,Array.getElem?_modify,h1]
 have c3:(w1.setCell ⟨g,0,none⟩ (.int .i64 0)).frozen? ⟨g,1,none⟩=false:=by simp[World.frozen?,World.setCell,Array.getElem?_modify,h1]
 simp[go_sem,storeCells,a1,a2,a3,a4,c2,c3,bodyPostS,results,Tryz.results69];cases c₀;simp_all
theorem z3q {g:Nat} {x y e a:Int} {older:List PanicEntry} {w:World} (hg:w.heap[g]? = some (.cells #[.int .i64 x,.int .i64 y] 46 (0,0))) :
  CallsD Tryz.prog 69 #[.pointer (some ⟨g,0,none⟩)] (.panicking (z0o e a :: older)) w fun e' u' w'=>e'=.returned (.tuple #[])/\u'=.panicking ({ v:=.iface 162 (.agg #[.int .i64 e,.int .i64 a]),recovered:=true } :: older)/\w'.heap[g]? = some (.cells #[.int .i64 e,.int .i64 a] 46 (0,0))/\Out g (g+1) w w':=by
 refine callsD_of_wpS Tryz.func69 rfl fun c₀ cs hu=>?_
 apply wpS_region;unfold z0o at hu;simp[wpOpsS,go_sem,recoverD,hu,Tryz.ntmps69,Exit.thenS];refine(z1a e a w).mono ?_;rintro e' w1 ⟨rfl,o1⟩;have h1:=o1.heap hg z0;obtain⟨a1,a2,a3,a4⟩:=flt_facts h1;have h2:=J3 (x':=e) (y':=a) h1;have h3:=(o1.any g (g+1)).trans (z1p w1 g (.int .i64 e) (.int .i64 a));have c2:(w1.setCell ⟨g,0,none⟩ (.int .i64 e)).cell? ⟨g,1,none⟩=some (.int .i64 y):=by simp[World.cell?,World.setCell,Array.getElem?_modify,h1]
 have c3:(w1.setCell ⟨g,0,none⟩ (.int .i64 e)).frozen? ⟨g,1,none⟩=false:=by simp[World.frozen?,World.setCell,Array.getElem?_modify,h1]
 simp[go_sem,storeCells,a1,a2,a3,a4,c2,c3,bodyPostS,results,Tryz.results69];exact⟨h2,h3⟩
section
variable {w:World} {lo hi hb:Nat} {s:Nat->Nat} {n cap:Nat} {r:Raw}
theorem x0q (hr:RawAt w lo hi s n cap r) (hA:U7 n r) (hH:cq w hb 0=some (Pq (s 14))) (k m i:Int) (cL:opE r k m ≠ 0):Kz 70 #[Pq hb,Vz k m,Iz i] w fun e w'=>e=.panicked [z0o (opE r k m) (opA r k m)]/\Out 0 0 w w':=by
 have fV:=Q3 (heap_alloc_new w (Dz k m 32));have aH:=Q3 ((Out.refl 0 0 w).alloc (Dz k m 32));obtain⟨u0,u1,u2,u3⟩:=Q5 fV.out;have Hr:=Q3 (hr.quiet aH.out);have HA:=Q3 hA;have HH:=Q3 (aH.out.cell hH z0);clear hr hA hH;go_enter Tryz.func70,Tryz.ntmps70
 go_wp2_with fail;refine(q2g Hr.out HA.out HH.out k m cL).mono ?_;rintro e X3 ⟨rfl,q3⟩;exact⟨rfl,rfl,aH.out.trans q3⟩
theorem j6h (hr:RawAt w lo hi s n cap r) (hA:U7 n r) (hH:cq w hb 0=some (Pq (s 14))) (k m i:Int) {t1 t2 t3 t4:Int} (hM:r.M m=some (t1,t2,t3,t4)) (cL:opE r k m=0) (hT:n<=4096) (hf:J6 t1 t2 i ≠ 1):Kz 70 #[Pq hb,Vz k m,Iz i] w fun e w'=>e=.panicked [z0o 32 0]/\Out 0 0 w w':=by
 have hf2:(J6 t1 t2 i == 1)=false:=by simpa using hf
 clear hf;have fV:=Q3 (heap_alloc_new w (Dz k m 32));have aH:=Q3 ((Out.refl 0 0 w).alloc (Dz k m 32));obtain⟨u0,u1,u2,u3⟩:=Q5 fV.out;have Hr:=Q3 (hr.quiet aH.out);have HA:=Q3 hA;have HH:=Q3 (aH.out.cell hH z0);clear hr hA hH;go_enter Tryz.func70,Tryz.ntmps70
 go_wp2_with fail;obtain⟨a1,a2,a3,a4,h1,h2⟩:=z1f Hr.out HA.out HH.out k m cL;rw[hM] at h1;simp only[Option.some.injEq,Prod.mk.injEq] at h1;obtain⟨rfl,rfl,rfl,rfl⟩:=h1;refine h2.mono ?_;rintro e X3 ⟨rfl,q3⟩;have hs:=HA.out m _ hM;have Hs:Hid (0<=m/\m+t2<=64*n/\1<=t2/\t2<=1024/\n<=4096):=⟨hs.1,hs.2.1,hs.2.2.1,hs.2.2.2,hT⟩
 have f4:=heap_alloc_new X3 (Ez m t1 t2 t3 t4 81);have o4:=q3.alloc (Ez m t1 t2 t3 t4 81);obtain⟨y0,y1,y2,y3,y4,y5⟩:=K7 f4;have HT4:=Q3 (Hr.out.quiet o4).tab;have fM:=Q3 (And.intro f4 (aH.out.trans o4));clear h2 hM cL hT hs q3 f4 o4 u0 u1 u2 u3;go_wp2_with fail;refine(z4n t1 t2 i HT4.out (by have:=Hs.out;omega) (by have:=Hs.out;omega)).mono ?_;rintro e X5 ⟨rfl,he⟩;rw[he];clear he X5;generalize J6 t1 t2 i=aK at *
 go_wp2_with fail;refine(z2o _ _).mono ?_;rintro e X7 ⟨rfl,he⟩;rw[he];exact⟨rfl,rfl,fM.out.2⟩
theorem x4s (hr:RawAt w lo hi s n cap r) (hA:U7 n r) (hH:cq w hb 0=some (Pq (s 14))) (k m i:Int) {t1 t2 t3 t4:Int} (hM:r.M m=some (t1,t2,t3,t4)) (cL:opE r k m=0) (hT:n<=4096) (hf:J6 t1 t2 i=1):Kz 70 #[Pq hb,Vz k m,Iz i] w fun e w'=>e=.returned (Iz (m+i))/\Out 0 0 w w':=by
 have fV:=Q3 (heap_alloc_new w (Dz k m 32));have aH:=Q3 ((Out.refl 0 0 w).alloc (Dz k m 32));obtain⟨u0,u1,u2,u3⟩:=Q5 fV.out;have Hr:=Q3 (hr.quiet aH.out);have HA:=Q3 hA;have HH:=Q3 (aH.out.cell hH z0);clear hr hA hH;go_enter Tryz.func70,Tryz.ntmps70
 go_wp2_with fail;obtain⟨a1,a2,a3,a4,h1,h2⟩:=z1f Hr.out HA.out HH.out k m cL;rw[hM] at h1;simp only[Option.some.injEq,Prod.mk.injEq] at h1;obtain⟨rfl,rfl,rfl,rfl⟩:=h1;refine h2.mono ?_;rintro e X3 ⟨rfl,q3⟩;have hs:=HA.out m _ hM;have Hs:Hid (0<=m/\m+t2<=64*n/\1<=t2/\t2<=1024/\n<=4096):=⟨hs.1,hs.2.1,hs.2.2.1,hs.2.2.2,hT⟩
 have f4:=heap_alloc_new X3 (Ez m t1 t2 t3 t4 81);have o4:=q3.alloc (Ez m t1 t2 t3 t4 81);obtain⟨y0,y1,y2,y3,y4,y5⟩:=K7 f4;have HT4:=Q3 (Hr.out.quiet o4).tab;have fM:=Q3 (And.intro f4 (aH.out.trans o4));clear h2 hM cL hT hs q3 f4 o4 u0 u1 u2 u3;go_wp2_with fail;refine(z4n t1 t2 i HT4.out (by have:=Hs.out;omega) (by have:=Hs.out;omega)).mono ?_;rintro e X5 ⟨rfl,he⟩;rw[he];clear he X5;have mR:1<=i/\i<t2:=by
  unfold J6 at hf;by_cases c:B7 t1 t2=true/\1<=i/\i<t2
  ·exact c.2
  ·rw[if_neg c] at hf;exact absurd hf (by decide)
 have kO:IntKind.i64.wrap (m+i)=m+i:=by have:=Hs.out;rw[IntKind.wrap_i64];omega
 rw[hf];clear hf mR;go_wp2_with fail;refine(z0k _ _).mono ?_;rintro e X7 ⟨rfl,he⟩;rw[he];clear he X7;go_wp2;go_ret;exact⟨rfl,fM.out.2⟩
theorem q5x (hr:RawAt w lo hi s n cap r) (hA:U7 n r) (hH:cq w hb 0=some (Pq (s 14))) (k m i x:Int) (cL:opE r k m ≠ 0):Kz 26 #[Pq hb,Vz k m,Iz i,Iz x] w fun e w'=>e=.returned (Vz (opE r k m) (opA r k m))/\Out 0 0 w w':=by
 have nI:∀ (fn:Fn) (first cap:Array Value) (w:World),(Instr.makeFunc fn first cap).run Tryz.prog w=.ok (.func fn first cap) w:=fun _ _ _ _=>rfl
 have fV:=Q3 (J0 (w:=w) (o:=Dz k m 32) (o2:=Dz 0 0 46));have fF:=Q3 (J4 (w:=w) (o:=Dz k m 32) (o2:=Dz 0 0 46));have aH:=Q3 (((Out.refl 0 0 w).alloc (Dz k m 32)).alloc (Dz 0 0 46));have Hr:=Q3 hr;have HA:=Q3 hA;obtain⟨gv,aN⟩:∃ g,w.heap.size=g:=⟨_,rfl⟩
 have aW:=Q3 aN;obtain⟨V2,aQ⟩:∃ V,(w.alloc (Dz k m 32)).alloc (Dz 0 0 46)=V:=⟨_,rfl⟩
 rw[aQ,aN] at fV fF;rw[aQ] at aH;have iF:=Q3 (aH.out.cell hH z0);obtain⟨u0,u1,u2,u3⟩:=Q5 fV.out;clear hH hr hA;have kW:=Q3 cL;clear cL;have HRw:Hid (∀ V,Out 0 0 V2 V->Kz 70 #[Pq hb,Vz k m,Iz i] V fun e w'=>e=.panicked [z0o (opE r k m) (opA r k m)]/\Out 0 0 V w'):=fun V o=>x0q (Hr.out.quiet (aH.out.trans o)) HA.out (o.cell iF.out z0) k m i kW.out
 go_enter_defers Tryz.func26,Tryz.ntmps26
 go_wp2_with fail;(try rw[aQ]);(try rw[aN]);clear aQ aN;refine(U2 _ _).mono ?_;rintro e w5 ⟨rfl,he⟩;rw[he];clear he w5;have y6:=iF.out;go_wp2_with fail;refine wp_region_held_drew (S:=fun w'=>cq w' hb 0=some (Pq (s 14))/\cq w' gv 0=some (Iz k)/\cq w' gv 1=some (Iz m)) (by kernel_rfl) ?hS61 (fun aB=>?rest61)
 case hS61=>exact⟨y6,u0,u1⟩
 obtain⟨Z0,hZ⟩:∃ Z,V2.drew=Z:=⟨_,rfl⟩
 have O:Out 0 0 V2 Z0:=by rw[<-hZ];exact(Out.refl 0 0 _).drew
 rw[hZ] at aB ⊢;clear hZ;refine tp Tryz.results26 0 ?_;refine tp Tryz.results26 1 ?_;refine tp Tryz.results26 2 ?_;refine tp Tryz.results26 3 ?_;refine tp Tryz.results26 4 ?_;refine tp Tryz.results26 5 ?_;refine tp Tryz.results26 6 ?_;refine tp Tryz.results26 8 ?_;refine rd1 7 fun KK hK=>?_
 go_simp;refine(HRw.out _ O).mono ?_;rintro e X3 ⟨rfl,q3⟩;simp;refine leaves_cons (f:=69) (args:=#[.pointer (some ⟨gv+1,0,none⟩)]) (by simp) (by simp[go_sem]) ?_;refine(z3q ((O.trans q3).heap fF.out z0)).mono ?_;rintro e u' w9 ⟨rfl,rfl,f9,q9⟩;exact Y7 (K5 Tryz.results26 rfl (J5 f9)) ⟨rfl,(aH.out.trans (O.trans q3)).trans' q9 (by have:=aW.out;omega)⟩
theorem q3b (hr:RawAt w lo hi s n cap r) (hA:U7 n r) (hH:cq w hb 0=some (Pq (s 14))) (k m i x:Int) {t1 t2 t3 t4:Int} (hM:r.M m=some (t1,t2,t3,t4)) (cL:opE r k m=0) (hf:J6 t1 t2 i ≠ 1):Kz 26 #[Pq hb,Vz k m,Iz i,Iz x] w fun e w'=>e=.returned (Vz 32 0)/\Out 0 0 w w':=by
 have nI:∀ (fn:Fn) (first cap:Array Value) (w:World),(Instr.makeFunc fn first cap).run Tryz.prog w=.ok (.func fn first cap) w:=fun _ _ _ _=>rfl
 have fV:=Q3 (J0 (w:=w) (o:=Dz k m 32) (o2:=Dz 0 0 46));have fF:=Q3 (J4 (w:=w) (o:=Dz k m 32) (o2:=Dz 0 0 46));have aH:=Q3 (((Out.refl 0 0 w).alloc (Dz k m 32)).alloc (Dz 0 0 46));have Hr:=Q3 hr;have HA:=Q3 hA;obtain⟨gv,aN⟩:∃ g,w.heap.size=g:=⟨_,rfl⟩
 have aW:=Q3 aN;obtain⟨V2,aQ⟩:∃ V,(w.alloc (Dz k m 32)).alloc (Dz 0 0 46)=V:=⟨_,rfl⟩
 rw[aQ,aN] at fV fF;rw[aQ] at aH;have iF:=Q3 (aH.out.cell hH z0);obtain⟨u0,u1,u2,u3⟩:=Q5 fV.out;clear hH hr hA;have kW:=Q3 cL;have HM:=Q3 hM;have Hf:=Q3 hf;clear cL hM hf;have HRw:Hid (∀ V,Out 0 0 V2 V->Kz 70 #[Pq hb,Vz k m,Iz i] V fun e w'=>e=.panicked [z0o 32 0]/\Out 0 0 V w'):=fun V o=>j6h (Hr.out.quiet (aH.out.trans o)) HA.out (o.cell iF.out z0) k m i HM.out kW.out Hr.out.n2 Hf.out
 go_enter_defers Tryz.func26,Tryz.ntmps26
 go_wp2_with fail;(try rw[aQ]);(try rw[aN]);clear aQ aN;refine(U2 _ _).mono ?_;rintro e w5 ⟨rfl,he⟩;rw[he];clear he w5;have y6:=iF.out;go_wp2_with fail;refine wp_region_held_drew (S:=fun w'=>cq w' hb 0=some (Pq (s 14))/\cq w' gv 0=some (Iz k)/\cq w' gv 1=some (Iz m)) (by kernel_rfl) ?hS72 (fun aB=>?rest72)
 case hS72=>exact⟨y6,u0,u1⟩
 obtain⟨Z0,hZ⟩:∃ Z,V2.drew=Z:=⟨_,rfl⟩
 have O:Out 0 0 V2 Z0:=by rw[<-hZ];exact(Out.refl 0 0 _).drew
 rw[hZ] at aB ⊢;clear hZ;refine tp Tryz.results26 0 ?_;refine tp Tryz.results26 1 ?_;refine tp Tryz.results26 2 ?_;refine tp Tryz.results26 3 ?_;refine tp Tryz.results26 4 ?_;refine tp Tryz.results26 5 ?_;refine tp Tryz.results26 6 ?_;refine tp Tryz.results26 8 ?_;refine rd1 7 fun KK hK=>?_
 go_simp;refine(HRw.out _ O).mono ?_;rintro e X3 ⟨rfl,q3⟩;simp;refine leaves_cons (f:=69) (args:=#[.pointer (some ⟨gv+1,0,none⟩)]) (by simp) (by simp[go_sem]) ?_;refine(z3q ((O.trans q3).heap fF.out z0)).mono ?_;rintro e u' w9 ⟨rfl,rfl,f9,q9⟩;exact Y7 (K5 Tryz.results26 rfl (J5 f9)) ⟨rfl,(aH.out.trans (O.trans q3)).trans' q9 (by have:=aW.out;omega)⟩
theorem j0r (hr:RawAt w lo hi s n cap r) (hA:U7 n r) (hH:cq w hb 0=some (Pq (s 14))) (k m i x:Int) {t1 t2 t3 t4:Int} (hM:r.M m=some (t1,t2,t3,t4)) (cL:opE r k m=0) (hf:J6 t1 t2 i=1) (hout:hb<lo\/hi<=hb):Kz 26 #[Pq hb,Vz k m,Iz i,Iz x] w fun e w'=>e=.returned (Vz 0 0)/\RawAt w' lo hi s n cap { r with W:=F3 n r.W (m+i) x }/\Out lo hi w w':=by
 have nI:∀ (fn:Fn) (first cap:Array Value) (w:World),(Instr.makeFunc fn first cap).run Tryz.prog w=.ok (.func fn first cap) w:=fun _ _ _ _=>rfl
 have fV:=Q3 (J0 (w:=w) (o:=Dz k m 32) (o2:=Dz 0 0 46));have fF:=Q3 (J4 (w:=w) (o:=Dz k m 32) (o2:=Dz 0 0 46));have aH:=Q3 (((Out.refl 0 0 w).alloc (Dz k m 32)).alloc (Dz 0 0 46));have Hr:=Q3 hr;have HA:=Q3 hA;obtain⟨gv,aN⟩:∃ g,w.heap.size=g:=⟨_,rfl⟩
 have aW:=Q3 aN;obtain⟨V2,aQ⟩:∃ V,(w.alloc (Dz k m 32)).alloc (Dz 0 0 46)=V:=⟨_,rfl⟩
 rw[aQ,aN] at fV fF;rw[aQ] at aH;have iF:=Q3 (aH.out.cell hH z0);obtain⟨u0,u1,u2,u3⟩:=Q5 fV.out;clear hH hr hA;have kW:=Q3 cL;have HM:=Q3 hM;have Hf:=Q3 hf;clear cL hM hf;have dX:=Q3 hout;clear hout;have HRw:Hid (∀ V,Out 0 0 V2 V->Kz 70 #[Pq hb,Vz k m,Iz i] V fun e w'=>e=.returned (Iz (m+i))/\Out 0 0 V w'):=fun V o=>x4s (Hr.out.quiet (aH.out.trans o)) HA.out (o.cell iF.out z0) k m i HM.out kW.out Hr.out.n2 Hf.out
 go_enter_defers Tryz.func26,Tryz.ntmps26
 go_wp2_with fail;(try rw[aQ]);(try rw[aN]);clear aQ aN;refine(U2 _ _).mono ?_;rintro e w5 ⟨rfl,he⟩;rw[he];clear he w5;have y6:=iF.out;go_wp2_with fail;refine wp_region_held_drew (S:=fun w'=>cq w' hb 0=some (Pq (s 14))/\cq w' gv 0=some (Iz k)/\cq w' gv 1=some (Iz m)) (by kernel_rfl) ?hS83 (fun aB=>?rest83)
 case hS83=>exact⟨y6,u0,u1⟩
 obtain⟨Z0,hZ⟩:∃ Z,V2.drew=Z:=⟨_,rfl⟩
 have O:Out 0 0 V2 Z0:=by rw[<-hZ];exact(Out.refl 0 0 _).drew
 rw[hZ] at aB ⊢;clear hZ;refine tp Tryz.results26 0 ?_;refine tp Tryz.results26 1 ?_;refine tp Tryz.results26 2 ?_;refine tp Tryz.results26 3 ?_;refine tp Tryz.results26 4 ?_;refine tp Tryz.results26 5 ?_;refine tp Tryz.results26 6 ?_;refine tp Tryz.results26 8 ?_;refine rd1 7 fun KK hK=>?_
 go_simp;refine(HRw.out _ O).mono ?_;rintro e X3 ⟨rfl,q3⟩;refine hK.out _ _ ⟨q3.cell aB.1 z0,q3.cell aB.2.1 z0,q3.cell aB.2.2 z0⟩ fun aC=>?_
 have O3:=O.trans q3;clear q3 hK KK;replace aB:=aC;clear aC;refine rd1 9 fun KK hK=>?_
 go_simp;refine(q2j (Hr.out.quiet (aH.out.trans O3)) (m+i) x).mono ?_;rintro e X9 ⟨rfl,P9,q9⟩;refine hK.out _ _ ⟨q9.cell aB.1 dX.out,q9.cell aB.2.1 (.inr (by have h1:=Hr.out.top;have h2:=aW.out;omega)),q9.cell aB.2.2 (.inr (by have h1:=Hr.out.top;have h2:=aW.out;omega))⟩ fun aB=>?_
 clear hK KK;refine dn ?_;have HP9:=Q3 P9;have HQ9:=Q3 (((aH.out.trans O3).any lo hi).trans q9);have fI:=Q3 (q9.heap (O3.heap fF.out z0) (.inr (by have h1:=Hr.out.top;have h2:=aW.out;omega)));obtain⟨b0,b1,b2,b3⟩:=flt_facts fI.out;clear aB P9 q9 O O3;go_wp2;have o10:=(Out.refl (gv+1) (gv+2) X9).set2 (b:=gv+1) (o:=0) (o':=1) z1 (Iz 0) (Iz 0);refine leaves_cons (f:=69) (args:=#[.pointer (some ⟨gv+1,0,none⟩)]) (by simp) (by simp[go_sem]) ?_;refine(z7n (J3 (x':=0) (y':=0) fI.out)).mono ?_;rintro e u' w9 ⟨rfl,rfl,f9,q9⟩;have hd:hi<=gv+1:=by have h1:=Hr.out.top;have h2:=aW.out;omega
 have hn:4<=gv+1:=by have h1:=Hr.out.top;have h2:=aW.out;have h3:=Hr.out.glob;have h4:=Hr.out.inn 0 (by omega);omega
 exact Y7 (K5 Tryz.results26 rfl (J5 f9)) ⟨rfl,(HP9.out.kept o10 (.inl hd) (.inl hn)).kept q9 (.inl hd) (.inl hn),(HQ9.out.then o10 (by have:=aW.out;omega)).then q9 (by have:=aW.out;omega)⟩
end
def seQ (n:Nat) (st:Sp) (k m i xk xn:Int):Int × Int × Sp:=
 if opE (Q6 n st) k m ≠ 0 then (opE (Q6 n st) k m,opA (Q6 n st) k m,st) else
 match (Q6 n st).M m with
 | none=>(0,0,st)
 | some b=>if F8 (J6 b.1 b.2.1 i)=false then (32,0,st) else if Q8 xk xn=false then (33,0,st) else if rgB (Q6 n st) m b (J6 b.1 b.2.1 i) (xn*8+(xk-1))=false then (33,0,st) else (0,0,z1q st (F3 n st.W (m+i) (xn*8+(xk-1))))
def srQ (n:Nat) (st:Sp) (k m i x:Int):Int × Int × Sp:=
 if opE (Q6 n st) k m ≠ 0 then (opE (Q6 n st) k m,opA (Q6 n st) k m,st) else
 match (Q6 n st).M m with
 | none=>(0,0,st)
 | some b=>if J6 b.1 b.2.1 i=1 then (0,0,z1q st (F3 n st.W (m+i) x)) else (32,0,st)
theorem z3e {n:Nat} {st:Sp} {k m:Int} (h:opE (Q6 n st) k m=0):k=2/\∃ b,(Q6 n st).M m=some b/\z6e (Q6 n st) m=0/\z4z (Q6 n st) m=0:=by
 unfold opE at h;by_cases c:k=2/\(Q6 n st).M m ≠ none
 ·rw[if_pos c] at h;refine⟨c.1,?_⟩;cases hM:(Q6 n st).M m with
  | none=>exact absurd hM c.2
  | some b=>
   refine⟨b,rfl,h,?_⟩;unfold z6e at h;unfold z4z;rw[hM] at h ⊢;simp only[] at h ⊢;by_cases d:(Q6 n st).W m.toNat=B6 m b.1 b.2.1
   ·rw[if_pos d]
   ·rw[if_neg d] at h;exact absurd h (by decide)
 ·rw[if_neg c] at h;exact absurd h (by decide)
section
variable {w:World} {lo hi hb n cap:Nat} {s:Nat->Nat} {st:Sp}
theorem x0h (h:SpAt w lo hi s n cap st) (hH:w.cell? ⟨hb,0,none⟩=some (.pointer (some ⟨s 14,0,none⟩))) (hout:hb<lo\/hi<=hb) (k m i xk xn:Int) {e0 a0:Int} {st':Sp} (hq:seQ n st k m i xk xn=(e0,a0,st')):Calls Tryz.prog 17 #[.pointer (some ⟨hb,0,none⟩),.agg #[.int .i64 k,.int .i64 m],.int .i64 i,.agg #[.int .i64 xk,.int .i64 xn]] w fun e w'=>e=.returned (.agg #[.int .i64 e0,.int .i64 a0])/\SpAt w' lo hi s n cap st'/\Out lo hi w w':=by
 unfold seQ at hq;by_cases ho:opE (Q6 n st) k m ≠ 0
 ·rw[if_pos ho] at hq;cases hq;exact(j8d h.1 (G6 h.2) hH k m i xk xn ho).mono fun e w' ⟨e1,e2⟩=>⟨e1,h.quiet e2,e2.any lo hi⟩
 ·rw[if_neg ho] at hq;have dZ:opE (Q6 n st) k m=0:=by omega
  obtain⟨hk,b,hM,_,_⟩:=z3e dZ;rw[hM] at hq;obtain⟨t1,t2,t3,t4⟩:=b;dsimp only at hq;cases hf:F8 (J6 t1 t2 i)
  ·rw[hf,if_pos rfl] at hq;cases hq;exact(j2x h.1 (G6 h.2) hH k m i xk xn hM dZ hf).mono fun e w' ⟨e1,e2⟩=>⟨e1,h.quiet e2,e2.any lo hi⟩
  ·rw[hf,if_neg (by simp)] at hq;cases hx:Q8 xk xn
   ·rw[hx,if_pos rfl] at hq;cases hq;exact(q5y h.1 (G6 h.2) hH k m i xk xn hM dZ hf hx).mono fun e w' ⟨e1,e2⟩=>⟨e1,h.quiet e2,e2.any lo hi⟩
   ·rw[hx,if_neg (by simp)] at hq;cases hg:rgB (Q6 n st) m (t1,t2,t3,t4) (J6 t1 t2 i) (xn*8+(xk-1))
    ·rw[hg,if_pos rfl] at hq;cases hq;exact(j2y h.1 (G6 h.2) hH k m i xk xn hM dZ hf hx hg).mono fun e w' ⟨e1,e2⟩=>⟨e1,h.quiet e2,e2.any lo hi⟩
    ·rw[hg,if_neg (by simp)] at hq;cases hq;exact q8v h hH hout k m i xk xn hM dZ hf hx hg
theorem q7m (h:SpAt w lo hi s n cap st) (hH:w.cell? ⟨hb,0,none⟩=some (.pointer (some ⟨s 14,0,none⟩))) (hout:hb<lo\/hi<=hb) (k m i x:Int) {e0 a0:Int} {st':Sp} (hq:srQ n st k m i x=(e0,a0,st')):Calls Tryz.prog 26 #[.pointer (some ⟨hb,0,none⟩),.agg #[.int .i64 k,.int .i64 m],.int .i64 i,.int .i64 x] w fun e w'=>e=.returned (.agg #[.int .i64 e0,.int .i64 a0])/\SpAt w' lo hi s n cap st'/\Out lo hi w w':=by
 unfold srQ at hq;by_cases ho:opE (Q6 n st) k m ≠ 0
 ·rw[if_pos ho] at hq;cases hq;exact(q5x h.1 (G6 h.2) hH k m i x ho).mono fun e w' ⟨e1,e2⟩=>⟨e1,h.quiet e2,e2.any lo hi⟩
 ·rw[if_neg ho] at hq;have dZ:opE (Q6 n st) k m=0:=by omega
  obtain⟨hk,b,hM,_,_⟩:=z3e dZ;rw[hM] at hq;obtain⟨t1,t2,t3,t4⟩:=b;dsimp only at hq;by_cases hf:J6 t1 t2 i=1
  ·rw[if_pos hf] at hq;cases hq;exact(j0r h.1 (G6 h.2) hH k m i x hM dZ hf hout).mono fun e w' ⟨e1,e2,e3⟩=>⟨e1,⟨e2,j0o h.2 _⟩,e3⟩
  ·rw[if_neg hf] at hq;cases hq;exact(q3b h.1 (G6 h.2) hH k m i x hM dZ hf).mono fun e w' ⟨e1,e2⟩=>⟨e1,h.quiet e2,e2.any lo hi⟩
end
section
variable {w:World} {lo hi rb cw co n:Nat} {s:Nat->Nat} {st:Sp}
theorem q9c (h:RfAt w lo hi s n cw co st) (hI:Inv n st) (hR:w.cell? ⟨rb,0,none⟩=some (.pointer (some ⟨s 0,0,none⟩))) (k m:Int) (ho:opE (Q6 n st) k m ≠ 0):Calls Tryz.prog 72 #[.pointer (some ⟨rb,0,none⟩),.agg #[.int .i64 k,.int .i64 m]] w fun e w'=>e=.returned (.tuple #[.agg #[.int .i64 0,.int .i64 0,.int .i64 0,.int .i64 0,.int .i64 0],.agg #[.int .i64 (opE (Q6 n st) k m),.int .i64 (opA (Q6 n st) k m)]])/\Out 0 0 w w':=by
 unfold opE opA at *;cases hM:(Q6 n st).M m with
 | none=>
  rw[if_neg (by simp),if_neg (by simp)];exact j1b h hI hR k m hM
 | some b=>
  obtain⟨t1,t2,t3,t4⟩:=b;by_cases hk:k=2
  ·rw[hM] at ho;rw[if_pos ⟨hk,by simp⟩] at ho ⊢;rw[if_pos ⟨hk,by simp⟩];exact q6l h hI hR k m hM hk rfl rfl ho
  ·rw[if_neg (fun c=>hk c.1),if_neg (fun c=>hk c.1)];exact j1a h hI hR k m hM hk
theorem z8r (h:RfAt w lo hi s n cw co st) (hI:Inv n st) (hR:w.cell? ⟨rb,0,none⟩=some (.pointer (some ⟨s 0,0,none⟩))) (k m:Int) {t1 t2 t3 t4:Int} (hM:(Q6 n st).M m=some (t1,t2,t3,t4)) (ho:opE (Q6 n st) k m=0):Calls Tryz.prog 72 #[.pointer (some ⟨rb,0,none⟩),.agg #[.int .i64 k,.int .i64 m]] w fun e w'=>e=.returned (.tuple #[.agg #[.int .i64 m,.int .i64 t1,.int .i64 t2,.int .i64 t3,.int .i64 t4],.agg #[.int .i64 0,.int .i64 0]])/\Out 0 0 w w':=by
 obtain⟨hk,b,_,h1,h2⟩:=z3e ho;exact j8r h hI hR k m hM hk h1 h2
theorem q1s (h:RfAt w lo hi s n cw co st) (hI:Inv n st) (hR:w.cell? ⟨rb,0,none⟩=some (.pointer (some ⟨s 0,0,none⟩))) (k m i:Int) (raw:Bool) (ho:opE (Q6 n st) k m ≠ 0):Calls Tryz.prog 66 #[.pointer (some ⟨rb,0,none⟩),.agg #[.int .i64 k,.int .i64 m],.int .i64 i,.bool raw] w fun e w'=>e=.returned (.tuple #[.agg #[.int .i64 0,.int .i64 0,.int .i64 0,.int .i64 0,.int .i64 0],.agg #[.int .i64 (opE (Q6 n st) k m),.int .i64 (opA (Q6 n st) k m)]])/\Out 0 0 w w':=
 q6u hR k m i raw (fun X o=>q9c (h.quiet o) hI (o.cell hR z0) k m ho) ho
theorem z8t (h:RfAt w lo hi s n cw co st) (hI:Inv n st) (hR:w.cell? ⟨rb,0,none⟩=some (.pointer (some ⟨s 0,0,none⟩))) (k m i:Int) (raw:Bool) {t1 t2 t3 t4:Int} (hM:(Q6 n st).M m=some (t1,t2,t3,t4)) (ho:opE (Q6 n st) k m=0) (hb:J6 t1 t2 i=0\/(raw=true/\J6 t1 t2 i ≠ 1)\/(raw=false/\J6 t1 t2 i=1)):Calls Tryz.prog 66 #[.pointer (some ⟨rb,0,none⟩),.agg #[.int .i64 k,.int .i64 m],.int .i64 i,.bool raw] w fun e w'=>e=.returned (.tuple #[.agg #[.int .i64 m,.int .i64 t1,.int .i64 t2,.int .i64 t3,.int .i64 t4],.agg #[.int .i64 32,.int .i64 0]])/\Out 0 0 w w':=by
 have nO:=G6 hI m _ hM;dsimp only at nO;refine q6v hR k m i raw (fun X o=>z8r (h.quiet o) hI (o.cell hR z0) k m hM ho) (by omega) (by omega) rfl ?_;by_cases c:J6 t1 t2 i=0
 ·left;rw[c];rfl
 ·right
  refine⟨by simpa using c,?_⟩;rcases hb with hb | ⟨h1,h2⟩ | ⟨h1,h2⟩
  ·exact absurd hb c
  ·left;exact⟨h1,by simpa using h2⟩
  ·right;exact⟨h1,by rw[h2];rfl⟩
theorem z6i (h:RfAt w lo hi s n cw co st) (hI:Inv n st) (hR:w.cell? ⟨rb,0,none⟩=some (.pointer (some ⟨s 0,0,none⟩))) (k m i:Int) (raw:Bool) {t1 t2 t3 t4:Int} (hM:(Q6 n st).M m=some (t1,t2,t3,t4)) (ho:opE (Q6 n st) k m=0) (hb:(raw=true/\J6 t1 t2 i=1)\/(raw=false/\F8 (J6 t1 t2 i)=true)):Calls Tryz.prog 66 #[.pointer (some ⟨rb,0,none⟩),.agg #[.int .i64 k,.int .i64 m],.int .i64 i,.bool raw] w fun e w'=>e=.returned (.tuple #[.agg #[.int .i64 m,.int .i64 t1,.int .i64 t2,.int .i64 t3,.int .i64 t4],.agg #[.int .i64 0,.int .i64 0]])/\Out 0 0 w w':=by
 have nO:=G6 hI m _ hM;dsimp only at nO;refine j8y hR k m i raw (fun X o=>z8r (h.quiet o) hI (o.cell hR z0) k m hM ho) (by omega) (by omega) rfl ?_ ?_
 ·rcases hb with ⟨_,h2⟩ | ⟨_,h2⟩
  ·rw[h2];rfl
  ·unfold F8 at h2;simp at h2 ⊢;exact h2.1
 ·rcases hb with ⟨h1,h2⟩ | ⟨h1,h2⟩
  ·left;exact⟨h1,by rw[h2];rfl⟩
  ·right;unfold F8 at h2;simp at h2;exact⟨h1,by simpa using h2.2⟩
theorem q9y {n a:Nat} {W:Nat->Int} {p v:Int} (hp:p=(a:Int)) (ha:a<64*n):F3 n W p v=z2p W a v:=by
 subst hp;funext i
 unfold z2p;by_cases e:i=a
 ·subst e;rw[if_pos rfl];exact q2k ha
 ·rw[if_neg e];exact z4s (by omega)
theorem j8s (h:RfAt w lo hi s n cw co st) (hI:Inv n st) (hR:w.cell? ⟨rb,0,none⟩=some (.pointer (some ⟨s 0,0,none⟩))) (hro:rb<lo\/hi<=rb) (k m i xk xn:Int) {e0 a0:Int} {st':Sp} (hq:seQ n st k m i xk xn=(e0,a0,st')):Calls Tryz.prog 25 #[.pointer (some ⟨rb,0,none⟩),.agg #[.int .i64 k,.int .i64 m],.int .i64 i,.agg #[.int .i64 xk,.int .i64 xn]] w fun e w'=>e=.returned (.agg #[.int .i64 e0,.int .i64 a0])/\RfAt w' lo hi s n cw co st'/\Out lo hi w w':=by
 have hc:=fun X (o:Out 0 0 w X)=>o.cell hR z0
 unfold seQ at hq;by_cases ho:opE (Q6 n st) k m ≠ 0
 ·rw[if_pos ho] at hq;cases hq;exact(q0k k m i xk xn (fun X o=>q1s (h.quiet o) hI (hc X o) k m i false ho) ho).mono fun e w' ⟨e1,e2⟩=>⟨e1,h.quiet e2,e2.any lo hi⟩
 ·rw[if_neg ho] at hq;have dZ:opE (Q6 n st) k m=0:=by omega
  obtain⟨hk,b,hM,_,_⟩:=z3e dZ;rw[hM] at hq;obtain⟨t1,t2,t3,t4⟩:=b;dsimp only at hq;have nO:=G6 hI m _ hM;dsimp only at nO;cases hf:F8 (J6 t1 t2 i)
  ·rw[hf,if_pos rfl] at hq;cases hq;refine(q0k k m i xk xn (fun X o=>z8t (h.quiet o) hI (hc X o) k m i false hM dZ ?_) (by decide)).mono fun e w' ⟨e1,e2⟩=>⟨e1,h.quiet e2,e2.any lo hi⟩
   unfold F8 at hf;simp at hf;by_cases c:J6 t1 t2 i=0
   ·exact .inl c
   ·exact .inr (.inr ⟨rfl,hf c⟩)
  ·rw[hf,if_neg (by simp)] at hq;have hw:=fun X (o:Out 0 0 w X)=>z6i (h.quiet o) hI (hc X o) k m i false hM dZ (.inr ⟨rfl,hf⟩)
   cases hx:Q8 xk xn
   ·rw[hx,if_pos rfl] at hq;cases hq;exact(q3j k m i xk xn hw hx).mono fun e w' ⟨e1,e2⟩=>⟨e1,h.quiet e2,e2.any lo hi⟩
   ·rw[hx,if_neg (by simp)] at hq;have hwv:z0g xk xn=xn*8+(xk-1):=by unfold z0g;rw[if_pos hx]
    have hvr:=z3p hx;have hrt:∀ X,Out 0 0 w X->Calls Tryz.prog 68 #[.pointer (some ⟨rb,0,none⟩),.int .i64 m,.int .i64 i,.int .i64 (xn*8+(xk-1))] X fun e w'=>e=.returned (.bool (rgB (Q6 n st) m (t1,t2,t3,t4) (J6 t1 t2 i) (xn*8+(xk-1))))/\Out 0 0 X w':=fun X o=>by
     have q:=q0j (h.quiet o) hI (hc X o) m i (xn*8+(xk-1)) (by omega) (by omega);unfold j0c at q;rw[hM] at q;exact q
    cases hg:rgB (Q6 n st) m (t1,t2,t3,t4) (J6 t1 t2 i) (xn*8+(xk-1))
    ·rw[hg,if_pos rfl] at hq;cases hq;exact(j1f k m i xk xn hw hx hwv hrt hg).mono fun e w' ⟨e1,e2⟩=>⟨e1,h.quiet e2,e2.any lo hi⟩
    ·rw[hg,if_neg (by simp)] at hq;cases hq;have bQ:=z3n hf;obtain⟨a,ha⟩:∃ a:Nat,m+i=(a:Int):=⟨(m+i).toNat,by omega⟩
     rw[q9y ha (by omega)];exact x3a h hR hro k m i xk xn hw hx hwv hrt hg ha (by omega)
theorem q6q (h:RfAt w lo hi s n cw co st) (hI:Inv n st) (hR:w.cell? ⟨rb,0,none⟩=some (.pointer (some ⟨s 0,0,none⟩))) (hro:rb<lo\/hi<=rb) (k m i x:Int) {e0 a0:Int} {st':Sp} (hq:srQ n st k m i x=(e0,a0,st')):Calls Tryz.prog 27 #[.pointer (some ⟨rb,0,none⟩),.agg #[.int .i64 k,.int .i64 m],.int .i64 i,.int .i64 x] w fun e w'=>e=.returned (.agg #[.int .i64 e0,.int .i64 a0])/\RfAt w' lo hi s n cw co st'/\Out lo hi w w':=by
 have hc:=fun X (o:Out 0 0 w X)=>o.cell hR z0
 unfold srQ at hq;by_cases ho:opE (Q6 n st) k m ≠ 0
 ·rw[if_pos ho] at hq;cases hq;exact(z5i k m i x (fun X o=>q1s (h.quiet o) hI (hc X o) k m i true ho) ho).mono fun e w' ⟨e1,e2⟩=>⟨e1,h.quiet e2,e2.any lo hi⟩
 ·rw[if_neg ho] at hq;have dZ:opE (Q6 n st) k m=0:=by omega
  obtain⟨hk,b,hM,_,_⟩:=z3e dZ;rw[hM] at hq;obtain⟨t1,t2,t3,t4⟩:=b;dsimp only at hq;have nO:=G6 hI m _ hM;dsimp only at nO;by_cases hf:J6 t1 t2 i=1
  ·rw[if_pos hf] at hq;cases hq;have bQ:1<=i/\i<t2:=by
    unfold J6 at hf;by_cases c:B7 t1 t2=true/\1<=i/\i<t2
    ·exact c.2
    ·rw[if_neg c] at hf;exact absurd hf (by decide)
   obtain⟨a,ha⟩:∃ a:Nat,m+i=(a:Int):=⟨(m+i).toNat,by omega⟩
   rw[q9y ha (by omega)];exact j1e h hR hro k m i x (fun X o=>z6i (h.quiet o) hI (hc X o) k m i true hM dZ (.inl ⟨rfl,hf⟩)) ha (by omega)
  ·rw[if_neg hf] at hq;cases hq;exact(z5i k m i x (fun X o=>z8t (h.quiet o) hI (hc X o) k m i true hM dZ (.inr (.inl ⟨rfl,hf⟩))) (by decide)).mono fun e w' ⟨e1,e2⟩=>⟨e1,h.quiet e2,e2.any lo hi⟩
end
end Go.Proofs.YtjgnogflgoihfaaGreatDoor
