import Derived.Test.YtjgnogflgoihfaaGreatDoorP32
import Derived.Test.YtjgnogflgoihfaaGreatDoorP34
import Derived.Test.YtjgnogflgoihfaaGreatDoorP38
set_option linter.unusedSimpArgs false
set_option linter.unusedVariables false
set_option maxHeartbeats 16000000
set_option maxRecDepth 100000
namespace Go.Proofs.YtjgnogflgoihfaaGreatDoor
open Go.RowKit
theorem j7o {w:World} {base:Nat} {v:Value} {l:List (Nat × Blk)} (hL:F7 w base v l) (hl:l.length<=100000) (k m:Int) (hk:I64 k) (hm:I64 m):Calls Tryz.prog 21 #[v,.agg #[.int .i64 k,.int .i64 m]] w fun e w'=>e=.returned (.agg #[.int .i64 (vaV l k m).1,.int .i64 (vaV l k m).2])/\Out 0 0 w w':=by
 by_cases h:k<100
 ·have e:vaV l k m=(k,m):=by unfold vaV;rw[if_pos h]
  rw[e];exact j2z k m v h w
 ·exact j0s hL hl k m (by omega) hk.2 hm.1 hm.2
section
variable {w:World} {q:Q9} {st:Sp} {c:Nat}
theorem j0h (h:PB w q st c) (hn4:q.n<=4) (hl:st.last<4611686018427387904) {o0 kd o2 o3 o4 o5 o6 o7 o8:Int} (i3:I64 o3) (i4:I64 o4) (i5:I64 o5) (i6:I64 o6) (i7:I64 o7) (i8:I64 o8) {bp:Option Addr} {bs:List Int} {bc b0:Nat} (hB:ByIn w b0 bp bs) (gV:b0<=q.lo) (hbl:bs.length<=100000) (hk:kd<=5\/kd=7\/20<=kd) :
  Kz 12 #[Pq q.B,.agg #[Iz o0,Iz kd,Iz o2,Iz o3,Iz o4,Iz o5,Iz o6,Iz o7,Iz o8,.slice bp bs.length bc]] w fun e w'=>e=.returned (.bool true)/\E9 q st w w':=by
 have HP:=Q3 h;have cI:=Q3 h.od;have HI:=Q3 (And.intro i3 i4);have Hl:=Q3 hl;have HB:=Q3 (And.intro hB (And.intro gV hbl));obtain⟨k,m,hkm⟩:∃ k m,vaV (K4 (Q6 q.n st) (64*q.n)) o5 o6=(k,m):=⟨_,_,rfl⟩
 obtain⟨k2,m2,hkm2⟩:∃ k m,vaV (K4 (Q6 q.n st) (64*q.n)) o7 o8=(k,m):=⟨_,_,rfl⟩
 have HV1:Hid (∀ V base v,F7 V base v (K4 (Q6 q.n st) (64*q.n))->Kz 21 #[v,Vz o5 o6] V fun e w'=>e=.returned (Vz k m)/\Out 0 0 V w'):=fun V base v hv=>by
  have q1:=j7o hv (by have:=z3d (Q6 q.n st) (64*q.n);omega) o5 o6 i5 i6;rw[hkm] at q1;exact q1
 have HV2:Hid (∀ V base v,F7 V base v (K4 (Q6 q.n st) (64*q.n))->Kz 21 #[v,Vz o7 o8] V fun e w'=>e=.returned (Vz k2 m2)/\Out 0 0 V w'):=fun V base v hv=>by
  have q1:=j7o hv (by have:=z3d (Q6 q.n st) (64*q.n);omega) o7 o8 i7 i8;rw[hkm2] at q1;exact q1
 obtain⟨W0,bo,hW,dH,fO,oW,gQ⟩:=box1a w (.cells #[Iz o0,Iz kd,Iz o2,Iz o3,Iz o4,Iz o5,Iz o6,Iz o7,Iz o8,.slice bp bs.length bc] 35);have cY:=h.od;rw[dH] at cY;unfold Od at cY;obtain⟨p0,p1,p2⟩:=(h.quiet oW).cells;have r0:=(h.quiet oW).be.pc;have r1:=(h.quiet oW).be.rc;have nB:=Q3 (z3g (h.be.r.quiet oW) h.inv);have Hk:=Q3 hk;have HO:=Q3 oW;have hb00:w.heap.size<=bo:=Nat.le_of_eq dH;have HfO:=Q3 fO;clear h hB gV hbl hkm hkm2 i3 i4 i5 i6 i7 i8 hl hk fO p2;go_enter Tryz.func12,Tryz.ntmps12
 go_wp2_with fail;(try rw[hW]);(try rw[dH]);clear hW dH;refine nB.out.mono ?_;rintro e W1 ⟨v,rfl,hL,o1⟩;have hsz1:bo+1<=W1.heap.size:=by have:=o1.size;omega
 have HLs:=Q3 hL;obtain⟨po,pc,rfl,_⟩:=z8m hL;have bM:=Q3 (HO.out.trans o1);obtain⟨x0,x1,x2,x3,x4,x5,x6,x7,x8,x9⟩:=j2o (o1.heap HfO.out Oz);have fO1:=o1.heap HfO.out Oz;obtain⟨L,hLl⟩:∃ L,(K4 (Q6 q.n st) (64*q.n)).length=L:=⟨_,rfl⟩
 rw[hLl] at HLs ⊢;have pJ:=Q3 fO1;clear hL o1 x0 x1 x2 x3 x4 x9 hLl fO1 p0 p1 r0 r1 nB gQ oW HO HfO;go_wp2_with fail;refine(HV1.out _ _ _ HLs.out).mono ?_;rintro e W2 ⟨rfl,o2'⟩;obtain⟨W3,gv,hW3,aN,f3,o3',hs3⟩:=box1a W2 (Dz k m 32);have o23:=o2'.trans o3';replace x7:=o23.cell x7 Oz;replace x8:=o23.cell x8 Oz;have HLs2:Hid (F7 W3 W0.heap.size (.slice po L pc) (K4 (Q6 q.n st) (64*q.n))):=z2m HLs.out o23 (Nat.zero_le _);have bU:=Q3 (bM.out.trans o23);have gL:=Q3 (And.intro (o23.heap pJ.out Oz) f3);have hgv1:bo<gv:=by have h1:=o2'.size;have h2:=Q7 pJ.out;omega
 clear x5 x6 o2' o3' f3 o23 HLs HV1 bM pJ;go_wp2_with fail;(try rw[hW3]);(try rw[aN]);clear hW3 aN;refine(HV2.out _ _ _ HLs2.out).mono ?_;rintro e W4 ⟨rfl,o4'⟩;obtain⟨W,gw,hW5,hgw,f5,o5',hs5⟩:=box1a W4 (Dz k2 m2 32);have o45:=o4'.trans o5';have fO:=o45.heap gL.out.1 Oz;have fV:=o45.heap gL.out.2 Oz;have fX:=f5;have hgw1:gv<gw:=by have h1:=o4'.size;have h2:=Q7 gL.out.2;omega
 have bL:=Q3 (bU.out.trans o45);have bN:gw+1<=W.heap.size:=Q7 f5;obtain⟨eZ,nN⟩:∃ b,gw+1=b:=⟨_,rfl⟩
 rw[nN] at bN;obtain⟨p0,p1,p2⟩:=(HP.out.quiet bL.out).cells;have r0:=(HP.out.quiet bL.out).be.pc;have r1:=(HP.out.quiet bL.out).be.rc;obtain⟨x0,x1,x2,x3,x4,x5,x6,x7,x8,x9⟩:=j2o fO;obtain⟨v0,v1,_,_⟩:=Q5 fV;obtain⟨u0,u1,_,_⟩:=Q5 fX;have aD:=HP.out.md bL.out;clear p2 o4' o5' f5 o45 HLs2 HV2 bU gL hs3 hs5 hsz1;by_cases k1:kd=1
 ·subst k1;obtain⟨y0,y1,e0,a0,st',hq⟩:∃ y0 y1 e a s',maQ q.n st o2 o3 o4=((y0,y1),(e,a),s'):=⟨_,_,_,_,_,rfl⟩
  have lP:Hid (WI q.n st'.W/\st'.last<=st.last+1):=by
   have q0:=WI.ma HP.out.wi o2 o3 o4;rw[hq] at q0;exact q0
  have eK:Hid (∀ V lim,Mx q w lim st st V->cq V q.hb 0=some (Pq (q.s 14))->Kz 16 #[Pq q.hb,Iz o2,Iz o3,Iz o4] V fun e w'=>e=.returned (.tuple #[Vz y0 y1,Vz e0 a0])/\Mx q w lim st' st w'/\Out q.lo q.hi V w'):=fun V lim hM hc=>by
   have q0:=cI.out;unfold Od at q0;have q:=j5x hM.sp hc (by omega) Hl.out o2 o3 o4 hq;exact q.mono fun e w' ⟨h1,h2,h3⟩=>⟨h1,hM.p cI.out h2 h3,h3⟩
  have gH:Hid (∀ V lim,Mx q w lim st' st V->cq V q.rb 0=some (Pq (q.s2 0))->Kz 22 #[Pq q.rb,Iz o2,Iz o3,Iz o4] V fun e w'=>e=.returned (.tuple #[Vz y0 y1,Vz e0 a0])/\Mx q w lim st' st' w'/\Out q.lo2 q.hi2 V w'):=fun V lim hM hc=>by
   have q0:=cI.out;unfold Od at q0;have q:=j3u hM.rf HP.out.inv (fun k z t=>x2a HP.out.inv k z t) hc (by omega) Hl.out o2 o3 o4 hq;exact q.mono fun e w' ⟨h1,h2,h3⟩=>⟨h1,hM.r cI.out h2 h3,h3⟩
  clear hq;go_wp2_with fail;(try rw[hW5]);(try rw[hgw]);clear hW5 hgw;have dK:=p0;have dJ:=p1;have dG:=r0;have dA:=r1;have dV:=x2;have eY:=x3;have gW:=x4;clear p0 p1 r0 r1 x0 x1 x2 x3 x4 x5 x6 x7 x8 x9 v0 v1 u0 u1 fO fV fX;obtain⟨iK,hlm6⟩:∃ l,W.heap.size=l:=⟨_,rfl⟩
  replace aD:=aD.at;rw[hlm6] at aD;have hlim6:eZ<=iK:=by rw[<-hlm6];exact bN
  clear hlm6;rename_i K hK
  apply x2x (K:=K) (F:=fun g1 g2 V=>Mx q w iK st' st V/\(fun w'=>cq w' q.B 0=some (Pq q.hb)/\cq w' q.B 1=some (Pq q.rb)/\cq w' q.hb 0=some (Pq (q.s 14))/\cq w' q.rb 0=some (Pq (q.s2 0))/\cq w' bo 2=some (Iz o2)/\cq w' bo 3=some (Iz o3)/\cq w' bo 4=some (Iz o4)) V/\V.heap[g1]? = some (Dz y0 y1 32)/\iK<=g1/\V.heap[g2]? = some (Dz e0 a0 46)/\iK<=g2)
  case h1=>
   intro nA;have HK:=Q3 nA;have kp:∀ {V V':World} {x y:Nat},(fun w'=>cq w' q.B 0=some (Pq q.hb)/\cq w' q.B 1=some (Pq q.rb)/\cq w' q.hb 0=some (Pq (q.s 14))/\cq w' q.rb 0=some (Pq (q.s2 0))/\cq w' bo 2=some (Iz o2)/\cq w' bo 3=some (Iz o3)/\cq w' bo 4=some (Iz o4)) V->Out x y V V'->(q.B<x\/y<=q.B)/\(q.hb<x\/y<=q.hb)/\(q.rb<x\/y<=q.rb)/\(bo<x\/y<=bo)->(fun w'=>cq w' q.B 0=some (Pq q.hb)/\cq w' q.B 1=some (Pq q.rb)/\cq w' q.hb 0=some (Pq (q.s 14))/\cq w' q.rb 0=some (Pq (q.s2 0))/\cq w' bo 2=some (Iz o2)/\cq w' bo 3=some (Iz o3)/\cq w' bo 4=some (Iz o4)) V':=fun h o b=>⟨o.cell h.1 b.1,o.cell h.2.1 b.1,o.cell h.2.2.1 b.2.1,o.cell h.2.2.2.1 b.2.2.1,o.cell h.2.2.2.2.1 b.2.2.2,o.cell h.2.2.2.2.2.1 b.2.2.2,o.cell h.2.2.2.2.2.2 b.2.2.2⟩
   refine wp_region_held_drew (S:=fun w'=>cq w' q.B 0=some (Pq q.hb)/\cq w' q.B 1=some (Pq q.rb)/\cq w' q.hb 0=some (Pq (q.s 14))/\cq w' q.rb 0=some (Pq (q.s2 0))/\cq w' bo 2=some (Iz o2)/\cq w' bo 3=some (Iz o3)/\cq w' bo 4=some (Iz o4)) (by kernel_rfl) ?hS543 (fun aB=>?rest543)
   case hS543=>exact⟨dK,dJ,dG,dA,dV,eY,gW⟩
   obtain⟨Z6,hZ⟩:∃ Z,W.drew=Z:=⟨_,rfl⟩
   have oZ:Out 0 0 W Z6:=by rw[<-hZ];exact(Out.refl 0 0 _).drew
   rw[hZ] at aB ⊢;replace aD:=aD.quiet oZ;apply q6j (F:=fun g1 g2 V=>Mx q w iK st' st V/\(fun w'=>cq w' q.B 0=some (Pq q.hb)/\cq w' q.B 1=some (Pq q.rb)/\cq w' q.hb 0=some (Pq (q.s 14))/\cq w' q.rb 0=some (Pq (q.s2 0))/\cq w' bo 2=some (Iz o2)/\cq w' bo 3=some (Iz o3)/\cq w' bo 4=some (Iz o4)) V/\V.heap[g1]? = some (Dz 0 0 32)/\iK<=g1/\V.heap[g2]? = some (Dz 0 0 46)/\iK<=g2/\g1 ≠ g2)
   case h1=>
    intro HC;refine tk 0 ?_;refine tk 1 ?_;refine tk 2 ?_;refine tk 3 ?_;refine tk 4 ?_;refine tk 5 ?_;refine tk 6 ?_;refine tk 7 ?_;refine tk 8 ?_;refine tk 9 ?_;refine rd3 10 14 15 (fun KK hK=>?_) (fun KK hK=>?_) fun KK hK=>?_
    ·go_simp;refine(eK.out _ _ aD aB.2.2.1).mono ?_;rintro e Z6_10 ⟨rfl,aJ,q1⟩;have aD:=aJ;clear aJ;refine hK.out _ _ (kp aB q1 (by omega)) fun aB=>?_
     clear q1 hK KK;refine tk 11 ?_;refine tk 12 ?_;refine tk 13 ?_;refine rd2 14 15 (fun KK hK=>?_) fun KK hK=>?_
     ·go_simp;obtain⟨g1,iQ,aE,hY,qA,aF⟩:=alz Z6_10 (Dz 0 0 32)
      have bC:iK<=g1:=by rw[<-aE];exact aD.lim
      (try rw[hY]);(try rw[aE]);clear hY aE;replace aD:=aD.quiet qA;refine hK.out _ _ (kp aB qA (by omega)) fun aB=>?_
      clear qA hK KK;refine rd1 15 fun KK hK=>?_
      go_simp;obtain⟨g2,lO,aE,hY,qA,aG⟩:=alz iQ (Dz 0 0 46)
      have aZ:iK<=g2:=by rw[<-aE];exact aD.lim
      have eD:g1<g2:=by rw[<-aE];exact Q7 aF
      (try rw[hY]);(try rw[aE]);clear hY aE;replace aD:=aD.quiet qA;replace aF:=qA.heap aF Oz;refine hK.out _ _ (kp aB qA (by omega)) fun aB=>?_
      clear qA hK KK;(try simp only[Act.put,xa,xb,xc,xd,xe,xf]);exact HC g1 g2 _ ⟨aD,aB,aF,bC,aG,aZ,by omega⟩
     ·go_simp;obtain⟨g2,iP,aE,hY,qA,aG⟩:=alz Z6_10 (Dz 0 0 46)
      have aZ:iK<=g2:=by rw[<-aE];exact aD.lim
      (try rw[hY]);(try rw[aE]);clear hY aE;replace aD:=aD.quiet qA;refine hK.out _ _ (kp aB qA (by omega)) fun aB=>?_
      clear qA hK KK;refine rd1 14 fun KK hK=>?_
      go_simp;obtain⟨g1,lN,aE,hY,qA,aF⟩:=alz iP (Dz 0 0 32)
      have bC:iK<=g1:=by rw[<-aE];exact aD.lim
      have eC:g2<g1:=by rw[<-aE];exact Q7 aG
      (try rw[hY]);(try rw[aE]);clear hY aE;replace aD:=aD.quiet qA;replace aG:=qA.heap aG Oz;refine hK.out _ _ (kp aB qA (by omega)) fun aB=>?_
      clear qA hK KK;(try simp only[Act.put,xa,xb,xc,xd,xe,xf]);exact HC g1 g2 _ ⟨aD,aB,aF,bC,aG,aZ,by omega⟩
    ·go_simp;obtain⟨g1,Z6_14,aE,hY,qA,aF⟩:=alz Z6 (Dz 0 0 32)
     have bC:iK<=g1:=by rw[<-aE];exact aD.lim
     (try rw[hY]);(try rw[aE]);clear hY aE;replace aD:=aD.quiet qA;refine hK.out _ _ (kp aB qA (by omega)) fun aB=>?_
     clear qA hK KK;refine rd2 10 15 (fun KK hK=>?_) fun KK hK=>?_
     ·go_simp;refine(eK.out _ _ aD aB.2.2.1).mono ?_;rintro e Z6_14_10 ⟨rfl,aJ,q1⟩;have aD:=aJ;clear aJ;replace aF:=q1.heap aF (by omega);refine hK.out _ _ (kp aB q1 (by omega)) fun aB=>?_
      clear q1 hK KK;refine tk 11 ?_;refine tk 12 ?_;refine tk 13 ?_;refine rd1 15 fun KK hK=>?_
      go_simp;obtain⟨g2,lM,aE,hY,qA,aG⟩:=alz Z6_14_10 (Dz 0 0 46)
      have aZ:iK<=g2:=by rw[<-aE];exact aD.lim
      have eD:g1<g2:=by rw[<-aE];exact Q7 aF
      (try rw[hY]);(try rw[aE]);clear hY aE;replace aD:=aD.quiet qA;replace aF:=qA.heap aF Oz;refine hK.out _ _ (kp aB qA (by omega)) fun aB=>?_
      clear qA hK KK;(try simp only[Act.put,xa,xb,xc,xd,xe,xf]);exact HC g1 g2 _ ⟨aD,aB,aF,bC,aG,aZ,by omega⟩
     ·go_simp;obtain⟨g2,Z6_14_15,aE,hY,qA,aG⟩:=alz Z6_14 (Dz 0 0 46)
      have aZ:iK<=g2:=by rw[<-aE];exact aD.lim
      have eD:g1<g2:=by rw[<-aE];exact Q7 aF
      (try rw[hY]);(try rw[aE]);clear hY aE;replace aD:=aD.quiet qA;replace aF:=qA.heap aF Oz;refine hK.out _ _ (kp aB qA (by omega)) fun aB=>?_
      clear qA hK KK;refine rd1 10 fun KK hK=>?_
      go_simp;refine(eK.out _ _ aD aB.2.2.1).mono ?_;rintro e Z6_14_15_10 ⟨rfl,aJ,q1⟩;have aD:=aJ;clear aJ;replace aF:=q1.heap aF (by omega);replace aG:=q1.heap aG (by omega);refine hK.out _ _ (kp aB q1 (by omega)) fun aB=>?_
      clear q1 hK KK;refine tk 11 ?_;refine tk 12 ?_;refine tk 13 ?_;exact HC g1 g2 _ ⟨aD,aB,aF,bC,aG,aZ,by omega⟩
    ·go_simp;obtain⟨g2,Z6_15,aE,hY,qA,aG⟩:=alz Z6 (Dz 0 0 46)
     have aZ:iK<=g2:=by rw[<-aE];exact aD.lim
     (try rw[hY]);(try rw[aE]);clear hY aE;replace aD:=aD.quiet qA;refine hK.out _ _ (kp aB qA (by omega)) fun aB=>?_
     clear qA hK KK;refine rd2 10 14 (fun KK hK=>?_) fun KK hK=>?_
     ·go_simp;refine(eK.out _ _ aD aB.2.2.1).mono ?_;rintro e Z6_15_10 ⟨rfl,aJ,q1⟩;have aD:=aJ;clear aJ;replace aG:=q1.heap aG (by omega);refine hK.out _ _ (kp aB q1 (by omega)) fun aB=>?_
      clear q1 hK KK;refine tk 11 ?_;refine tk 12 ?_;refine tk 13 ?_;refine rd1 14 fun KK hK=>?_
      go_simp;obtain⟨g1,lL,aE,hY,qA,aF⟩:=alz Z6_15_10 (Dz 0 0 32)
      have bC:iK<=g1:=by rw[<-aE];exact aD.lim
      have eC:g2<g1:=by rw[<-aE];exact Q7 aG
      (try rw[hY]);(try rw[aE]);clear hY aE;replace aD:=aD.quiet qA;replace aG:=qA.heap aG Oz;refine hK.out _ _ (kp aB qA (by omega)) fun aB=>?_
      clear qA hK KK;(try simp only[Act.put,xa,xb,xc,xd,xe,xf]);exact HC g1 g2 _ ⟨aD,aB,aF,bC,aG,aZ,by omega⟩
     ·go_simp;obtain⟨g1,Z6_15_14,aE,hY,qA,aF⟩:=alz Z6_15 (Dz 0 0 32)
      have bC:iK<=g1:=by rw[<-aE];exact aD.lim
      have eC:g2<g1:=by rw[<-aE];exact Q7 aG
      (try rw[hY]);(try rw[aE]);clear hY aE;replace aD:=aD.quiet qA;replace aG:=qA.heap aG Oz;refine hK.out _ _ (kp aB qA (by omega)) fun aB=>?_
      clear qA hK KK;refine rd1 10 fun KK hK=>?_
      go_simp;refine(eK.out _ _ aD aB.2.2.1).mono ?_;rintro e Z6_15_14_10 ⟨rfl,aJ,q1⟩;have aD:=aJ;clear aJ;replace aG:=q1.heap aG (by omega);replace aF:=q1.heap aF (by omega);refine hK.out _ _ (kp aB q1 (by omega)) fun aB=>?_
      clear q1 hK KK;refine tk 11 ?_;refine tk 12 ?_;refine tk 13 ?_;exact HC g1 g2 _ ⟨aD,aB,aF,bC,aG,aZ,by omega⟩
   case h2=>
    intro g1 g2 Z6X hF;obtain⟨aD,aB,aF,bC,aG,aZ,hne6⟩:=hF;refine rd1 16 fun KK hK=>?_
    simp only[xa,xb,xc];obtain⟨Y0,Y1,Y2,Y3⟩:=flt_facts aF;go_simp;obtain⟨pC,hY,qS⟩:=s2z Z6X g1 y0 y1
    replace aF:pC.heap[g1]? = some (Dz y0 y1 32):=by rw[<-hY];simp[World.setCell,Array.getElem?_modify,aF]
    (try rw[hY]);clear hY;replace aD:=aD.far qS cI.out (by omega);replace aG:=qS.heap aG (by omega);refine hK.out _ _ (kp aB qS (by omega)) fun aB=>?_
    clear qS hK KK;refine rd1 17 fun KK hK=>?_
    simp only[xa,xb,xc];obtain⟨Y0,Y1,Y2,Y3⟩:=flt_facts aG;go_simp;obtain⟨nS,hY,qS⟩:=s2z pC g2 e0 a0
    replace aG:nS.heap[g2]? = some (Dz e0 a0 46):=by rw[<-hY];simp[World.setCell,Array.getElem?_modify,aG]
    (try rw[hY]);clear hY;replace aD:=aD.far qS cI.out (by omega);replace aF:=qS.heap aF (by omega);refine hK.out _ _ (kp aB qS (by omega)) fun aB=>?_
    clear qS hK KK;refine dn ?_;exact HK.out g1 g2 _ ⟨aD,aB,aF,bC,aG,aZ⟩
  case h2=>
   intro g1 g2 V1 hF;obtain⟨aD,⟨dK,dJ,dG,dA,dV,eY,gW⟩,aF,bC,aG,aZ⟩:=hF;apply hK;clear hK;have bN:eZ<=V1.heap.size:=Nat.le_trans hlim6 aD.lim;go_wp2_with fail;obtain⟨cE,kS⟩:∃ l,V1.heap.size=l:=⟨_,rfl⟩
   replace aD:=aD.at;rw[kS] at aD;have hlim7:eZ<=cE:=by rw[<-kS];exact bN
   have hc_g1:g1<cE:=by rw[<-kS];exact Q7 aF
   have hc_g2:g2<cE:=by rw[<-kS];exact Q7 aG
   clear kS;rename_i K hK
   apply x2x (K:=K) (F:=fun g3 g4 V=>Mx q w cE st' st' V/\(fun w'=>cq w' q.B 0=some (Pq q.hb)/\cq w' q.B 1=some (Pq q.rb)/\cq w' q.hb 0=some (Pq (q.s 14))/\cq w' q.rb 0=some (Pq (q.s2 0))/\cq w' bo 2=some (Iz o2)/\cq w' bo 3=some (Iz o3)/\cq w' bo 4=some (Iz o4)) V/\V.heap[g3]? = some (Dz y0 y1 32)/\cE<=g3/\V.heap[g4]? = some (Dz e0 a0 46)/\cE<=g4/\V.heap[g1]? = some (Dz y0 y1 32)/\V.heap[g2]? = some (Dz e0 a0 46))
   case h1=>
    intro nA;have HK:=Q3 nA;have kp:∀ {V V':World} {x y:Nat},(fun w'=>cq w' q.B 0=some (Pq q.hb)/\cq w' q.B 1=some (Pq q.rb)/\cq w' q.hb 0=some (Pq (q.s 14))/\cq w' q.rb 0=some (Pq (q.s2 0))/\cq w' bo 2=some (Iz o2)/\cq w' bo 3=some (Iz o3)/\cq w' bo 4=some (Iz o4)) V->Out x y V V'->(q.B<x\/y<=q.B)/\(q.hb<x\/y<=q.hb)/\(q.rb<x\/y<=q.rb)/\(bo<x\/y<=bo)->(fun w'=>cq w' q.B 0=some (Pq q.hb)/\cq w' q.B 1=some (Pq q.rb)/\cq w' q.hb 0=some (Pq (q.s 14))/\cq w' q.rb 0=some (Pq (q.s2 0))/\cq w' bo 2=some (Iz o2)/\cq w' bo 3=some (Iz o3)/\cq w' bo 4=some (Iz o4)) V':=fun h o b=>⟨o.cell h.1 b.1,o.cell h.2.1 b.1,o.cell h.2.2.1 b.2.1,o.cell h.2.2.2.1 b.2.2.1,o.cell h.2.2.2.2.1 b.2.2.2,o.cell h.2.2.2.2.2.1 b.2.2.2,o.cell h.2.2.2.2.2.2 b.2.2.2⟩
    refine wp_region_held_drew (S:=fun w'=>cq w' q.B 0=some (Pq q.hb)/\cq w' q.B 1=some (Pq q.rb)/\cq w' q.hb 0=some (Pq (q.s 14))/\cq w' q.rb 0=some (Pq (q.s2 0))/\cq w' bo 2=some (Iz o2)/\cq w' bo 3=some (Iz o3)/\cq w' bo 4=some (Iz o4)) (by kernel_rfl) ?hS500 (fun aB=>?rest500)
    case hS500=>exact⟨dK,dJ,dG,dA,dV,eY,gW⟩
    obtain⟨Z7,hZ⟩:∃ Z,V1.drew=Z:=⟨_,rfl⟩
    have oZ:Out 0 0 V1 Z7:=by rw[<-hZ];exact(Out.refl 0 0 _).drew
    rw[hZ] at aB ⊢;replace aD:=aD.quiet oZ;replace aF:=oZ.heap aF Oz;replace aG:=oZ.heap aG Oz;apply q6j (F:=fun g3 g4 V=>Mx q w cE st' st' V/\(fun w'=>cq w' q.B 0=some (Pq q.hb)/\cq w' q.B 1=some (Pq q.rb)/\cq w' q.hb 0=some (Pq (q.s 14))/\cq w' q.rb 0=some (Pq (q.s2 0))/\cq w' bo 2=some (Iz o2)/\cq w' bo 3=some (Iz o3)/\cq w' bo 4=some (Iz o4)) V/\V.heap[g3]? = some (Dz 0 0 32)/\cE<=g3/\V.heap[g4]? = some (Dz 0 0 46)/\cE<=g4/\g3 ≠ g4/\V.heap[g1]? = some (Dz y0 y1 32)/\V.heap[g2]? = some (Dz e0 a0 46))
    case h1=>
     intro HC;refine tk 0 ?_;refine tk 1 ?_;refine tk 2 ?_;refine tk 3 ?_;refine tk 4 ?_;refine tk 5 ?_;refine tk 6 ?_;refine tk 7 ?_;refine tk 8 ?_;refine tk 9 ?_;refine rd3 10 14 15 (fun KK hK=>?_) (fun KK hK=>?_) fun KK hK=>?_
     ·go_simp;refine(gH.out _ _ aD aB.2.2.2.1).mono ?_;rintro e Z7_10 ⟨rfl,aJ,q1⟩;have aD:=aJ;clear aJ;replace aF:=q1.heap aF (by omega);replace aG:=q1.heap aG (by omega);refine hK.out _ _ (kp aB q1 (by omega)) fun aB=>?_
      clear q1 hK KK;refine tk 11 ?_;refine tk 12 ?_;refine tk 13 ?_;refine rd2 14 15 (fun KK hK=>?_) fun KK hK=>?_
      ·go_simp;obtain⟨g3,iO,aE,hY,qA,aU⟩:=alz Z7_10 (Dz 0 0 32)
       have bI:cE<=g3:=by rw[<-aE];exact aD.lim
       (try rw[hY]);(try rw[aE]);clear hY aE;replace aD:=aD.quiet qA;replace aF:=qA.heap aF Oz;replace aG:=qA.heap aG Oz;refine hK.out _ _ (kp aB qA (by omega)) fun aB=>?_
       clear qA hK KK;refine rd1 15 fun KK hK=>?_
       go_simp;obtain⟨g4,lK,aE,hY,qA,aT⟩:=alz iO (Dz 0 0 46)
       have bH:cE<=g4:=by rw[<-aE];exact aD.lim
       have eB:g3<g4:=by rw[<-aE];exact Q7 aU
       (try rw[hY]);(try rw[aE]);clear hY aE;replace aD:=aD.quiet qA;replace aF:=qA.heap aF Oz;replace aG:=qA.heap aG Oz;replace aU:=qA.heap aU Oz;refine hK.out _ _ (kp aB qA (by omega)) fun aB=>?_
       clear qA hK KK;(try simp only[Act.put,xa,xb,xc,xd,xe,xf]);exact HC g3 g4 _ ⟨aD,aB,aU,bI,aT,bH,by omega,aF,aG⟩
      ·go_simp;obtain⟨g4,iN,aE,hY,qA,aT⟩:=alz Z7_10 (Dz 0 0 46)
       have bH:cE<=g4:=by rw[<-aE];exact aD.lim
       (try rw[hY]);(try rw[aE]);clear hY aE;replace aD:=aD.quiet qA;replace aF:=qA.heap aF Oz;replace aG:=qA.heap aG Oz;refine hK.out _ _ (kp aB qA (by omega)) fun aB=>?_
       clear qA hK KK;refine rd1 14 fun KK hK=>?_
       go_simp;obtain⟨g3,lJ,aE,hY,qA,aU⟩:=alz iN (Dz 0 0 32)
       have bI:cE<=g3:=by rw[<-aE];exact aD.lim
       have eA:g4<g3:=by rw[<-aE];exact Q7 aT
       (try rw[hY]);(try rw[aE]);clear hY aE;replace aD:=aD.quiet qA;replace aF:=qA.heap aF Oz;replace aG:=qA.heap aG Oz;replace aT:=qA.heap aT Oz;refine hK.out _ _ (kp aB qA (by omega)) fun aB=>?_
       clear qA hK KK;(try simp only[Act.put,xa,xb,xc,xd,xe,xf]);exact HC g3 g4 _ ⟨aD,aB,aU,bI,aT,bH,by omega,aF,aG⟩
     ·go_simp;obtain⟨g3,Z7_14,aE,hY,qA,aU⟩:=alz Z7 (Dz 0 0 32)
      have bI:cE<=g3:=by rw[<-aE];exact aD.lim
      (try rw[hY]);(try rw[aE]);clear hY aE;replace aD:=aD.quiet qA;replace aF:=qA.heap aF Oz;replace aG:=qA.heap aG Oz;refine hK.out _ _ (kp aB qA (by omega)) fun aB=>?_
      clear qA hK KK;refine rd2 10 15 (fun KK hK=>?_) fun KK hK=>?_
      ·go_simp;refine(gH.out _ _ aD aB.2.2.2.1).mono ?_;rintro e Z7_14_10 ⟨rfl,aJ,q1⟩;have aD:=aJ;clear aJ;replace aF:=q1.heap aF (by omega);replace aG:=q1.heap aG (by omega);replace aU:=q1.heap aU (by omega);refine hK.out _ _ (kp aB q1 (by omega)) fun aB=>?_
       clear q1 hK KK;refine tk 11 ?_;refine tk 12 ?_;refine tk 13 ?_;refine rd1 15 fun KK hK=>?_
       go_simp;obtain⟨g4,lI,aE,hY,qA,aT⟩:=alz Z7_14_10 (Dz 0 0 46)
       have bH:cE<=g4:=by rw[<-aE];exact aD.lim
       have eB:g3<g4:=by rw[<-aE];exact Q7 aU
       (try rw[hY]);(try rw[aE]);clear hY aE;replace aD:=aD.quiet qA;replace aF:=qA.heap aF Oz;replace aG:=qA.heap aG Oz;replace aU:=qA.heap aU Oz;refine hK.out _ _ (kp aB qA (by omega)) fun aB=>?_
       clear qA hK KK;(try simp only[Act.put,xa,xb,xc,xd,xe,xf]);exact HC g3 g4 _ ⟨aD,aB,aU,bI,aT,bH,by omega,aF,aG⟩
      ·go_simp;obtain⟨g4,Z7_14_15,aE,hY,qA,aT⟩:=alz Z7_14 (Dz 0 0 46)
       have bH:cE<=g4:=by rw[<-aE];exact aD.lim
       have eB:g3<g4:=by rw[<-aE];exact Q7 aU
       (try rw[hY]);(try rw[aE]);clear hY aE;replace aD:=aD.quiet qA;replace aF:=qA.heap aF Oz;replace aG:=qA.heap aG Oz;replace aU:=qA.heap aU Oz;refine hK.out _ _ (kp aB qA (by omega)) fun aB=>?_
       clear qA hK KK;refine rd1 10 fun KK hK=>?_
       go_simp;refine(gH.out _ _ aD aB.2.2.2.1).mono ?_;rintro e Z7_14_15_10 ⟨rfl,aJ,q1⟩;have aD:=aJ;clear aJ;replace aF:=q1.heap aF (by omega);replace aG:=q1.heap aG (by omega);replace aU:=q1.heap aU (by omega);replace aT:=q1.heap aT (by omega);refine hK.out _ _ (kp aB q1 (by omega)) fun aB=>?_
       clear q1 hK KK;refine tk 11 ?_;refine tk 12 ?_;refine tk 13 ?_;exact HC g3 g4 _ ⟨aD,aB,aU,bI,aT,bH,by omega,aF,aG⟩
     ·go_simp;obtain⟨g4,Z7_15,aE,hY,qA,aT⟩:=alz Z7 (Dz 0 0 46)
      have bH:cE<=g4:=by rw[<-aE];exact aD.lim
      (try rw[hY]);(try rw[aE]);clear hY aE;replace aD:=aD.quiet qA;replace aF:=qA.heap aF Oz;replace aG:=qA.heap aG Oz;refine hK.out _ _ (kp aB qA (by omega)) fun aB=>?_
      clear qA hK KK;refine rd2 10 14 (fun KK hK=>?_) fun KK hK=>?_
      ·go_simp;refine(gH.out _ _ aD aB.2.2.2.1).mono ?_;rintro e Z7_15_10 ⟨rfl,aJ,q1⟩;have aD:=aJ;clear aJ;replace aF:=q1.heap aF (by omega);replace aG:=q1.heap aG (by omega);replace aT:=q1.heap aT (by omega);refine hK.out _ _ (kp aB q1 (by omega)) fun aB=>?_
       clear q1 hK KK;refine tk 11 ?_;refine tk 12 ?_;refine tk 13 ?_;refine rd1 14 fun KK hK=>?_
       go_simp;obtain⟨g3,lH,aE,hY,qA,aU⟩:=alz Z7_15_10 (Dz 0 0 32)
       have bI:cE<=g3:=by rw[<-aE];exact aD.lim
       have eA:g4<g3:=by rw[<-aE];exact Q7 aT
       (try rw[hY]);(try rw[aE]);clear hY aE;replace aD:=aD.quiet qA;replace aF:=qA.heap aF Oz;replace aG:=qA.heap aG Oz;replace aT:=qA.heap aT Oz;refine hK.out _ _ (kp aB qA (by omega)) fun aB=>?_
       clear qA hK KK;(try simp only[Act.put,xa,xb,xc,xd,xe,xf]);exact HC g3 g4 _ ⟨aD,aB,aU,bI,aT,bH,by omega,aF,aG⟩
      ·go_simp;obtain⟨g3,Z7_15_14,aE,hY,qA,aU⟩:=alz Z7_15 (Dz 0 0 32)
       have bI:cE<=g3:=by rw[<-aE];exact aD.lim
       have eA:g4<g3:=by rw[<-aE];exact Q7 aT
       (try rw[hY]);(try rw[aE]);clear hY aE;replace aD:=aD.quiet qA;replace aF:=qA.heap aF Oz;replace aG:=qA.heap aG Oz;replace aT:=qA.heap aT Oz;refine hK.out _ _ (kp aB qA (by omega)) fun aB=>?_
       clear qA hK KK;refine rd1 10 fun KK hK=>?_
       go_simp;refine(gH.out _ _ aD aB.2.2.2.1).mono ?_;rintro e Z7_15_14_10 ⟨rfl,aJ,q1⟩;have aD:=aJ;clear aJ;replace aF:=q1.heap aF (by omega);replace aG:=q1.heap aG (by omega);replace aT:=q1.heap aT (by omega);replace aU:=q1.heap aU (by omega);refine hK.out _ _ (kp aB q1 (by omega)) fun aB=>?_
       clear q1 hK KK;refine tk 11 ?_;refine tk 12 ?_;refine tk 13 ?_;exact HC g3 g4 _ ⟨aD,aB,aU,bI,aT,bH,by omega,aF,aG⟩
    case h2=>
     intro g3 g4 Z7X hF;obtain⟨aD,aB,aU,bI,aT,bH,hne7,aF,aG⟩:=hF;refine rd1 16 fun KK hK=>?_
     simp only[xa,xb,xc];obtain⟨Y0,Y1,Y2,Y3⟩:=flt_facts aU;go_simp;obtain⟨oX,hY,qS⟩:=s2z Z7X g3 y0 y1
     replace aU:oX.heap[g3]? = some (Dz y0 y1 32):=by rw[<-hY];simp[World.setCell,Array.getElem?_modify,aU]
     (try rw[hY]);clear hY;replace aD:=aD.far qS cI.out (by omega);replace aF:=qS.heap aF (by omega);replace aG:=qS.heap aG (by omega);replace aT:=qS.heap aT (by omega);refine hK.out _ _ (kp aB qS (by omega)) fun aB=>?_
     clear qS hK KK;refine rd1 17 fun KK hK=>?_
     simp only[xa,xb,xc];obtain⟨Y0,Y1,Y2,Y3⟩:=flt_facts aT;go_simp;obtain⟨nQ,hY,qS⟩:=s2z oX g4 e0 a0
     replace aT:nQ.heap[g4]? = some (Dz e0 a0 46):=by rw[<-hY];simp[World.setCell,Array.getElem?_modify,aT]
     (try rw[hY]);clear hY;replace aD:=aD.far qS cI.out (by omega);replace aF:=qS.heap aF (by omega);replace aG:=qS.heap aG (by omega);replace aU:=qS.heap aU (by omega);refine hK.out _ _ (kp aB qS (by omega)) fun aB=>?_
     clear qS hK KK;refine dn ?_;exact HK.out g3 g4 _ ⟨aD,aB,aU,bI,aT,bH,aF,aG⟩
   case h2=>
    intro g3 g4 V2 hF;obtain⟨aD,⟨dK,dJ,dG,dA,dV,eY,gW⟩,aU,bI,aT,bH,aF,aG⟩:=hF;apply hK;clear hK;have bN:eZ<=V2.heap.size:=Nat.le_trans hlim7 aD.lim;have HE:=Q3 (aD.e9 (st:=st) lP.out.1 lP.out.2 dG dA);obtain⟨s0,s1,_,_⟩:=Q5 aF;obtain⟨t0,t1,_,_⟩:=Q5 aU;obtain⟨z0,z1,_,_⟩:=flt_facts aG;obtain⟨zz0,zz1,_,_⟩:=flt_facts aT;have hE:=eqv1 y0 y1;clear aD dK dJ dG dA dV eY gW;go_wp2_with fail;refine(z4t _ _ _ _ _).mono ?_;rintro e V9 ⟨rfl,q9⟩;have pK:=Q3 (HE.out.quiet q9);clear q9 HE;go_wp2
    all_goals go_ret
    all_goals exact⟨z0d (by simp),pK.out⟩
 by_cases k2':kd=2
 ·subst k2';go_wp2_with fail;(try rw[hW5]);(try rw[hgw]);clear hW5 hgw;refine(x1f (HP.out.quiet bL.out) Hl.out (HB.out.1.kept bL.out (.inr rfl)) HB.out.2.1 HB.out.2.2).mono ?_;rintro e W9 ⟨rfl,he⟩;have HE:Hid (E9 q st w W9):=by
   obtain⟨st',e1,e2,e3,e4,e5,e6,e7⟩:=he;exact⟨st',e1,e2,e3,e4,(bL.out.any _ _).trans e5,e6,e7⟩
  clear he;go_wp2;go_ret;exact⟨rfl,HE.out⟩
 by_cases k5:kd=5
 ·subst k5;obtain⟨e0,a0,st',hq⟩:∃ e a s',seQ q.n st k m o2 k2 m2=(e,a,s'):=⟨_,_,_,rfl⟩
  have lP:Hid (WI q.n st'.W/\st'.last=st.last):=by
   have q0:=WI.se HP.out.wi k m o2 k2 m2;rw[hq] at q0;exact q0
  have eK:Hid (∀ V lim,Mx q w lim st st V->cq V q.hb 0=some (Pq (q.s 14))->Kz 17 #[Pq q.hb,Vz k m,Iz o2,Vz k2 m2] V fun e w'=>e=.returned (Vz e0 a0)/\Mx q w lim st' st w'/\Out q.lo q.hi V w'):=fun V lim hM hc=>by
   have q0:=cI.out;unfold Od at q0;have q:=x0h hM.sp hc (by omega) k m o2 k2 m2 hq;exact q.mono fun e w' ⟨h1,h2,h3⟩=>⟨h1,hM.p cI.out h2 h3,h3⟩
  have gH:Hid (∀ V lim,Mx q w lim st' st V->cq V q.rb 0=some (Pq (q.s2 0))->Kz 25 #[Pq q.rb,Vz k m,Iz o2,Vz k2 m2] V fun e w'=>e=.returned (Vz e0 a0)/\Mx q w lim st' st' w'/\Out q.lo2 q.hi2 V w'):=fun V lim hM hc=>by
   have q0:=cI.out;unfold Od at q0;have q:=j8s hM.rf HP.out.inv hc (by omega) k m o2 k2 m2 hq;exact q.mono fun e w' ⟨h1,h2,h3⟩=>⟨h1,hM.r cI.out h2 h3,h3⟩
  clear hq;go_wp2_with fail;(try rw[hW5]);(try rw[hgw]);clear hW5 hgw;have dK:=p0;have dJ:=p1;have dG:=r0;have dA:=r1;have dV:=v0;have eY:=v1;have gW:=x2;have cl7:=u0;have cl8:=u1;clear p0 p1 r0 r1 x0 x1 x2 x3 x4 x5 x6 x7 x8 x9 v0 v1 u0 u1 fO fV fX;obtain⟨lim12,hlm12⟩:∃ l,W.heap.size=l:=⟨_,rfl⟩
  replace aD:=aD.at;rw[hlm12] at aD;have hlim12:eZ<=lim12:=by rw[<-hlm12];exact bN
  clear hlm12;have kp:∀ {V V':World} {x y:Nat},(fun w'=>cq w' q.B 0=some (Pq q.hb)/\cq w' q.B 1=some (Pq q.rb)/\cq w' q.hb 0=some (Pq (q.s 14))/\cq w' q.rb 0=some (Pq (q.s2 0))/\cq w' gv 0=some (Iz k)/\cq w' gv 1=some (Iz m)/\cq w' bo 2=some (Iz o2)/\cq w' gw 0=some (Iz k2)/\cq w' gw 1=some (Iz m2)) V->Out x y V V'->(q.B<x\/y<=q.B)/\(q.hb<x\/y<=q.hb)/\(q.rb<x\/y<=q.rb)/\(gv<x\/y<=gv)/\(bo<x\/y<=bo)/\(gw<x\/y<=gw)->(fun w'=>cq w' q.B 0=some (Pq q.hb)/\cq w' q.B 1=some (Pq q.rb)/\cq w' q.hb 0=some (Pq (q.s 14))/\cq w' q.rb 0=some (Pq (q.s2 0))/\cq w' gv 0=some (Iz k)/\cq w' gv 1=some (Iz m)/\cq w' bo 2=some (Iz o2)/\cq w' gw 0=some (Iz k2)/\cq w' gw 1=some (Iz m2)) V':=fun h o b=>⟨o.cell h.1 b.1,o.cell h.2.1 b.1,o.cell h.2.2.1 b.2.1,o.cell h.2.2.2.1 b.2.2.1,o.cell h.2.2.2.2.1 b.2.2.2.1,o.cell h.2.2.2.2.2.1 b.2.2.2.1,o.cell h.2.2.2.2.2.2.1 b.2.2.2.2.1,o.cell h.2.2.2.2.2.2.2.1 b.2.2.2.2.2,o.cell h.2.2.2.2.2.2.2.2 b.2.2.2.2.2⟩
  refine wp_region_held_drew (S:=fun w'=>cq w' q.B 0=some (Pq q.hb)/\cq w' q.B 1=some (Pq q.rb)/\cq w' q.hb 0=some (Pq (q.s 14))/\cq w' q.rb 0=some (Pq (q.s2 0))/\cq w' gv 0=some (Iz k)/\cq w' gv 1=some (Iz m)/\cq w' bo 2=some (Iz o2)/\cq w' gw 0=some (Iz k2)/\cq w' gw 1=some (Iz m2)) (by kernel_rfl) ?hS586 (fun aB=>?rest586)
  case hS586=>exact⟨dK,dJ,dG,dA,dV,eY,gW,cl7,cl8⟩
  obtain⟨Z12,hZ⟩:∃ Z,W.drew=Z:=⟨_,rfl⟩
  have oZ:Out 0 0 W Z12:=by rw[<-hZ];exact(Out.refl 0 0 _).drew
  rw[hZ] at aB ⊢;replace aD:=aD.quiet oZ;clear hZ oZ dK dJ dG dA dV eY gW cl7 cl8;refine tk 0 ?_;refine tk 1 ?_;refine tk 2 ?_;refine tk 3 ?_;refine tk 4 ?_;refine tk 5 ?_;refine tk 6 ?_;refine tk 7 ?_;refine tk 9 ?_;refine tk 10 ?_;refine tk 11 ?_;refine tk 12 ?_;refine tk 13 ?_;refine tk 14 ?_;refine tk 15 ?_;refine tk 16 ?_;refine rd1 8 fun KK hK=>?_
  go_simp;refine(eK.out _ _ aD aB.2.2.1).mono ?_;rintro e Z12_8 ⟨rfl,aJ,q1⟩;clear aD;have aD:=aJ;clear aJ;refine hK.out _ _ (kp aB q1 (by omega)) fun aB=>?_
  clear q1 hK KK;refine rd1 17 fun KK hK=>?_
  go_simp;refine(gH.out _ _ aD aB.2.2.2.1).mono ?_;rintro e Z12_8_17 ⟨rfl,aJ,q1⟩;clear aD;have aD:=aJ;clear aJ;refine hK.out _ _ (kp aB q1 (by omega)) fun aB=>?_
  clear q1 hK KK;refine rd1 18 fun KK hK=>?_
  go_simp;refine(z4t _ _ _ _ _).mono ?_;rintro e Z12_8_17_18 ⟨rfl,q1⟩;replace aD:=aD.quiet q1;refine hK.out _ _ (kp aB q1 (by omega)) fun aB=>?_
  clear q1 hK KK;refine tk 19 ?_;refine dn ?_;have HE:=Q3 (aD.e9 (st:=st) lP.out.1 (by have:=lP.out.2;omega) aB.2.2.1 aB.2.2.2.1);clear aB aD;go_wp2
  all_goals go_ret
  all_goals exact⟨z0d (by simp),HE.out⟩
 by_cases k7:kd=7
 ·subst k7;obtain⟨e0,a0,st',hq⟩:∃ e a s',srQ q.n st k m o2 o3=(e,a,s'):=⟨_,_,_,rfl⟩
  have lP:Hid (WI q.n st'.W/\st'.last=st.last):=by
   have q0:=WI.sr HP.out.wi k m o2 HI.out.1;rw[hq] at q0;exact q0
  have eK:Hid (∀ V lim,Mx q w lim st st V->cq V q.hb 0=some (Pq (q.s 14))->Kz 26 #[Pq q.hb,Vz k m,Iz o2,Iz o3] V fun e w'=>e=.returned (Vz e0 a0)/\Mx q w lim st' st w'/\Out q.lo q.hi V w'):=fun V lim hM hc=>by
   have q0:=cI.out;unfold Od at q0;have q:=q7m hM.sp hc (by omega) k m o2 o3 hq;exact q.mono fun e w' ⟨h1,h2,h3⟩=>⟨h1,hM.p cI.out h2 h3,h3⟩
  have gH:Hid (∀ V lim,Mx q w lim st' st V->cq V q.rb 0=some (Pq (q.s2 0))->Kz 27 #[Pq q.rb,Vz k m,Iz o2,Iz o3] V fun e w'=>e=.returned (Vz e0 a0)/\Mx q w lim st' st' w'/\Out q.lo2 q.hi2 V w'):=fun V lim hM hc=>by
   have q0:=cI.out;unfold Od at q0;have q:=q6q hM.rf HP.out.inv hc (by omega) k m o2 o3 hq;exact q.mono fun e w' ⟨h1,h2,h3⟩=>⟨h1,hM.r cI.out h2 h3,h3⟩
  clear hq;go_wp2_with fail;(try rw[hW5]);(try rw[hgw]);clear hW5 hgw;have dK:=p0;have dJ:=p1;have dG:=r0;have dA:=r1;have dV:=v0;have eY:=v1;have gW:=x2;have cl7:=x3;clear p0 p1 r0 r1 x0 x1 x2 x3 x4 x5 x6 x7 x8 x9 v0 v1 u0 u1 fO fV fX;obtain⟨lim14,hlm14⟩:∃ l,W.heap.size=l:=⟨_,rfl⟩
  replace aD:=aD.at;rw[hlm14] at aD;have hlim14:eZ<=lim14:=by rw[<-hlm14];exact bN
  clear hlm14;have kp:∀ {V V':World} {x y:Nat},(fun w'=>cq w' q.B 0=some (Pq q.hb)/\cq w' q.B 1=some (Pq q.rb)/\cq w' q.hb 0=some (Pq (q.s 14))/\cq w' q.rb 0=some (Pq (q.s2 0))/\cq w' gv 0=some (Iz k)/\cq w' gv 1=some (Iz m)/\cq w' bo 2=some (Iz o2)/\cq w' bo 3=some (Iz o3)) V->Out x y V V'->(q.B<x\/y<=q.B)/\(q.hb<x\/y<=q.hb)/\(q.rb<x\/y<=q.rb)/\(gv<x\/y<=gv)/\(bo<x\/y<=bo)->(fun w'=>cq w' q.B 0=some (Pq q.hb)/\cq w' q.B 1=some (Pq q.rb)/\cq w' q.hb 0=some (Pq (q.s 14))/\cq w' q.rb 0=some (Pq (q.s2 0))/\cq w' gv 0=some (Iz k)/\cq w' gv 1=some (Iz m)/\cq w' bo 2=some (Iz o2)/\cq w' bo 3=some (Iz o3)) V':=fun h o b=>⟨o.cell h.1 b.1,o.cell h.2.1 b.1,o.cell h.2.2.1 b.2.1,o.cell h.2.2.2.1 b.2.2.1,o.cell h.2.2.2.2.1 b.2.2.2.1,o.cell h.2.2.2.2.2.1 b.2.2.2.1,o.cell h.2.2.2.2.2.2.1 b.2.2.2.2,o.cell h.2.2.2.2.2.2.2 b.2.2.2.2⟩
  refine wp_region_held_drew (S:=fun w'=>cq w' q.B 0=some (Pq q.hb)/\cq w' q.B 1=some (Pq q.rb)/\cq w' q.hb 0=some (Pq (q.s 14))/\cq w' q.rb 0=some (Pq (q.s2 0))/\cq w' gv 0=some (Iz k)/\cq w' gv 1=some (Iz m)/\cq w' bo 2=some (Iz o2)/\cq w' bo 3=some (Iz o3)) (by kernel_rfl) ?hS607 (fun aB=>?rest607)
  case hS607=>exact⟨dK,dJ,dG,dA,dV,eY,gW,cl7⟩
  obtain⟨Z14,hZ⟩:∃ Z,W.drew=Z:=⟨_,rfl⟩
  have oZ:Out 0 0 W Z14:=by rw[<-hZ];exact(Out.refl 0 0 _).drew
  rw[hZ] at aB ⊢;replace aD:=aD.quiet oZ;clear hZ oZ dK dJ dG dA dV eY gW cl7;refine tk 0 ?_;refine tk 1 ?_;refine tk 2 ?_;refine tk 3 ?_;refine tk 4 ?_;refine tk 5 ?_;refine tk 6 ?_;refine tk 7 ?_;refine tk 8 ?_;refine tk 10 ?_;refine tk 11 ?_;refine tk 12 ?_;refine tk 13 ?_;refine tk 14 ?_;refine tk 15 ?_;refine tk 16 ?_;refine tk 17 ?_;refine tk 18 ?_;refine rd1 9 fun KK hK=>?_
  go_simp;refine(eK.out _ _ aD aB.2.2.1).mono ?_;rintro e Z14_9 ⟨rfl,aJ,q1⟩;clear aD;have aD:=aJ;clear aJ;refine hK.out _ _ (kp aB q1 (by omega)) fun aB=>?_
  clear q1 hK KK;refine rd1 19 fun KK hK=>?_
  go_simp;refine(gH.out _ _ aD aB.2.2.2.1).mono ?_;rintro e Z14_9_19 ⟨rfl,aJ,q1⟩;clear aD;have aD:=aJ;clear aJ;refine hK.out _ _ (kp aB q1 (by omega)) fun aB=>?_
  clear q1 hK KK;refine rd1 20 fun KK hK=>?_
  go_simp;refine(z4t _ _ _ _ _).mono ?_;rintro e Z14_9_19_20 ⟨rfl,q1⟩;replace aD:=aD.quiet q1;refine hK.out _ _ (kp aB q1 (by omega)) fun aB=>?_
  clear q1 hK KK;refine tk 21 ?_;refine dn ?_;have HE:=Q3 (aD.e9 (st:=st) lP.out.1 (by have:=lP.out.2;omega) aB.2.2.1 aB.2.2.2.1);clear aB aD;go_wp2
  all_goals go_ret
  all_goals exact⟨z0d (by simp),HE.out⟩
 have e1:(kd == 1)=false:=by simpa using k1
 have e2:(kd == 2)=false:=by simpa using k2'
 have e5:(kd == 5)=false:=by simpa using k5
 have e7:(kd == 7)=false:=by simpa using k7
 clear k1 k2' k5 k7;by_cases kk3:kd=3
 ·subst kk3;go_wp2_with fail;(try rw[hW5]);(try rw[hgw]);clear hW5 hgw;refine(x3z (HP.out.quiet bL.out) o0 o2 o3 o4 o5 o6 o7 o8 k m k2 m2 bp bs.length bc).mono ?_;rintro e W9 ⟨rfl,he⟩;have HE:Hid (E9 q st w W9):=by
   obtain⟨st',e1,e2,e3,e4,e5,e6,e7⟩:=he;exact⟨st',e1,e2,e3,e4,(bL.out.any _ _).trans e5,e6,e7⟩
  clear he;go_wp2;go_ret;exact⟨rfl,HE.out⟩
 have ee3:(kd == 3)=false:=by simpa using kk3
 by_cases kk4:kd=4
 ·subst kk4;go_wp2_with fail;(try rw[hW5]);(try rw[hgw]);clear hW5 hgw;refine(x4a (HP.out.quiet bL.out) o0 o2 o3 o4 o5 o6 o7 o8 k m k2 m2 bp bs.length bc).mono ?_;rintro e W9 ⟨rfl,he⟩;have HE:Hid (E9 q st w W9):=by
   obtain⟨st',e1,e2,e3,e4,e5,e6,e7⟩:=he;exact⟨st',e1,e2,e3,e4,(bL.out.any _ _).trans e5,e6,e7⟩
  clear he;go_wp2;go_ret;exact⟨rfl,HE.out⟩
 have ee4:(kd == 4)=false:=by simpa using kk4
 have hk9:kd<1\/20<=kd:=by
  have h0:=Hk.out;have h1:kd ≠ 1:=by simpa using e1
  have h2:kd ≠ 2:=by simpa using e2
  have h5:kd ≠ 5:=by simpa using e5
  have h7:kd ≠ 7:=by simpa using e7
  omega
 have ee6:(kd == 6)=false:=by simp;omega
 have ee8:(kd == 8)=false:=by simp;omega
 have ee9:(kd == 9)=false:=by simp;omega
 have ee10:(kd == 10)=false:=by simp;omega
 clear kk3 kk4;go_wp2_with fail;(try rw[hW5]);(try rw[hgw]);clear hW5 hgw;have HS:Hid (Kz 29 #[Pq q.B,.agg #[Iz o0,Iz kd,Iz o2,Iz o3,Iz o4,Iz o5,Iz o6,Iz o7,Iz o8,.slice bp bs.length bc],Vz k m,Vz k2 m2] W fun e w'=>e=.returned (.bool true)/\E9 q st W w'):=by
  by_cases c20:kd=20
  ·subst c20;exact x5c (HP.out.quiet bL.out) o0 o2 o3 o4 o5 o6 o7 o8 k m k2 m2 bp bs.length bc HI.out.1
  by_cases c21:kd=21
  ·subst c21;exact x5d (HP.out.quiet bL.out) o0 o2 o3 o4 o5 o6 o7 o8 k m k2 m2 bp bs.length bc HI.out.1
  by_cases c22:kd=22
  ·subst c22;exact x5e (HP.out.quiet bL.out) o0 o2 o3 o4 o5 o6 o7 o8 k m k2 m2 bp bs.length bc
  by_cases c23:kd=23
  ·subst c23;exact x5f (HP.out.quiet bL.out) o0 o2 o3 o4 o5 o6 o7 o8 k m k2 m2 bp bs.length bc HI.out.1 Hl.out
  by_cases c24:kd=24
  ·subst c24;exact x5g (HP.out.quiet bL.out) o0 o2 o3 o4 o5 o6 o7 o8 k m k2 m2 bp bc (HB.out.1.kept bL.out (.inr rfl)) HB.out.2.1 HB.out.2.2
  by_cases c25:kd=25
  ·subst c25;exact x5h (HP.out.quiet bL.out) o0 o2 o3 o4 o5 o6 o7 o8 k m k2 m2 bp bs.length bc HI.out.1
  exact x1c (HP.out.quiet bL.out) o0 o2 o3 o4 o5 o6 o7 o8 k m k2 m2 bp bs.length bc (by omega)
 refine HS.out.mono ?_;rintro e W9 ⟨rfl,he⟩;have HE:Hid (E9 q st w W9):=by
  obtain⟨st',e1,e2,e3,e4,e5,e6,e7⟩:=he;exact⟨st',e1,e2,e3,e4,(bL.out.any _ _).trans e5,e6,e7⟩
 clear he;go_wp2;go_ret;exact⟨rfl,HE.out⟩
end
end Go.Proofs.YtjgnogflgoihfaaGreatDoor
