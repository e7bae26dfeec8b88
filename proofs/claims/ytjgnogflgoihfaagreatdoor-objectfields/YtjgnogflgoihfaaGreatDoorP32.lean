import Derived.Test.YtjgnogflgoihfaaGreatDoorP31
set_option linter.unusedSimpArgs false
set_option linter.unusedVariables false
set_option maxHeartbeats 16000000
set_option maxRecDepth 100000
namespace Go.Proofs.YtjgnogflgoihfaaGreatDoor
open Go.RowKit
section
variable {w:World} {q:Q9} {st:Sp} {c:Nat}
theorem x3z (h:PB w q st c) (o0 o2 o3 o4 o5 o6 o7 o8 k m k2 m2:Int) (bp:Option Addr) (bl bc:Nat):Kz 28 #[Pq q.B,.agg #[Iz o0,Iz 3,Iz o2,Iz o3,Iz o4,Iz o5,Iz o6,Iz o7,Iz o8,.slice bp bl bc],Vz k m,Vz k2 m2] w fun e w'=>e=.returned (.bool true)/\E9 q st w w':=by
 have HP:=Q3 h;have cI:=Q3 h.od;obtain⟨W,bo,hW,dH,fO,fV,fX,oW,gQ⟩:=q1m w (.cells #[Iz o0,Iz 3,Iz o2,Iz o3,Iz o4,Iz o5,Iz o6,Iz o7,Iz o8,.slice bp bl bc] 35) (Dz k m 32) (Dz k2 m2 32);have cY:=h.od;rw[dH] at cY;unfold Od at cY;obtain⟨p0,p1,p2⟩:=(h.quiet oW).cells;have r0:=(h.quiet oW).be.pc;have r1:=(h.quiet oW).be.rc;obtain⟨x0,x1,x2,x3,x4,x5,x6,x7,x8,x9⟩:=j2o fO;obtain⟨v0,v1,_,_⟩:=Q5 fV;obtain⟨u0,u1,_,_⟩:=Q5 fX;have aD:=h.md oW;have bN:bo+3<=W.heap.size:=by omega
 have Hbo:=Q3 dH;obtain⟨eZ,nN⟩:∃ b,bo+3=b:=⟨_,rfl⟩
 rw[nN] at bN;have dK:=p0;have dJ:=p1;have dG:=r0;have dA:=r1;have dV:=v0;have eY:=v1;clear h fO fV fX;obtain⟨b0,b1,b2,b3,b4,e0,a0,hq⟩:∃ b0 b1 b2 b3 b4 e a,opQ q.n st k m=((b0,b1,b2,b3,b4),e,a):=⟨_,_,_,_,_,_,_,rfl⟩
 have eK:Hid (∀ V lim,Mx q w lim st st V->cq V q.hb 0=some (Pq (q.s 14))->Kz 71 #[Pq q.hb,Vz k m] V fun e w'=>e=.returned (.tuple #[Wz b0 b1 b2 b3 b4,Vz e0 a0])/\Mx q w lim st st w'/\Out 0 0 V w'):=fun V lim hM hc=>by
  have q0:=cI.out;unfold Od at q0;have q:=j5y hM.sp hc k m hq;exact q.mono fun e w' ⟨h1,h2⟩=>⟨h1,hM.quiet h2,h2⟩
 have gH:Hid (∀ V lim,Mx q w lim st st V->cq V q.rb 0=some (Pq (q.s2 0))->Kz 72 #[Pq q.rb,Vz k m] V fun e w'=>e=.returned (.tuple #[Wz b0 b1 b2 b3 b4,Vz e0 a0])/\Mx q w lim st st w'/\Out 0 0 V w'):=fun V lim hM hc=>by
  have q0:=cI.out;unfold Od at q0;have q:=j3v hM.rf HP.out.inv hc k m hq;exact q.mono fun e w' ⟨h1,h2⟩=>⟨h1,hM.quiet h2,h2⟩
 clear hq;go_enter Tryz.func28,Tryz.ntmps28
 go_wp2_with fail;(try rw[hW]);(try rw[dH]);have gV:w.heap.size<=bo:=Nat.le_of_eq dH;clear hW dH p0 p1 p2 r0 r1 x0 x1 x2 x3 x4 x5 x6 x7 x8 x9 v0 v1 u0 u1 oW gQ;obtain⟨gN,hlm3⟩:∃ l,W.heap.size=l:=⟨_,rfl⟩
 replace aD:=aD.at;rw[hlm3] at aD;have hlim3:eZ<=gN:=by rw[<-hlm3];exact bN
 clear hlm3;rename_i K hK
 apply x2x (K:=K) (F:=fun g1 g2 V=>Mx q w gN st st V/\(fun w'=>cq w' q.B 0=some (Pq q.hb)/\cq w' q.B 1=some (Pq q.rb)/\cq w' q.hb 0=some (Pq (q.s 14))/\cq w' q.rb 0=some (Pq (q.s2 0))/\cq w' (bo+1) 0=some (Iz k)/\cq w' (bo+1) 1=some (Iz m)) V/\V.heap[g1]? = some (Ez b0 b1 b2 b3 b4 81)/\gN<=g1/\V.heap[g2]? = some (Dz e0 a0 46)/\gN<=g2)
 case h1=>
  intro nA;have HK:=Q3 nA;have kp:∀ {V V':World} {x y:Nat},(fun w'=>cq w' q.B 0=some (Pq q.hb)/\cq w' q.B 1=some (Pq q.rb)/\cq w' q.hb 0=some (Pq (q.s 14))/\cq w' q.rb 0=some (Pq (q.s2 0))/\cq w' (bo+1) 0=some (Iz k)/\cq w' (bo+1) 1=some (Iz m)) V->Out x y V V'->(q.B<x\/y<=q.B)/\(q.hb<x\/y<=q.hb)/\(q.rb<x\/y<=q.rb)/\(bo+1<x\/y<=bo+1)->(fun w'=>cq w' q.B 0=some (Pq q.hb)/\cq w' q.B 1=some (Pq q.rb)/\cq w' q.hb 0=some (Pq (q.s 14))/\cq w' q.rb 0=some (Pq (q.s2 0))/\cq w' (bo+1) 0=some (Iz k)/\cq w' (bo+1) 1=some (Iz m)) V':=fun h o b=>⟨o.cell h.1 b.1,o.cell h.2.1 b.1,o.cell h.2.2.1 b.2.1,o.cell h.2.2.2.1 b.2.2.1,o.cell h.2.2.2.2.1 b.2.2.2,o.cell h.2.2.2.2.2 b.2.2.2⟩
  refine wp_region_held_drew (S:=fun w'=>cq w' q.B 0=some (Pq q.hb)/\cq w' q.B 1=some (Pq q.rb)/\cq w' q.hb 0=some (Pq (q.s 14))/\cq w' q.rb 0=some (Pq (q.s2 0))/\cq w' (bo+1) 0=some (Iz k)/\cq w' (bo+1) 1=some (Iz m)) (by kernel_rfl) ?hS99 (fun aB=>?rest99)
  case hS99=>exact⟨dK,dJ,dG,dA,dV,eY⟩
  obtain⟨Z3,hZ⟩:∃ Z,W.drew=Z:=⟨_,rfl⟩
  have oZ:Out 0 0 W Z3:=by rw[<-hZ];exact(Out.refl 0 0 _).drew
  rw[hZ] at aB ⊢;replace aD:=aD.quiet oZ;apply q6j (F:=fun g1 g2 V=>Mx q w gN st st V/\(fun w'=>cq w' q.B 0=some (Pq q.hb)/\cq w' q.B 1=some (Pq q.rb)/\cq w' q.hb 0=some (Pq (q.s 14))/\cq w' q.rb 0=some (Pq (q.s2 0))/\cq w' (bo+1) 0=some (Iz k)/\cq w' (bo+1) 1=some (Iz m)) V/\V.heap[g1]? = some (Ez 0 0 0 0 0 81)/\gN<=g1/\V.heap[g2]? = some (Dz 0 0 46)/\gN<=g2/\g1 ≠ g2)
  case h1=>
   intro HC;refine tk 0 ?_;refine tk 1 ?_;refine tk 2 ?_;refine tk 3 ?_;refine tk 4 ?_;refine rd3 5 9 10 (fun KK hK=>?_) (fun KK hK=>?_) fun KK hK=>?_
   ·go_simp;refine(eK.out _ _ aD aB.2.2.1).mono ?_;rintro e Z3_5 ⟨rfl,aJ,q1⟩;have aD:=aJ;clear aJ;refine hK.out _ _ (kp aB q1 (by omega)) fun aB=>?_
    clear q1 hK KK;refine tk 6 ?_;refine tk 7 ?_;refine tk 8 ?_;refine rd2 9 10 (fun KK hK=>?_) fun KK hK=>?_
    ·go_simp;obtain⟨g1,mJ,aE,hY,qA,aF⟩:=alz Z3_5 (Ez 0 0 0 0 0 81)
     have bC:gN<=g1:=by rw[<-aE];exact aD.lim
     (try rw[hY]);(try rw[aE]);clear hY aE;replace aD:=aD.quiet qA;refine hK.out _ _ (kp aB qA (by omega)) fun aB=>?_
     clear qA hK KK;refine rd1 10 fun KK hK=>?_
     go_simp;obtain⟨g2,nZ,aE,hY,qA,aG⟩:=alz mJ (Dz 0 0 46)
     have aZ:gN<=g2:=by rw[<-aE];exact aD.lim
     have eD:g1<g2:=by rw[<-aE];exact Q7 aF
     (try rw[hY]);(try rw[aE]);clear hY aE;replace aD:=aD.quiet qA;replace aF:=qA.heap aF Oz;refine hK.out _ _ (kp aB qA (by omega)) fun aB=>?_
     clear qA hK KK;(try simp only[Act.put,xa,xb,xc,xd,xe,xf]);exact HC g1 g2 _ ⟨aD,aB,aF,bC,aG,aZ,by omega⟩
    ·go_simp;obtain⟨g2,kD,aE,hY,qA,aG⟩:=alz Z3_5 (Dz 0 0 46)
     have aZ:gN<=g2:=by rw[<-aE];exact aD.lim
     (try rw[hY]);(try rw[aE]);clear hY aE;replace aD:=aD.quiet qA;refine hK.out _ _ (kp aB qA (by omega)) fun aB=>?_
     clear qA hK KK;refine rd1 9 fun KK hK=>?_
     go_simp;obtain⟨g1,oA,aE,hY,qA,aF⟩:=alz kD (Ez 0 0 0 0 0 81)
     have bC:gN<=g1:=by rw[<-aE];exact aD.lim
     have eC:g2<g1:=by rw[<-aE];exact Q7 aG
     (try rw[hY]);(try rw[aE]);clear hY aE;replace aD:=aD.quiet qA;replace aG:=qA.heap aG Oz;refine hK.out _ _ (kp aB qA (by omega)) fun aB=>?_
     clear qA hK KK;(try simp only[Act.put,xa,xb,xc,xd,xe,xf]);exact HC g1 g2 _ ⟨aD,aB,aF,bC,aG,aZ,by omega⟩
   ·go_simp;obtain⟨g1,Z3_9,aE,hY,qA,aF⟩:=alz Z3 (Ez 0 0 0 0 0 81)
    have bC:gN<=g1:=by rw[<-aE];exact aD.lim
    (try rw[hY]);(try rw[aE]);clear hY aE;replace aD:=aD.quiet qA;refine hK.out _ _ (kp aB qA (by omega)) fun aB=>?_
    clear qA hK KK;refine rd2 5 10 (fun KK hK=>?_) fun KK hK=>?_
    ·go_simp;refine(eK.out _ _ aD aB.2.2.1).mono ?_;rintro e Z3_9_5 ⟨rfl,aJ,q1⟩;have aD:=aJ;clear aJ;replace aF:=q1.heap aF (by omega);refine hK.out _ _ (kp aB q1 (by omega)) fun aB=>?_
     clear q1 hK KK;refine tk 6 ?_;refine tk 7 ?_;refine tk 8 ?_;refine rd1 10 fun KK hK=>?_
     go_simp;obtain⟨g2,nY,aE,hY,qA,aG⟩:=alz Z3_9_5 (Dz 0 0 46)
     have aZ:gN<=g2:=by rw[<-aE];exact aD.lim
     have eD:g1<g2:=by rw[<-aE];exact Q7 aF
     (try rw[hY]);(try rw[aE]);clear hY aE;replace aD:=aD.quiet qA;replace aF:=qA.heap aF Oz;refine hK.out _ _ (kp aB qA (by omega)) fun aB=>?_
     clear qA hK KK;(try simp only[Act.put,xa,xb,xc,xd,xe,xf]);exact HC g1 g2 _ ⟨aD,aB,aF,bC,aG,aZ,by omega⟩
    ·go_simp;obtain⟨g2,Z3_9_10,aE,hY,qA,aG⟩:=alz Z3_9 (Dz 0 0 46)
     have aZ:gN<=g2:=by rw[<-aE];exact aD.lim
     have eD:g1<g2:=by rw[<-aE];exact Q7 aF
     (try rw[hY]);(try rw[aE]);clear hY aE;replace aD:=aD.quiet qA;replace aF:=qA.heap aF Oz;refine hK.out _ _ (kp aB qA (by omega)) fun aB=>?_
     clear qA hK KK;refine rd1 5 fun KK hK=>?_
     go_simp;refine(eK.out _ _ aD aB.2.2.1).mono ?_;rintro e Z3_9_10_5 ⟨rfl,aJ,q1⟩;have aD:=aJ;clear aJ;replace aF:=q1.heap aF (by omega);replace aG:=q1.heap aG (by omega);refine hK.out _ _ (kp aB q1 (by omega)) fun aB=>?_
     clear q1 hK KK;refine tk 6 ?_;refine tk 7 ?_;refine tk 8 ?_;exact HC g1 g2 _ ⟨aD,aB,aF,bC,aG,aZ,by omega⟩
   ·go_simp;obtain⟨g2,Z3_10,aE,hY,qA,aG⟩:=alz Z3 (Dz 0 0 46)
    have aZ:gN<=g2:=by rw[<-aE];exact aD.lim
    (try rw[hY]);(try rw[aE]);clear hY aE;replace aD:=aD.quiet qA;refine hK.out _ _ (kp aB qA (by omega)) fun aB=>?_
    clear qA hK KK;refine rd2 5 9 (fun KK hK=>?_) fun KK hK=>?_
    ·go_simp;refine(eK.out _ _ aD aB.2.2.1).mono ?_;rintro e Z3_10_5 ⟨rfl,aJ,q1⟩;have aD:=aJ;clear aJ;replace aG:=q1.heap aG (by omega);refine hK.out _ _ (kp aB q1 (by omega)) fun aB=>?_
     clear q1 hK KK;refine tk 6 ?_;refine tk 7 ?_;refine tk 8 ?_;refine rd1 9 fun KK hK=>?_
     go_simp;obtain⟨g1,oC,aE,hY,qA,aF⟩:=alz Z3_10_5 (Ez 0 0 0 0 0 81)
     have bC:gN<=g1:=by rw[<-aE];exact aD.lim
     have eC:g2<g1:=by rw[<-aE];exact Q7 aG
     (try rw[hY]);(try rw[aE]);clear hY aE;replace aD:=aD.quiet qA;replace aG:=qA.heap aG Oz;refine hK.out _ _ (kp aB qA (by omega)) fun aB=>?_
     clear qA hK KK;(try simp only[Act.put,xa,xb,xc,xd,xe,xf]);exact HC g1 g2 _ ⟨aD,aB,aF,bC,aG,aZ,by omega⟩
    ·go_simp;obtain⟨g1,Z3_10_9,aE,hY,qA,aF⟩:=alz Z3_10 (Ez 0 0 0 0 0 81)
     have bC:gN<=g1:=by rw[<-aE];exact aD.lim
     have eC:g2<g1:=by rw[<-aE];exact Q7 aG
     (try rw[hY]);(try rw[aE]);clear hY aE;replace aD:=aD.quiet qA;replace aG:=qA.heap aG Oz;refine hK.out _ _ (kp aB qA (by omega)) fun aB=>?_
     clear qA hK KK;refine rd1 5 fun KK hK=>?_
     go_simp;refine(eK.out _ _ aD aB.2.2.1).mono ?_;rintro e Z3_10_9_5 ⟨rfl,aJ,q1⟩;have aD:=aJ;clear aJ;replace aG:=q1.heap aG (by omega);replace aF:=q1.heap aF (by omega);refine hK.out _ _ (kp aB q1 (by omega)) fun aB=>?_
     clear q1 hK KK;refine tk 6 ?_;refine tk 7 ?_;refine tk 8 ?_;exact HC g1 g2 _ ⟨aD,aB,aF,bC,aG,aZ,by omega⟩
  case h2=>
   intro g1 g2 Z3X hF;obtain⟨aD,aB,aF,bC,aG,aZ,hne3⟩:=hF;refine rd1 11 fun KK hK=>?_
   simp only[xa,xb,xc];obtain⟨y0,y1,y2,y3,y4,y5⟩:=K7 aF;go_simp;obtain⟨pE,hY,qS⟩:=s5z Z3X g1 b0 b1 b2 b3 b4
   replace aF:pE.heap[g1]? = some (Ez b0 b1 b2 b3 b4 81):=by rw[<-hY];simp[World.setCell,Array.getElem?_modify,aF]
   (try rw[hY]);clear hY;replace aD:=aD.far qS cI.out (by omega);replace aG:=qS.heap aG (by omega);refine hK.out _ _ (kp aB qS (by omega)) fun aB=>?_
   clear qS hK KK;refine rd1 12 fun KK hK=>?_
   simp only[xa,xb,xc];obtain⟨Y0,Y1,Y2,Y3⟩:=flt_facts aG;go_simp;obtain⟨oD,hY,qS⟩:=s2z pE g2 e0 a0
   replace aG:oD.heap[g2]? = some (Dz e0 a0 46):=by rw[<-hY];simp[World.setCell,Array.getElem?_modify,aG]
   (try rw[hY]);clear hY;replace aD:=aD.far qS cI.out (by omega);replace aF:=qS.heap aF (by omega);refine hK.out _ _ (kp aB qS (by omega)) fun aB=>?_
   clear qS hK KK;refine dn ?_;exact HK.out g1 g2 _ ⟨aD,aB,aF,bC,aG,aZ⟩
 case h2=>
  intro g1 g2 V1 hF;obtain⟨aD,⟨dK,dJ,dG,dA,dV,eY⟩,aF,bC,aG,aZ⟩:=hF;apply hK;clear hK;have bN:eZ<=V1.heap.size:=Nat.le_trans hlim3 aD.lim;go_wp2_with fail;obtain⟨fQ,oO⟩:∃ l,V1.heap.size=l:=⟨_,rfl⟩
  replace aD:=aD.at;rw[oO] at aD;have hlim4:eZ<=fQ:=by rw[<-oO];exact bN
  have hc_g1:g1<fQ:=by rw[<-oO];exact Q7 aF
  have hc_g2:g2<fQ:=by rw[<-oO];exact Q7 aG
  clear oO;rename_i K hK
  apply x2x (K:=K) (F:=fun g3 g4 V=>Mx q w fQ st st V/\(fun w'=>cq w' q.B 0=some (Pq q.hb)/\cq w' q.B 1=some (Pq q.rb)/\cq w' q.hb 0=some (Pq (q.s 14))/\cq w' q.rb 0=some (Pq (q.s2 0))/\cq w' (bo+1) 0=some (Iz k)/\cq w' (bo+1) 1=some (Iz m)) V/\V.heap[g3]? = some (Ez b0 b1 b2 b3 b4 81)/\fQ<=g3/\V.heap[g4]? = some (Dz e0 a0 46)/\fQ<=g4/\V.heap[g1]? = some (Ez b0 b1 b2 b3 b4 81)/\V.heap[g2]? = some (Dz e0 a0 46))
  case h1=>
   intro nA;have HK:=Q3 nA;have kp:∀ {V V':World} {x y:Nat},(fun w'=>cq w' q.B 0=some (Pq q.hb)/\cq w' q.B 1=some (Pq q.rb)/\cq w' q.hb 0=some (Pq (q.s 14))/\cq w' q.rb 0=some (Pq (q.s2 0))/\cq w' (bo+1) 0=some (Iz k)/\cq w' (bo+1) 1=some (Iz m)) V->Out x y V V'->(q.B<x\/y<=q.B)/\(q.hb<x\/y<=q.hb)/\(q.rb<x\/y<=q.rb)/\(bo+1<x\/y<=bo+1)->(fun w'=>cq w' q.B 0=some (Pq q.hb)/\cq w' q.B 1=some (Pq q.rb)/\cq w' q.hb 0=some (Pq (q.s 14))/\cq w' q.rb 0=some (Pq (q.s2 0))/\cq w' (bo+1) 0=some (Iz k)/\cq w' (bo+1) 1=some (Iz m)) V':=fun h o b=>⟨o.cell h.1 b.1,o.cell h.2.1 b.1,o.cell h.2.2.1 b.2.1,o.cell h.2.2.2.1 b.2.2.1,o.cell h.2.2.2.2.1 b.2.2.2,o.cell h.2.2.2.2.2 b.2.2.2⟩
   refine wp_region_held_drew (S:=fun w'=>cq w' q.B 0=some (Pq q.hb)/\cq w' q.B 1=some (Pq q.rb)/\cq w' q.hb 0=some (Pq (q.s 14))/\cq w' q.rb 0=some (Pq (q.s2 0))/\cq w' (bo+1) 0=some (Iz k)/\cq w' (bo+1) 1=some (Iz m)) (by kernel_rfl) ?hS61 (fun aB=>?rest61)
   case hS61=>exact⟨dK,dJ,dG,dA,dV,eY⟩
   obtain⟨Z4,hZ⟩:∃ Z,V1.drew=Z:=⟨_,rfl⟩
   have oZ:Out 0 0 V1 Z4:=by rw[<-hZ];exact(Out.refl 0 0 _).drew
   rw[hZ] at aB ⊢;replace aD:=aD.quiet oZ;replace aF:=oZ.heap aF Oz;replace aG:=oZ.heap aG Oz;apply q6j (F:=fun g3 g4 V=>Mx q w fQ st st V/\(fun w'=>cq w' q.B 0=some (Pq q.hb)/\cq w' q.B 1=some (Pq q.rb)/\cq w' q.hb 0=some (Pq (q.s 14))/\cq w' q.rb 0=some (Pq (q.s2 0))/\cq w' (bo+1) 0=some (Iz k)/\cq w' (bo+1) 1=some (Iz m)) V/\V.heap[g3]? = some (Ez 0 0 0 0 0 81)/\fQ<=g3/\V.heap[g4]? = some (Dz 0 0 46)/\fQ<=g4/\g3 ≠ g4/\V.heap[g1]? = some (Ez b0 b1 b2 b3 b4 81)/\V.heap[g2]? = some (Dz e0 a0 46))
   case h1=>
    intro HC;refine tk 0 ?_;refine tk 1 ?_;refine tk 2 ?_;refine tk 3 ?_;refine tk 4 ?_;refine rd3 5 9 10 (fun KK hK=>?_) (fun KK hK=>?_) fun KK hK=>?_
    ·go_simp;refine(gH.out _ _ aD aB.2.2.2.1).mono ?_;rintro e Z4_5 ⟨rfl,aJ,q1⟩;have aD:=aJ;clear aJ;replace aF:=q1.heap aF (by omega);replace aG:=q1.heap aG (by omega);refine hK.out _ _ (kp aB q1 (by omega)) fun aB=>?_
     clear q1 hK KK;refine tk 6 ?_;refine tk 7 ?_;refine tk 8 ?_;refine rd2 9 10 (fun KK hK=>?_) fun KK hK=>?_
     ·go_simp;obtain⟨g3,mI,aE,hY,qA,aU⟩:=alz Z4_5 (Ez 0 0 0 0 0 81)
      have bI:fQ<=g3:=by rw[<-aE];exact aD.lim
      (try rw[hY]);(try rw[aE]);clear hY aE;replace aD:=aD.quiet qA;replace aF:=qA.heap aF Oz;replace aG:=qA.heap aG Oz;refine hK.out _ _ (kp aB qA (by omega)) fun aB=>?_
      clear qA hK KK;refine rd1 10 fun KK hK=>?_
      go_simp;obtain⟨g4,nU,aE,hY,qA,aT⟩:=alz mI (Dz 0 0 46)
      have bH:fQ<=g4:=by rw[<-aE];exact aD.lim
      have eB:g3<g4:=by rw[<-aE];exact Q7 aU
      (try rw[hY]);(try rw[aE]);clear hY aE;replace aD:=aD.quiet qA;replace aF:=qA.heap aF Oz;replace aG:=qA.heap aG Oz;replace aU:=qA.heap aU Oz;refine hK.out _ _ (kp aB qA (by omega)) fun aB=>?_
      clear qA hK KK;(try simp only[Act.put,xa,xb,xc,xd,xe,xf]);exact HC g3 g4 _ ⟨aD,aB,aU,bI,aT,bH,by omega,aF,aG⟩
     ·go_simp;obtain⟨g4,kC,aE,hY,qA,aT⟩:=alz Z4_5 (Dz 0 0 46)
      have bH:fQ<=g4:=by rw[<-aE];exact aD.lim
      (try rw[hY]);(try rw[aE]);clear hY aE;replace aD:=aD.quiet qA;replace aF:=qA.heap aF Oz;replace aG:=qA.heap aG Oz;refine hK.out _ _ (kp aB qA (by omega)) fun aB=>?_
      clear qA hK KK;refine rd1 9 fun KK hK=>?_
      go_simp;obtain⟨g3,nV,aE,hY,qA,aU⟩:=alz kC (Ez 0 0 0 0 0 81)
      have bI:fQ<=g3:=by rw[<-aE];exact aD.lim
      have eA:g4<g3:=by rw[<-aE];exact Q7 aT
      (try rw[hY]);(try rw[aE]);clear hY aE;replace aD:=aD.quiet qA;replace aF:=qA.heap aF Oz;replace aG:=qA.heap aG Oz;replace aT:=qA.heap aT Oz;refine hK.out _ _ (kp aB qA (by omega)) fun aB=>?_
      clear qA hK KK;(try simp only[Act.put,xa,xb,xc,xd,xe,xf]);exact HC g3 g4 _ ⟨aD,aB,aU,bI,aT,bH,by omega,aF,aG⟩
    ·go_simp;obtain⟨g3,Z4_9,aE,hY,qA,aU⟩:=alz Z4 (Ez 0 0 0 0 0 81)
     have bI:fQ<=g3:=by rw[<-aE];exact aD.lim
     (try rw[hY]);(try rw[aE]);clear hY aE;replace aD:=aD.quiet qA;replace aF:=qA.heap aF Oz;replace aG:=qA.heap aG Oz;refine hK.out _ _ (kp aB qA (by omega)) fun aB=>?_
     clear qA hK KK;refine rd2 5 10 (fun KK hK=>?_) fun KK hK=>?_
     ·go_simp;refine(gH.out _ _ aD aB.2.2.2.1).mono ?_;rintro e Z4_9_5 ⟨rfl,aJ,q1⟩;have aD:=aJ;clear aJ;replace aF:=q1.heap aF (by omega);replace aG:=q1.heap aG (by omega);replace aU:=q1.heap aU (by omega);refine hK.out _ _ (kp aB q1 (by omega)) fun aB=>?_
      clear q1 hK KK;refine tk 6 ?_;refine tk 7 ?_;refine tk 8 ?_;refine rd1 10 fun KK hK=>?_
      go_simp;obtain⟨g4,nT,aE,hY,qA,aT⟩:=alz Z4_9_5 (Dz 0 0 46)
      have bH:fQ<=g4:=by rw[<-aE];exact aD.lim
      have eB:g3<g4:=by rw[<-aE];exact Q7 aU
      (try rw[hY]);(try rw[aE]);clear hY aE;replace aD:=aD.quiet qA;replace aF:=qA.heap aF Oz;replace aG:=qA.heap aG Oz;replace aU:=qA.heap aU Oz;refine hK.out _ _ (kp aB qA (by omega)) fun aB=>?_
      clear qA hK KK;(try simp only[Act.put,xa,xb,xc,xd,xe,xf]);exact HC g3 g4 _ ⟨aD,aB,aU,bI,aT,bH,by omega,aF,aG⟩
     ·go_simp;obtain⟨g4,Z4_9_10,aE,hY,qA,aT⟩:=alz Z4_9 (Dz 0 0 46)
      have bH:fQ<=g4:=by rw[<-aE];exact aD.lim
      have eB:g3<g4:=by rw[<-aE];exact Q7 aU
      (try rw[hY]);(try rw[aE]);clear hY aE;replace aD:=aD.quiet qA;replace aF:=qA.heap aF Oz;replace aG:=qA.heap aG Oz;replace aU:=qA.heap aU Oz;refine hK.out _ _ (kp aB qA (by omega)) fun aB=>?_
      clear qA hK KK;refine rd1 5 fun KK hK=>?_
      go_simp;refine(gH.out _ _ aD aB.2.2.2.1).mono ?_;rintro e Z4_9_10_5 ⟨rfl,aJ,q1⟩;have aD:=aJ;clear aJ;replace aF:=q1.heap aF (by omega);replace aG:=q1.heap aG (by omega);replace aU:=q1.heap aU (by omega);replace aT:=q1.heap aT (by omega);refine hK.out _ _ (kp aB q1 (by omega)) fun aB=>?_
      clear q1 hK KK;refine tk 6 ?_;refine tk 7 ?_;refine tk 8 ?_;exact HC g3 g4 _ ⟨aD,aB,aU,bI,aT,bH,by omega,aF,aG⟩
    ·go_simp;obtain⟨g4,Z4_10,aE,hY,qA,aT⟩:=alz Z4 (Dz 0 0 46)
     have bH:fQ<=g4:=by rw[<-aE];exact aD.lim
     (try rw[hY]);(try rw[aE]);clear hY aE;replace aD:=aD.quiet qA;replace aF:=qA.heap aF Oz;replace aG:=qA.heap aG Oz;refine hK.out _ _ (kp aB qA (by omega)) fun aB=>?_
     clear qA hK KK;refine rd2 5 9 (fun KK hK=>?_) fun KK hK=>?_
     ·go_simp;refine(gH.out _ _ aD aB.2.2.2.1).mono ?_;rintro e Z4_10_5 ⟨rfl,aJ,q1⟩;have aD:=aJ;clear aJ;replace aF:=q1.heap aF (by omega);replace aG:=q1.heap aG (by omega);replace aT:=q1.heap aT (by omega);refine hK.out _ _ (kp aB q1 (by omega)) fun aB=>?_
      clear q1 hK KK;refine tk 6 ?_;refine tk 7 ?_;refine tk 8 ?_;refine rd1 9 fun KK hK=>?_
      go_simp;obtain⟨g3,nW,aE,hY,qA,aU⟩:=alz Z4_10_5 (Ez 0 0 0 0 0 81)
      have bI:fQ<=g3:=by rw[<-aE];exact aD.lim
      have eA:g4<g3:=by rw[<-aE];exact Q7 aT
      (try rw[hY]);(try rw[aE]);clear hY aE;replace aD:=aD.quiet qA;replace aF:=qA.heap aF Oz;replace aG:=qA.heap aG Oz;replace aT:=qA.heap aT Oz;refine hK.out _ _ (kp aB qA (by omega)) fun aB=>?_
      clear qA hK KK;(try simp only[Act.put,xa,xb,xc,xd,xe,xf]);exact HC g3 g4 _ ⟨aD,aB,aU,bI,aT,bH,by omega,aF,aG⟩
     ·go_simp;obtain⟨g3,Z4_10_9,aE,hY,qA,aU⟩:=alz Z4_10 (Ez 0 0 0 0 0 81)
      have bI:fQ<=g3:=by rw[<-aE];exact aD.lim
      have eA:g4<g3:=by rw[<-aE];exact Q7 aT
      (try rw[hY]);(try rw[aE]);clear hY aE;replace aD:=aD.quiet qA;replace aF:=qA.heap aF Oz;replace aG:=qA.heap aG Oz;replace aT:=qA.heap aT Oz;refine hK.out _ _ (kp aB qA (by omega)) fun aB=>?_
      clear qA hK KK;refine rd1 5 fun KK hK=>?_
      go_simp;refine(gH.out _ _ aD aB.2.2.2.1).mono ?_;rintro e Z4_10_9_5 ⟨rfl,aJ,q1⟩;have aD:=aJ;clear aJ;replace aF:=q1.heap aF (by omega);replace aG:=q1.heap aG (by omega);replace aT:=q1.heap aT (by omega);replace aU:=q1.heap aU (by omega);refine hK.out _ _ (kp aB q1 (by omega)) fun aB=>?_
      clear q1 hK KK;refine tk 6 ?_;refine tk 7 ?_;refine tk 8 ?_;exact HC g3 g4 _ ⟨aD,aB,aU,bI,aT,bH,by omega,aF,aG⟩
   case h2=>
    intro g3 g4 Z4X hF;obtain⟨aD,aB,aU,bI,aT,bH,hne4,aF,aG⟩:=hF;refine rd1 11 fun KK hK=>?_
    simp only[xa,xb,xc];obtain⟨y0,y1,y2,y3,y4,y5⟩:=K7 aU;go_simp;obtain⟨pD,hY,qS⟩:=s5z Z4X g3 b0 b1 b2 b3 b4
    replace aU:pD.heap[g3]? = some (Ez b0 b1 b2 b3 b4 81):=by rw[<-hY];simp[World.setCell,Array.getElem?_modify,aU]
    (try rw[hY]);clear hY;replace aD:=aD.far qS cI.out (by omega);replace aF:=qS.heap aF (by omega);replace aG:=qS.heap aG (by omega);replace aT:=qS.heap aT (by omega);refine hK.out _ _ (kp aB qS (by omega)) fun aB=>?_
    clear qS hK KK;refine rd1 12 fun KK hK=>?_
    simp only[xa,xb,xc];obtain⟨Y0,Y1,Y2,Y3⟩:=flt_facts aT;go_simp;obtain⟨nX,hY,qS⟩:=s2z pD g4 e0 a0
    replace aT:nX.heap[g4]? = some (Dz e0 a0 46):=by rw[<-hY];simp[World.setCell,Array.getElem?_modify,aT]
    (try rw[hY]);clear hY;replace aD:=aD.far qS cI.out (by omega);replace aF:=qS.heap aF (by omega);replace aG:=qS.heap aG (by omega);replace aU:=qS.heap aU (by omega);refine hK.out _ _ (kp aB qS (by omega)) fun aB=>?_
    clear qS hK KK;refine dn ?_;exact HK.out g3 g4 _ ⟨aD,aB,aU,bI,aT,bH,aF,aG⟩
  case h2=>
   intro g3 g4 V2 hF;obtain⟨aD,⟨dK,dJ,dG,dA,dV,eY⟩,aU,bI,aT,bH,aF,aG⟩:=hF;apply hK;clear hK;have bN:eZ<=V2.heap.size:=Nat.le_trans hlim4 aD.lim;have HE:=Q3 (aD.e9 (st:=st) HP.out.wi (by omega) dG dA);obtain⟨s0,s1,s2,s3,s4,s5⟩:=K7 aF;obtain⟨t0,t1,t2,t3,t4,t5⟩:=K7 aU;obtain⟨z0,z1,z2,z3⟩:=flt_facts aG;obtain⟨zz0,zz1,zz2,zz3⟩:=flt_facts aT;clear aD dK dJ dG dA dV eY;have hE:=eqb b0 b1 b2 b3 b4;go_wp2_with fail;refine(z4t _ _ _ _ _).mono ?_;rintro e V9 ⟨rfl,q9⟩;have pK:=Q3 (HE.out.quiet q9);clear q9 HE;go_wp2
   all_goals go_ret
   all_goals exact⟨z0d (by simp),pK.out⟩
end
end Go.Proofs.YtjgnogflgoihfaaGreatDoor
