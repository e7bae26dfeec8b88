import Derived.Test.YtjgnogflgoihfaaGreatDoorP31
set_option linter.unusedSimpArgs false
set_option linter.unusedVariables false
set_option maxHeartbeats 16000000
set_option maxRecDepth 100000
namespace Go.Proofs.YtjgnogflgoihfaaGreatDoor
open Go.RowKit
section
variable {w:World} {q:Q9} {st:Sp} {c:Nat}
theorem x4a (h:PB w q st c) (o0 o2 o3 o4 o5 o6 o7 o8 k m k2 m2:Int) (bp:Option Addr) (bl bc:Nat):Kz 28 #[Pq q.B,.agg #[Iz o0,Iz 4,Iz o2,Iz o3,Iz o4,Iz o5,Iz o6,Iz o7,Iz o8,.slice bp bl bc],Vz k m,Vz k2 m2] w fun e w'=>e=.returned (.bool true)/\E9 q st w w':=by
 have HP:=Q3 h;have cI:=Q3 h.od;obtain⟨W,bo,hW,dH,fO,fV,fX,oW,gQ⟩:=q1m w (.cells #[Iz o0,Iz 4,Iz o2,Iz o3,Iz o4,Iz o5,Iz o6,Iz o7,Iz o8,.slice bp bl bc] 35) (Dz k m 32) (Dz k2 m2 32);have cY:=h.od;rw[dH] at cY;unfold Od at cY;obtain⟨p0,p1,p2⟩:=(h.quiet oW).cells;have r0:=(h.quiet oW).be.pc;have r1:=(h.quiet oW).be.rc;obtain⟨x0,x1,x2,x3,x4,x5,x6,x7,x8,x9⟩:=j2o fO;obtain⟨v0,v1,_,_⟩:=Q5 fV;obtain⟨u0,u1,_,_⟩:=Q5 fX;have aD:=h.md oW;have bN:bo+3<=W.heap.size:=by omega
 have Hbo:=Q3 dH;obtain⟨eZ,nN⟩:∃ b,bo+3=b:=⟨_,rfl⟩
 rw[nN] at bN;have dK:=p0;have dJ:=p1;have dG:=r0;have dA:=r1;have dV:=v0;have eY:=v1;have gW:=x2;clear h fO fV fX;obtain⟨y0,y1,e0,a0,hq⟩:∃ y0 y1 e a,geQ q.n st k m o2=(y0,y1,e,a):=⟨_,_,_,_,rfl⟩
 have eK:Hid (∀ V lim,Mx q w lim st st V->cq V q.hb 0=some (Pq (q.s 14))->Kz 18 #[Pq q.hb,Vz k m,Iz o2] V fun e w'=>e=.returned (.tuple #[Vz y0 y1,Vz e0 a0])/\Mx q w lim st st w'/\Out 0 0 V w'):=fun V lim hM hc=>by
  have q0:=cI.out;unfold Od at q0;have q:=x0g hM.sp hc k m o2 hq;exact q.mono fun e w' ⟨h1,h2⟩=>⟨h1,hM.quiet h2,h2⟩
 have gH:Hid (∀ V lim,Mx q w lim st st V->cq V q.rb 0=some (Pq (q.s2 0))->Kz 73 #[Pq q.rb,Vz k m,Iz o2] V fun e w'=>e=.returned (.tuple #[Vz y0 y1,Vz e0 a0])/\Mx q w lim st st w'/\Out 0 0 V w'):=fun V lim hM hc=>by
  have q0:=cI.out;unfold Od at q0;have q:=j8o hM.rf HP.out.inv HP.out.wi hc k m o2 hq;exact q.mono fun e w' ⟨h1,h2⟩=>⟨h1,hM.quiet h2,h2⟩
 clear hq;go_enter Tryz.func28,Tryz.ntmps28
 go_wp2_with fail;(try rw[hW]);(try rw[dH]);have gV:w.heap.size<=bo:=Nat.le_of_eq dH;clear hW dH p0 p1 p2 r0 r1 x0 x1 x2 x3 x4 x5 x6 x7 x8 x9 v0 v1 u0 u1 oW gQ;obtain⟨cE,kS⟩:∃ l,W.heap.size=l:=⟨_,rfl⟩
 replace aD:=aD.at;rw[kS] at aD;have hlim7:eZ<=cE:=by rw[<-kS];exact bN
 clear kS;rename_i K hK
 apply x2x (K:=K) (F:=fun g1 g2 V=>Mx q w cE st st V/\(fun w'=>cq w' q.B 0=some (Pq q.hb)/\cq w' q.B 1=some (Pq q.rb)/\cq w' q.hb 0=some (Pq (q.s 14))/\cq w' q.rb 0=some (Pq (q.s2 0))/\cq w' (bo+1) 0=some (Iz k)/\cq w' (bo+1) 1=some (Iz m)/\cq w' bo 2=some (Iz o2)) V/\V.heap[g1]? = some (Dz y0 y1 32)/\cE<=g1/\V.heap[g2]? = some (Dz e0 a0 46)/\cE<=g2)
 case h1=>
  intro nA;have HK:=Q3 nA;have kp:∀ {V V':World} {x y:Nat},(fun w'=>cq w' q.B 0=some (Pq q.hb)/\cq w' q.B 1=some (Pq q.rb)/\cq w' q.hb 0=some (Pq (q.s 14))/\cq w' q.rb 0=some (Pq (q.s2 0))/\cq w' (bo+1) 0=some (Iz k)/\cq w' (bo+1) 1=some (Iz m)/\cq w' bo 2=some (Iz o2)) V->Out x y V V'->(q.B<x\/y<=q.B)/\(q.hb<x\/y<=q.hb)/\(q.rb<x\/y<=q.rb)/\(bo+1<x\/y<=bo+1)/\(bo<x\/y<=bo)->(fun w'=>cq w' q.B 0=some (Pq q.hb)/\cq w' q.B 1=some (Pq q.rb)/\cq w' q.hb 0=some (Pq (q.s 14))/\cq w' q.rb 0=some (Pq (q.s2 0))/\cq w' (bo+1) 0=some (Iz k)/\cq w' (bo+1) 1=some (Iz m)/\cq w' bo 2=some (Iz o2)) V':=fun h o b=>⟨o.cell h.1 b.1,o.cell h.2.1 b.1,o.cell h.2.2.1 b.2.1,o.cell h.2.2.2.1 b.2.2.1,o.cell h.2.2.2.2.1 b.2.2.2.1,o.cell h.2.2.2.2.2.1 b.2.2.2.1,o.cell h.2.2.2.2.2.2 b.2.2.2.2⟩
  refine wp_region_held_drew (S:=fun w'=>cq w' q.B 0=some (Pq q.hb)/\cq w' q.B 1=some (Pq q.rb)/\cq w' q.hb 0=some (Pq (q.s 14))/\cq w' q.rb 0=some (Pq (q.s2 0))/\cq w' (bo+1) 0=some (Iz k)/\cq w' (bo+1) 1=some (Iz m)/\cq w' bo 2=some (Iz o2)) (by kernel_rfl) ?hS177 (fun aB=>?rest177)
  case hS177=>exact⟨dK,dJ,dG,dA,dV,eY,gW⟩
  obtain⟨Z7,hZ⟩:∃ Z,W.drew=Z:=⟨_,rfl⟩
  have oZ:Out 0 0 W Z7:=by rw[<-hZ];exact(Out.refl 0 0 _).drew
  rw[hZ] at aB ⊢;replace aD:=aD.quiet oZ;apply q6j (F:=fun g1 g2 V=>Mx q w cE st st V/\(fun w'=>cq w' q.B 0=some (Pq q.hb)/\cq w' q.B 1=some (Pq q.rb)/\cq w' q.hb 0=some (Pq (q.s 14))/\cq w' q.rb 0=some (Pq (q.s2 0))/\cq w' (bo+1) 0=some (Iz k)/\cq w' (bo+1) 1=some (Iz m)/\cq w' bo 2=some (Iz o2)) V/\V.heap[g1]? = some (Dz 0 0 32)/\cE<=g1/\V.heap[g2]? = some (Dz 0 0 46)/\cE<=g2/\g1 ≠ g2)
  case h1=>
   intro HC;refine tk 0 ?_;refine tk 1 ?_;refine tk 2 ?_;refine tk 3 ?_;refine tk 4 ?_;refine tk 5 ?_;refine tk 6 ?_;refine rd3 7 11 12 (fun KK hK=>?_) (fun KK hK=>?_) fun KK hK=>?_
   ·go_simp;refine(eK.out _ _ aD aB.2.2.1).mono ?_;rintro e Z7_7 ⟨rfl,aJ,q1⟩;have aD:=aJ;clear aJ;refine hK.out _ _ (kp aB q1 (by omega)) fun aB=>?_
    clear q1 hK KK;refine tk 8 ?_;refine tk 9 ?_;refine tk 10 ?_;refine rd2 11 12 (fun KK hK=>?_) fun KK hK=>?_
    ·go_simp;obtain⟨g1,kB,aE,hY,qA,aF⟩:=alz Z7_7 (Dz 0 0 32)
     have bC:cE<=g1:=by rw[<-aE];exact aD.lim
     (try rw[hY]);(try rw[aE]);clear hY aE;replace aD:=aD.quiet qA;refine hK.out _ _ (kp aB qA (by omega)) fun aB=>?_
     clear qA hK KK;refine rd1 12 fun KK hK=>?_
     go_simp;obtain⟨g2,mD,aE,hY,qA,aG⟩:=alz kB (Dz 0 0 46)
     have aZ:cE<=g2:=by rw[<-aE];exact aD.lim
     have eD:g1<g2:=by rw[<-aE];exact Q7 aF
     (try rw[hY]);(try rw[aE]);clear hY aE;replace aD:=aD.quiet qA;replace aF:=qA.heap aF Oz;refine hK.out _ _ (kp aB qA (by omega)) fun aB=>?_
     clear qA hK KK;(try simp only[Act.put,xa,xb,xc,xd,xe,xf]);exact HC g1 g2 _ ⟨aD,aB,aF,bC,aG,aZ,by omega⟩
    ·go_simp;obtain⟨g2,kA,aE,hY,qA,aG⟩:=alz Z7_7 (Dz 0 0 46)
     have aZ:cE<=g2:=by rw[<-aE];exact aD.lim
     (try rw[hY]);(try rw[aE]);clear hY aE;replace aD:=aD.quiet qA;refine hK.out _ _ (kp aB qA (by omega)) fun aB=>?_
     clear qA hK KK;refine rd1 11 fun KK hK=>?_
     go_simp;obtain⟨g1,mC,aE,hY,qA,aF⟩:=alz kA (Dz 0 0 32)
     have bC:cE<=g1:=by rw[<-aE];exact aD.lim
     have eC:g2<g1:=by rw[<-aE];exact Q7 aG
     (try rw[hY]);(try rw[aE]);clear hY aE;replace aD:=aD.quiet qA;replace aG:=qA.heap aG Oz;refine hK.out _ _ (kp aB qA (by omega)) fun aB=>?_
     clear qA hK KK;(try simp only[Act.put,xa,xb,xc,xd,xe,xf]);exact HC g1 g2 _ ⟨aD,aB,aF,bC,aG,aZ,by omega⟩
   ·go_simp;obtain⟨g1,Z7_11,aE,hY,qA,aF⟩:=alz Z7 (Dz 0 0 32)
    have bC:cE<=g1:=by rw[<-aE];exact aD.lim
    (try rw[hY]);(try rw[aE]);clear hY aE;replace aD:=aD.quiet qA;refine hK.out _ _ (kp aB qA (by omega)) fun aB=>?_
    clear qA hK KK;refine rd2 7 12 (fun KK hK=>?_) fun KK hK=>?_
    ·go_simp;refine(eK.out _ _ aD aB.2.2.1).mono ?_;rintro e Z7_11_7 ⟨rfl,aJ,q1⟩;have aD:=aJ;clear aJ;replace aF:=q1.heap aF (by omega);refine hK.out _ _ (kp aB q1 (by omega)) fun aB=>?_
     clear q1 hK KK;refine tk 8 ?_;refine tk 9 ?_;refine tk 10 ?_;refine rd1 12 fun KK hK=>?_
     go_simp;obtain⟨g2,mF,aE,hY,qA,aG⟩:=alz Z7_11_7 (Dz 0 0 46)
     have aZ:cE<=g2:=by rw[<-aE];exact aD.lim
     have eD:g1<g2:=by rw[<-aE];exact Q7 aF
     (try rw[hY]);(try rw[aE]);clear hY aE;replace aD:=aD.quiet qA;replace aF:=qA.heap aF Oz;refine hK.out _ _ (kp aB qA (by omega)) fun aB=>?_
     clear qA hK KK;(try simp only[Act.put,xa,xb,xc,xd,xe,xf]);exact HC g1 g2 _ ⟨aD,aB,aF,bC,aG,aZ,by omega⟩
    ·go_simp;obtain⟨g2,Z7_11_12,aE,hY,qA,aG⟩:=alz Z7_11 (Dz 0 0 46)
     have aZ:cE<=g2:=by rw[<-aE];exact aD.lim
     have eD:g1<g2:=by rw[<-aE];exact Q7 aF
     (try rw[hY]);(try rw[aE]);clear hY aE;replace aD:=aD.quiet qA;replace aF:=qA.heap aF Oz;refine hK.out _ _ (kp aB qA (by omega)) fun aB=>?_
     clear qA hK KK;refine rd1 7 fun KK hK=>?_
     go_simp;refine(eK.out _ _ aD aB.2.2.1).mono ?_;rintro e Z7_11_12_7 ⟨rfl,aJ,q1⟩;have aD:=aJ;clear aJ;replace aF:=q1.heap aF (by omega);replace aG:=q1.heap aG (by omega);refine hK.out _ _ (kp aB q1 (by omega)) fun aB=>?_
     clear q1 hK KK;refine tk 8 ?_;refine tk 9 ?_;refine tk 10 ?_;exact HC g1 g2 _ ⟨aD,aB,aF,bC,aG,aZ,by omega⟩
   ·go_simp;obtain⟨g2,Z7_12,aE,hY,qA,aG⟩:=alz Z7 (Dz 0 0 46)
    have aZ:cE<=g2:=by rw[<-aE];exact aD.lim
    (try rw[hY]);(try rw[aE]);clear hY aE;replace aD:=aD.quiet qA;refine hK.out _ _ (kp aB qA (by omega)) fun aB=>?_
    clear qA hK KK;refine rd2 7 11 (fun KK hK=>?_) fun KK hK=>?_
    ·go_simp;refine(eK.out _ _ aD aB.2.2.1).mono ?_;rintro e Z7_12_7 ⟨rfl,aJ,q1⟩;have aD:=aJ;clear aJ;replace aG:=q1.heap aG (by omega);refine hK.out _ _ (kp aB q1 (by omega)) fun aB=>?_
     clear q1 hK KK;refine tk 8 ?_;refine tk 9 ?_;refine tk 10 ?_;refine rd1 11 fun KK hK=>?_
     go_simp;obtain⟨g1,mE,aE,hY,qA,aF⟩:=alz Z7_12_7 (Dz 0 0 32)
     have bC:cE<=g1:=by rw[<-aE];exact aD.lim
     have eC:g2<g1:=by rw[<-aE];exact Q7 aG
     (try rw[hY]);(try rw[aE]);clear hY aE;replace aD:=aD.quiet qA;replace aG:=qA.heap aG Oz;refine hK.out _ _ (kp aB qA (by omega)) fun aB=>?_
     clear qA hK KK;(try simp only[Act.put,xa,xb,xc,xd,xe,xf]);exact HC g1 g2 _ ⟨aD,aB,aF,bC,aG,aZ,by omega⟩
    ·go_simp;obtain⟨g1,Z7_12_11,aE,hY,qA,aF⟩:=alz Z7_12 (Dz 0 0 32)
     have bC:cE<=g1:=by rw[<-aE];exact aD.lim
     have eC:g2<g1:=by rw[<-aE];exact Q7 aG
     (try rw[hY]);(try rw[aE]);clear hY aE;replace aD:=aD.quiet qA;replace aG:=qA.heap aG Oz;refine hK.out _ _ (kp aB qA (by omega)) fun aB=>?_
     clear qA hK KK;refine rd1 7 fun KK hK=>?_
     go_simp;refine(eK.out _ _ aD aB.2.2.1).mono ?_;rintro e Z7_12_11_7 ⟨rfl,aJ,q1⟩;have aD:=aJ;clear aJ;replace aG:=q1.heap aG (by omega);replace aF:=q1.heap aF (by omega);refine hK.out _ _ (kp aB q1 (by omega)) fun aB=>?_
     clear q1 hK KK;refine tk 8 ?_;refine tk 9 ?_;refine tk 10 ?_;exact HC g1 g2 _ ⟨aD,aB,aF,bC,aG,aZ,by omega⟩
  case h2=>
   intro g1 g2 Z7X hF;obtain⟨aD,aB,aF,bC,aG,aZ,hne7⟩:=hF;refine rd1 13 fun KK hK=>?_
   simp only[xa,xb,xc];obtain⟨Y0,Y1,Y2,Y3⟩:=flt_facts aF;go_simp;obtain⟨pA,hY,qS⟩:=s2z Z7X g1 y0 y1
   replace aF:pA.heap[g1]? = some (Dz y0 y1 32):=by rw[<-hY];simp[World.setCell,Array.getElem?_modify,aF]
   (try rw[hY]);clear hY;replace aD:=aD.far qS cI.out (by omega);replace aG:=qS.heap aG (by omega);refine hK.out _ _ (kp aB qS (by omega)) fun aB=>?_
   clear qS hK KK;refine rd1 14 fun KK hK=>?_
   simp only[xa,xb,xc];obtain⟨Y0,Y1,Y2,Y3⟩:=flt_facts aG;go_simp;obtain⟨nR,hY,qS⟩:=s2z pA g2 e0 a0
   replace aG:nR.heap[g2]? = some (Dz e0 a0 46):=by rw[<-hY];simp[World.setCell,Array.getElem?_modify,aG]
   (try rw[hY]);clear hY;replace aD:=aD.far qS cI.out (by omega);replace aF:=qS.heap aF (by omega);refine hK.out _ _ (kp aB qS (by omega)) fun aB=>?_
   clear qS hK KK;refine dn ?_;exact HK.out g1 g2 _ ⟨aD,aB,aF,bC,aG,aZ⟩
 case h2=>
  intro g1 g2 V1 hF;obtain⟨aD,⟨dK,dJ,dG,dA,dV,eY,gW⟩,aF,bC,aG,aZ⟩:=hF;apply hK;clear hK;have bN:eZ<=V1.heap.size:=Nat.le_trans hlim7 aD.lim;go_wp2_with fail;obtain⟨gM,hlm8⟩:∃ l,V1.heap.size=l:=⟨_,rfl⟩
  replace aD:=aD.at;rw[hlm8] at aD;have hlim8:eZ<=gM:=by rw[<-hlm8];exact bN
  have hc_g1:g1<gM:=by rw[<-hlm8];exact Q7 aF
  have hc_g2:g2<gM:=by rw[<-hlm8];exact Q7 aG
  clear hlm8;rename_i K hK
  apply x2x (K:=K) (F:=fun g3 g4 V=>Mx q w gM st st V/\(fun w'=>cq w' q.B 0=some (Pq q.hb)/\cq w' q.B 1=some (Pq q.rb)/\cq w' q.hb 0=some (Pq (q.s 14))/\cq w' q.rb 0=some (Pq (q.s2 0))/\cq w' (bo+1) 0=some (Iz k)/\cq w' (bo+1) 1=some (Iz m)/\cq w' bo 2=some (Iz o2)) V/\V.heap[g3]? = some (Dz y0 y1 32)/\gM<=g3/\V.heap[g4]? = some (Dz e0 a0 46)/\gM<=g4/\V.heap[g1]? = some (Dz y0 y1 32)/\V.heap[g2]? = some (Dz e0 a0 46))
  case h1=>
   intro nA;have HK:=Q3 nA;have kp:∀ {V V':World} {x y:Nat},(fun w'=>cq w' q.B 0=some (Pq q.hb)/\cq w' q.B 1=some (Pq q.rb)/\cq w' q.hb 0=some (Pq (q.s 14))/\cq w' q.rb 0=some (Pq (q.s2 0))/\cq w' (bo+1) 0=some (Iz k)/\cq w' (bo+1) 1=some (Iz m)/\cq w' bo 2=some (Iz o2)) V->Out x y V V'->(q.B<x\/y<=q.B)/\(q.hb<x\/y<=q.hb)/\(q.rb<x\/y<=q.rb)/\(bo+1<x\/y<=bo+1)/\(bo<x\/y<=bo)->(fun w'=>cq w' q.B 0=some (Pq q.hb)/\cq w' q.B 1=some (Pq q.rb)/\cq w' q.hb 0=some (Pq (q.s 14))/\cq w' q.rb 0=some (Pq (q.s2 0))/\cq w' (bo+1) 0=some (Iz k)/\cq w' (bo+1) 1=some (Iz m)/\cq w' bo 2=some (Iz o2)) V':=fun h o b=>⟨o.cell h.1 b.1,o.cell h.2.1 b.1,o.cell h.2.2.1 b.2.1,o.cell h.2.2.2.1 b.2.2.1,o.cell h.2.2.2.2.1 b.2.2.2.1,o.cell h.2.2.2.2.2.1 b.2.2.2.1,o.cell h.2.2.2.2.2.2 b.2.2.2.2⟩
   refine wp_region_held_drew (S:=fun w'=>cq w' q.B 0=some (Pq q.hb)/\cq w' q.B 1=some (Pq q.rb)/\cq w' q.hb 0=some (Pq (q.s 14))/\cq w' q.rb 0=some (Pq (q.s2 0))/\cq w' (bo+1) 0=some (Iz k)/\cq w' (bo+1) 1=some (Iz m)/\cq w' bo 2=some (Iz o2)) (by kernel_rfl) ?hS137 (fun aB=>?rest137)
   case hS137=>exact⟨dK,dJ,dG,dA,dV,eY,gW⟩
   obtain⟨Z8,hZ⟩:∃ Z,V1.drew=Z:=⟨_,rfl⟩
   have oZ:Out 0 0 V1 Z8:=by rw[<-hZ];exact(Out.refl 0 0 _).drew
   rw[hZ] at aB ⊢;replace aD:=aD.quiet oZ;replace aF:=oZ.heap aF Oz;replace aG:=oZ.heap aG Oz;apply q6j (F:=fun g3 g4 V=>Mx q w gM st st V/\(fun w'=>cq w' q.B 0=some (Pq q.hb)/\cq w' q.B 1=some (Pq q.rb)/\cq w' q.hb 0=some (Pq (q.s 14))/\cq w' q.rb 0=some (Pq (q.s2 0))/\cq w' (bo+1) 0=some (Iz k)/\cq w' (bo+1) 1=some (Iz m)/\cq w' bo 2=some (Iz o2)) V/\V.heap[g3]? = some (Dz 0 0 32)/\gM<=g3/\V.heap[g4]? = some (Dz 0 0 46)/\gM<=g4/\g3 ≠ g4/\V.heap[g1]? = some (Dz y0 y1 32)/\V.heap[g2]? = some (Dz e0 a0 46))
   case h1=>
    intro HC;refine tk 0 ?_;refine tk 1 ?_;refine tk 2 ?_;refine tk 3 ?_;refine tk 4 ?_;refine tk 5 ?_;refine tk 6 ?_;refine rd3 7 11 12 (fun KK hK=>?_) (fun KK hK=>?_) fun KK hK=>?_
    ·go_simp;refine(gH.out _ _ aD aB.2.2.2.1).mono ?_;rintro e Z8_7 ⟨rfl,aJ,q1⟩;have aD:=aJ;clear aJ;replace aF:=q1.heap aF (by omega);replace aG:=q1.heap aG (by omega);refine hK.out _ _ (kp aB q1 (by omega)) fun aB=>?_
     clear q1 hK KK;refine tk 8 ?_;refine tk 9 ?_;refine tk 10 ?_;refine rd2 11 12 (fun KK hK=>?_) fun KK hK=>?_
     ·go_simp;obtain⟨g3,jZ,aE,hY,qA,aU⟩:=alz Z8_7 (Dz 0 0 32)
      have bI:gM<=g3:=by rw[<-aE];exact aD.lim
      (try rw[hY]);(try rw[aE]);clear hY aE;replace aD:=aD.quiet qA;replace aF:=qA.heap aF Oz;replace aG:=qA.heap aG Oz;refine hK.out _ _ (kp aB qA (by omega)) fun aB=>?_
      clear qA hK KK;refine rd1 12 fun KK hK=>?_
      go_simp;obtain⟨g4,lZ,aE,hY,qA,aT⟩:=alz jZ (Dz 0 0 46)
      have bH:gM<=g4:=by rw[<-aE];exact aD.lim
      have eB:g3<g4:=by rw[<-aE];exact Q7 aU
      (try rw[hY]);(try rw[aE]);clear hY aE;replace aD:=aD.quiet qA;replace aF:=qA.heap aF Oz;replace aG:=qA.heap aG Oz;replace aU:=qA.heap aU Oz;refine hK.out _ _ (kp aB qA (by omega)) fun aB=>?_
      clear qA hK KK;(try simp only[Act.put,xa,xb,xc,xd,xe,xf]);exact HC g3 g4 _ ⟨aD,aB,aU,bI,aT,bH,by omega,aF,aG⟩
     ·go_simp;obtain⟨g4,jY,aE,hY,qA,aT⟩:=alz Z8_7 (Dz 0 0 46)
      have bH:gM<=g4:=by rw[<-aE];exact aD.lim
      (try rw[hY]);(try rw[aE]);clear hY aE;replace aD:=aD.quiet qA;replace aF:=qA.heap aF Oz;replace aG:=qA.heap aG Oz;refine hK.out _ _ (kp aB qA (by omega)) fun aB=>?_
      clear qA hK KK;refine rd1 11 fun KK hK=>?_
      go_simp;obtain⟨g3,lY,aE,hY,qA,aU⟩:=alz jY (Dz 0 0 32)
      have bI:gM<=g3:=by rw[<-aE];exact aD.lim
      have eA:g4<g3:=by rw[<-aE];exact Q7 aT
      (try rw[hY]);(try rw[aE]);clear hY aE;replace aD:=aD.quiet qA;replace aF:=qA.heap aF Oz;replace aG:=qA.heap aG Oz;replace aT:=qA.heap aT Oz;refine hK.out _ _ (kp aB qA (by omega)) fun aB=>?_
      clear qA hK KK;(try simp only[Act.put,xa,xb,xc,xd,xe,xf]);exact HC g3 g4 _ ⟨aD,aB,aU,bI,aT,bH,by omega,aF,aG⟩
    ·go_simp;obtain⟨g3,Z8_11,aE,hY,qA,aU⟩:=alz Z8 (Dz 0 0 32)
     have bI:gM<=g3:=by rw[<-aE];exact aD.lim
     (try rw[hY]);(try rw[aE]);clear hY aE;replace aD:=aD.quiet qA;replace aF:=qA.heap aF Oz;replace aG:=qA.heap aG Oz;refine hK.out _ _ (kp aB qA (by omega)) fun aB=>?_
     clear qA hK KK;refine rd2 7 12 (fun KK hK=>?_) fun KK hK=>?_
     ·go_simp;refine(gH.out _ _ aD aB.2.2.2.1).mono ?_;rintro e Z8_11_7 ⟨rfl,aJ,q1⟩;have aD:=aJ;clear aJ;replace aF:=q1.heap aF (by omega);replace aG:=q1.heap aG (by omega);replace aU:=q1.heap aU (by omega);refine hK.out _ _ (kp aB q1 (by omega)) fun aB=>?_
      clear q1 hK KK;refine tk 8 ?_;refine tk 9 ?_;refine tk 10 ?_;refine rd1 12 fun KK hK=>?_
      go_simp;obtain⟨g4,mB,aE,hY,qA,aT⟩:=alz Z8_11_7 (Dz 0 0 46)
      have bH:gM<=g4:=by rw[<-aE];exact aD.lim
      have eB:g3<g4:=by rw[<-aE];exact Q7 aU
      (try rw[hY]);(try rw[aE]);clear hY aE;replace aD:=aD.quiet qA;replace aF:=qA.heap aF Oz;replace aG:=qA.heap aG Oz;replace aU:=qA.heap aU Oz;refine hK.out _ _ (kp aB qA (by omega)) fun aB=>?_
      clear qA hK KK;(try simp only[Act.put,xa,xb,xc,xd,xe,xf]);exact HC g3 g4 _ ⟨aD,aB,aU,bI,aT,bH,by omega,aF,aG⟩
     ·go_simp;obtain⟨g4,Z8_11_12,aE,hY,qA,aT⟩:=alz Z8_11 (Dz 0 0 46)
      have bH:gM<=g4:=by rw[<-aE];exact aD.lim
      have eB:g3<g4:=by rw[<-aE];exact Q7 aU
      (try rw[hY]);(try rw[aE]);clear hY aE;replace aD:=aD.quiet qA;replace aF:=qA.heap aF Oz;replace aG:=qA.heap aG Oz;replace aU:=qA.heap aU Oz;refine hK.out _ _ (kp aB qA (by omega)) fun aB=>?_
      clear qA hK KK;refine rd1 7 fun KK hK=>?_
      go_simp;refine(gH.out _ _ aD aB.2.2.2.1).mono ?_;rintro e Z8_11_12_7 ⟨rfl,aJ,q1⟩;have aD:=aJ;clear aJ;replace aF:=q1.heap aF (by omega);replace aG:=q1.heap aG (by omega);replace aU:=q1.heap aU (by omega);replace aT:=q1.heap aT (by omega);refine hK.out _ _ (kp aB q1 (by omega)) fun aB=>?_
      clear q1 hK KK;refine tk 8 ?_;refine tk 9 ?_;refine tk 10 ?_;exact HC g3 g4 _ ⟨aD,aB,aU,bI,aT,bH,by omega,aF,aG⟩
    ·go_simp;obtain⟨g4,Z8_12,aE,hY,qA,aT⟩:=alz Z8 (Dz 0 0 46)
     have bH:gM<=g4:=by rw[<-aE];exact aD.lim
     (try rw[hY]);(try rw[aE]);clear hY aE;replace aD:=aD.quiet qA;replace aF:=qA.heap aF Oz;replace aG:=qA.heap aG Oz;refine hK.out _ _ (kp aB qA (by omega)) fun aB=>?_
     clear qA hK KK;refine rd2 7 11 (fun KK hK=>?_) fun KK hK=>?_
     ·go_simp;refine(gH.out _ _ aD aB.2.2.2.1).mono ?_;rintro e Z8_12_7 ⟨rfl,aJ,q1⟩;have aD:=aJ;clear aJ;replace aF:=q1.heap aF (by omega);replace aG:=q1.heap aG (by omega);replace aT:=q1.heap aT (by omega);refine hK.out _ _ (kp aB q1 (by omega)) fun aB=>?_
      clear q1 hK KK;refine tk 8 ?_;refine tk 9 ?_;refine tk 10 ?_;refine rd1 11 fun KK hK=>?_
      go_simp;obtain⟨g3,mA,aE,hY,qA,aU⟩:=alz Z8_12_7 (Dz 0 0 32)
      have bI:gM<=g3:=by rw[<-aE];exact aD.lim
      have eA:g4<g3:=by rw[<-aE];exact Q7 aT
      (try rw[hY]);(try rw[aE]);clear hY aE;replace aD:=aD.quiet qA;replace aF:=qA.heap aF Oz;replace aG:=qA.heap aG Oz;replace aT:=qA.heap aT Oz;refine hK.out _ _ (kp aB qA (by omega)) fun aB=>?_
      clear qA hK KK;(try simp only[Act.put,xa,xb,xc,xd,xe,xf]);exact HC g3 g4 _ ⟨aD,aB,aU,bI,aT,bH,by omega,aF,aG⟩
     ·go_simp;obtain⟨g3,Z8_12_11,aE,hY,qA,aU⟩:=alz Z8_12 (Dz 0 0 32)
      have bI:gM<=g3:=by rw[<-aE];exact aD.lim
      have eA:g4<g3:=by rw[<-aE];exact Q7 aT
      (try rw[hY]);(try rw[aE]);clear hY aE;replace aD:=aD.quiet qA;replace aF:=qA.heap aF Oz;replace aG:=qA.heap aG Oz;replace aT:=qA.heap aT Oz;refine hK.out _ _ (kp aB qA (by omega)) fun aB=>?_
      clear qA hK KK;refine rd1 7 fun KK hK=>?_
      go_simp;refine(gH.out _ _ aD aB.2.2.2.1).mono ?_;rintro e Z8_12_11_7 ⟨rfl,aJ,q1⟩;have aD:=aJ;clear aJ;replace aF:=q1.heap aF (by omega);replace aG:=q1.heap aG (by omega);replace aT:=q1.heap aT (by omega);replace aU:=q1.heap aU (by omega);refine hK.out _ _ (kp aB q1 (by omega)) fun aB=>?_
      clear q1 hK KK;refine tk 8 ?_;refine tk 9 ?_;refine tk 10 ?_;exact HC g3 g4 _ ⟨aD,aB,aU,bI,aT,bH,by omega,aF,aG⟩
   case h2=>
    intro g3 g4 Z8X hF;obtain⟨aD,aB,aU,bI,aT,bH,hne8,aF,aG⟩:=hF;refine rd1 13 fun KK hK=>?_
    simp only[xa,xb,xc];obtain⟨Y0,Y1,Y2,Y3⟩:=flt_facts aU;go_simp;obtain⟨oU,hY,qS⟩:=s2z Z8X g3 y0 y1
    replace aU:oU.heap[g3]? = some (Dz y0 y1 32):=by rw[<-hY];simp[World.setCell,Array.getElem?_modify,aU]
    (try rw[hY]);clear hY;replace aD:=aD.far qS cI.out (by omega);replace aF:=qS.heap aF (by omega);replace aG:=qS.heap aG (by omega);replace aT:=qS.heap aT (by omega);refine hK.out _ _ (kp aB qS (by omega)) fun aB=>?_
    clear qS hK KK;refine rd1 14 fun KK hK=>?_
    simp only[xa,xb,xc];obtain⟨Y0,Y1,Y2,Y3⟩:=flt_facts aT;go_simp;obtain⟨nP,hY,qS⟩:=s2z oU g4 e0 a0
    replace aT:nP.heap[g4]? = some (Dz e0 a0 46):=by rw[<-hY];simp[World.setCell,Array.getElem?_modify,aT]
    (try rw[hY]);clear hY;replace aD:=aD.far qS cI.out (by omega);replace aF:=qS.heap aF (by omega);replace aG:=qS.heap aG (by omega);replace aU:=qS.heap aU (by omega);refine hK.out _ _ (kp aB qS (by omega)) fun aB=>?_
    clear qS hK KK;refine dn ?_;exact HK.out g3 g4 _ ⟨aD,aB,aU,bI,aT,bH,aF,aG⟩
  case h2=>
   intro g3 g4 V2 hF;obtain⟨aD,⟨dK,dJ,dG,dA,dV,eY,gW⟩,aU,bI,aT,bH,aF,aG⟩:=hF;apply hK;clear hK;have bN:eZ<=V2.heap.size:=Nat.le_trans hlim8 aD.lim;have HE:=Q3 (aD.e9 (st:=st) HP.out.wi (by omega) dG dA);obtain⟨s0,s1,s2,s3⟩:=Q5 aF;obtain⟨t0,t1,t2,t3⟩:=Q5 aU;obtain⟨z0,z1,z2,z3⟩:=flt_facts aG;obtain⟨zz0,zz1,zz2,zz3⟩:=flt_facts aT;clear aD dK dJ dG dA dV eY gW;have hE:=eqv1 y0 y1;go_wp2_with fail;refine(z4t _ _ _ _ _).mono ?_;rintro e V9 ⟨rfl,q9⟩;have pK:=Q3 (HE.out.quiet q9);clear q9 HE;go_wp2
   all_goals go_ret
   all_goals exact⟨z0d (by simp),pK.out⟩
end
theorem x1b {w:World} {lo hi n cap:Nat} {s:Nat->Nat} {st:Sp} (h:SpAt w lo hi s n cap st) (a i v:Int):Calls Tryz.prog 83 #[.pointer (some ⟨s 14,0,none⟩),.int .i64 a,.int .i64 i,.int .i64 v] w fun e w'=>e=.returned (z7d (q3a (Q6 n st) a i) (z4z (Q6 n st) a))/\SpAt w' lo hi s n cap (z1q st (wrW (Q6 n st) a i v))/\Out lo hi w w':=
 (j7s h.1 (j4x h.2) a i v).mono fun e w' ⟨h1,h2,h3⟩=>⟨h1,⟨h2,j0o h.2 _⟩,h3⟩
end Go.Proofs.YtjgnogflgoihfaaGreatDoor
