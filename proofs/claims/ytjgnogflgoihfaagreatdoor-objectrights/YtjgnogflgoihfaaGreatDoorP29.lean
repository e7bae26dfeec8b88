import Derived.Test.YtjgnogflgoihfaaGreatDoorP28
namespace Go.Proofs.YtjgnogflgoihfaaGreatDoor
open Go.RowKit
set_option linter.unusedVariables false
set_option maxRecDepth 100000
set_option maxHeartbeats 16000000
set_option linter.unusedSimpArgs false
section
variable {w:World} {q:Q9} {st:Sp} {c:Nat}
theorem q9j (h:PB w q st c) (o0 o2 o3 o4 o5 o6 o7 o8 k m k2 m2:Int) (bp:Option Addr) (bl bc:Nat) (hv:I64 o3):Kz 29 #[Pq q.B,.agg #[Iz o0,Iz 25,Iz o2,Iz o3,Iz o4,Iz o5,Iz o6,Iz o7,Iz o8,.slice bp bl bc],Vz k m,Vz k2 m2] w fun e w'=>e=.returned (.bool true)/\E9 q st w w':=by
 have HP:=Q3 h;have bT:=Q3 h.od;obtain⟨W,bo,hW,cP,fO,fV,fX,oW,hU⟩:=z9g w (.cells #[Iz o0,Iz 25,Iz o2,Iz o3,Iz o4,Iz o5,Iz o6,Iz o7,Iz o8,.slice bp bl bc] 35) (Dz k m 32) (Dz k2 m2 32);have cM:=h.od;rw[cP] at cM;unfold Od at cM;obtain⟨p0,p1,p2⟩:=(h.quiet oW).cells;have r0:=(h.quiet oW).be.pc;have r1:=(h.quiet oW).be.rc;obtain⟨x0,x1,x2,x3,x4,x5,x6,x7,x8,x9⟩:=q1q fO;obtain⟨v0,v1,_,_⟩:=Q5 fV;obtain⟨u0,u1,_,_⟩:=Q5 fX;have aD:=h.md oW;have bI:bo+3<=W.heap.size:=by omega
 have Hbo:=Q3 cP;obtain⟨eN,mE⟩:∃ b,bo+3=b:=⟨_,rfl⟩
 rw[mE] at bI;have cL:=p0;have cK:=p1;have cI:=r0;have cH:=r1;have cW:=v1;have dO:=x2;have eG:=x3;clear h fO fV fX;obtain⟨e0,he0⟩:∃ v,q4b (J0 q.n st) m o2=v:=⟨_,rfl⟩
 obtain⟨a0,ha0⟩:∃ v,z5m (J0 q.n st) m=v:=⟨_,rfl⟩
 have dV:Hid (∀ V lim,Mx q w lim st st V->cq V q.hb 0=some (Pq (q.s 14))->Kz 83 #[Pq (q.s 14),Iz m,Iz o2,Iz o3] V fun e w'=>e=.returned (Vz e0 a0)/\Mx q w lim (z1y st (wrW (J0 q.n st) m o2 o3)) st w'/\Out q.lo q.hi V w'):=fun V lim hM hc=>by
  have q0:=bT.out;unfold Od at q0;have q:=x1r hM.sp m o2 o3;unfold z7t at q;rw[he0,ha0] at q;exact q.mono fun e w' ⟨h1,h2,h3⟩=>⟨h1,hM.p bT.out h2 h3,h3⟩
 have eO:Hid (∀ V lim,Mx q w lim (z1y st (wrW (J0 q.n st) m o2 o3)) st V->cq V q.rb 0=some (Pq (q.s2 0))->Kz 84 #[Pq (q.s2 0),Iz m,Iz o2,Iz o3] V fun e w'=>e=.returned (Vz e0 a0)/\Mx q w lim (z1y st (wrW (J0 q.n st) m o2 o3)) (z1y st (wrW (J0 q.n st) m o2 o3)) w'/\Out q.lo2 q.hi2 V w'):=fun V lim hM hc=>by
  have q0:=bT.out;unfold Od at q0;have q:=q5s hM.rf HP.out.inv m o2 o3;unfold z7t at q;rw[he0,ha0] at q;exact q.mono fun e w' ⟨h1,h2,h3⟩=>⟨h1,hM.r bT.out h2 h3,h3⟩
 have iM:Hid (WI q.n (z1y st (wrW (J0 q.n st) m o2 o3)).W):=HP.out.wi.wr _ _ hv;clear he0 ha0 hv;go_enter Tryz.func29,Tryz.ntmps29
 go_wp2_with fail;(try rw[hW]);(try rw[cP]);have iG:w.heap.size<=bo:=Nat.le_of_eq cP;clear hW cP p0 p1 p2 r0 r1 x0 x1 x2 x3 x4 x5 x6 x7 x8 x9 v0 v1 u0 u1 oW hU;obtain⟨lim23,hlm23⟩:∃ l,W.heap.size=l:=⟨_,rfl⟩
 replace aD:=aD.at;rw[hlm23] at aD;have hlim23:eN<=lim23:=by rw[<-hlm23];exact bI
 clear hlm23;rename_i K hK
 apply x2f (K:=K) (F:=fun g1 V=>Mx q w lim23 (z1y st (wrW (J0 q.n st) m o2 o3)) st V/\(fun w'=>cq w' q.B 0=some (Pq q.hb)/\cq w' q.B 1=some (Pq q.rb)/\cq w' q.hb 0=some (Pq (q.s 14))/\cq w' q.rb 0=some (Pq (q.s2 0))/\cq w' (bo+1) 1=some (Iz m)/\cq w' bo 2=some (Iz o2)/\cq w' bo 3=some (Iz o3)) V/\V.heap[g1]? = some (Dz e0 a0 46)/\lim23<=g1)
 case h1=>
  intro mC;have HK:=Q3 mC;have kp:∀ {V V':World} {x y:Nat},(fun w'=>cq w' q.B 0=some (Pq q.hb)/\cq w' q.B 1=some (Pq q.rb)/\cq w' q.hb 0=some (Pq (q.s 14))/\cq w' q.rb 0=some (Pq (q.s2 0))/\cq w' (bo+1) 1=some (Iz m)/\cq w' bo 2=some (Iz o2)/\cq w' bo 3=some (Iz o3)) V->Out x y V V'->(q.B<x\/y<=q.B)/\(q.hb<x\/y<=q.hb)/\(q.rb<x\/y<=q.rb)/\(bo+1<x\/y<=bo+1)/\(bo<x\/y<=bo)->(fun w'=>cq w' q.B 0=some (Pq q.hb)/\cq w' q.B 1=some (Pq q.rb)/\cq w' q.hb 0=some (Pq (q.s 14))/\cq w' q.rb 0=some (Pq (q.s2 0))/\cq w' (bo+1) 1=some (Iz m)/\cq w' bo 2=some (Iz o2)/\cq w' bo 3=some (Iz o3)) V':=fun h o b=>⟨o.cell h.1 b.1,o.cell h.2.1 b.1,o.cell h.2.2.1 b.2.1,o.cell h.2.2.2.1 b.2.2.1,o.cell h.2.2.2.2.1 b.2.2.2.1,o.cell h.2.2.2.2.2.1 b.2.2.2.2,o.cell h.2.2.2.2.2.2 b.2.2.2.2⟩
  refine wp_region_held_drew (S:=fun w'=>cq w' q.B 0=some (Pq q.hb)/\cq w' q.B 1=some (Pq q.rb)/\cq w' q.hb 0=some (Pq (q.s 14))/\cq w' q.rb 0=some (Pq (q.s2 0))/\cq w' (bo+1) 1=some (Iz m)/\cq w' bo 2=some (Iz o2)/\cq w' bo 3=some (Iz o3)) (by kernel_rfl) ?hS480 (fun aB=>?rest480)
  case hS480=>exact⟨cL,cK,cI,cH,cW,dO,eG⟩
  obtain⟨Z23,hZ⟩:∃ Z,W.drew=Z:=⟨_,rfl⟩
  have oZ:Out 0 0 W Z23:=by rw[<-hZ];exact(Out.refl 0 0 _).drew
  rw[hZ] at aB ⊢;replace aD:=aD.quiet oZ;refine tk 0 ?_;refine tk 1 ?_;refine tk 2 ?_;refine tk 3 ?_;refine tk 4 ?_;refine tk 5 ?_;refine tk 6 ?_;refine tk 7 ?_;refine tk 8 ?_;refine tk 9 ?_;refine tk 10 ?_;refine tk 11 ?_;refine tk 12 ?_;refine rd2 13 14 (fun KK hK=>?_) fun KK hK=>?_
  ·simp only[xa,xb,xc];go_simp;refine(dV.out _ _ aD aB.2.2.1).mono ?_;rintro e Z23_13 ⟨rfl,aH,q1⟩;have aD:=aH;clear aH;refine hK.out _ _ (kp aB q1 (by omega)) fun aB=>?_
   clear q1 hK KK;refine rd1 14 fun KK hK=>?_
   simp only[xa,xb,xc];go_simp;obtain⟨g1,aG⟩:∃ g,Z23_13.heap.size=g:=⟨_,rfl⟩
   obtain⟨kJ,hY⟩:∃ V,Z23_13.alloc (Dz 0 0 46)=V:=⟨_,rfl⟩
   have qA:Out 0 0 Z23_13 kJ:=by rw[<-hY];exact(Out.refl 0 0 _).alloc _
   have aE:kJ.heap[g1]? = some (Dz 0 0 46):=by rw[<-hY,<-aG];exact heap_alloc_new _ _
   have aU:lim23<=g1:=by rw[<-aG];exact aD.lim
   (try rw[hY]);(try rw[aG]);clear hY aG;replace aD:=aD.quiet qA;refine hK.out _ _ (kp aB qA (by omega)) fun aB=>?_
   clear qA hK KK;refine rd1 15 fun KK hK=>?_
   simp only[xa,xb,xc];obtain⟨y0,y1,y2,y3⟩:=flt_facts aE;go_simp;obtain⟨lX,hY⟩:∃ V,((kJ.setCell ⟨g1,0,none⟩ (Iz e0)).setCell ⟨g1,1,none⟩ (Iz a0))=V:=⟨_,rfl⟩
   have qS:Out g1 (g1+1) kJ lX:=by rw[<-hY];exact(Out.refl _ _ _).zo2 Lz _ _
   replace aE:lX.heap[g1]? = some (Dz e0 a0 46):=by rw[<-hY];simp[World.setCell,Array.getElem?_modify,aE]
   (try rw[hY]);clear hY;replace aD:=aD.far qS bT.out (by omega);refine hK.out _ _ (kp aB qS (by omega)) fun aB=>?_
   clear qS hK KK;refine dn ?_;exact HK.out g1 _ ⟨aD,aB,aE,aU⟩
  ·simp only[xa,xb,xc];go_simp;obtain⟨g1,aG⟩:∃ g,Z23.heap.size=g:=⟨_,rfl⟩
   obtain⟨Z23_14,hY⟩:∃ V,Z23.alloc (Dz 0 0 46)=V:=⟨_,rfl⟩
   have qA:Out 0 0 Z23 Z23_14:=by rw[<-hY];exact(Out.refl 0 0 _).alloc _
   have aE:Z23_14.heap[g1]? = some (Dz 0 0 46):=by rw[<-hY,<-aG];exact heap_alloc_new _ _
   have aU:lim23<=g1:=by rw[<-aG];exact aD.lim
   (try rw[hY]);(try rw[aG]);clear hY aG;replace aD:=aD.quiet qA;refine hK.out _ _ (kp aB qA (by omega)) fun aB=>?_
   clear qA hK KK;refine rd1 13 fun KK hK=>?_
   simp only[xa,xb,xc];go_simp;refine(dV.out _ _ aD aB.2.2.1).mono ?_;rintro e Z23_14_13 ⟨rfl,aH,q1⟩;have aD:=aH;clear aH;replace aE:=q1.heap aE (by omega);refine hK.out _ _ (kp aB q1 (by omega)) fun aB=>?_
   clear q1 hK KK;refine rd1 15 fun KK hK=>?_
   simp only[xa,xb,xc];obtain⟨y0,y1,y2,y3⟩:=flt_facts aE;go_simp;obtain⟨lW,hY⟩:∃ V,((Z23_14_13.setCell ⟨g1,0,none⟩ (Iz e0)).setCell ⟨g1,1,none⟩ (Iz a0))=V:=⟨_,rfl⟩
   have qS:Out g1 (g1+1) Z23_14_13 lW:=by rw[<-hY];exact(Out.refl _ _ _).zo2 Lz _ _
   replace aE:lW.heap[g1]? = some (Dz e0 a0 46):=by rw[<-hY];simp[World.setCell,Array.getElem?_modify,aE]
   (try rw[hY]);clear hY;replace aD:=aD.far qS bT.out (by omega);refine hK.out _ _ (kp aB qS (by omega)) fun aB=>?_
   clear qS hK KK;refine dn ?_;exact HK.out g1 _ ⟨aD,aB,aE,aU⟩
 case h2=>
  intro g1 V1 hF;obtain⟨aD,⟨cL,cK,cI,cH,cW,dO,eG⟩,aE,aU⟩:=hF;apply hK;clear hK;have bI:eN<=V1.heap.size:=Nat.le_trans hlim23 aD.lim;go_wp2_with fail;obtain⟨pI,hlm24⟩:∃ l,V1.heap.size=l:=⟨_,rfl⟩
  replace aD:=aD.at;rw[hlm24] at aD;have hlim24:eN<=pI:=by rw[<-hlm24];exact bI
  have pR:g1<pI:=by rw[<-hlm24];exact Q8 aE
  clear hlm24;rename_i K hK
  apply x2f (K:=K) (F:=fun g2 V=>Mx q w pI (z1y st (wrW (J0 q.n st) m o2 o3)) (z1y st (wrW (J0 q.n st) m o2 o3)) V/\(fun w'=>cq w' q.B 0=some (Pq q.hb)/\cq w' q.B 1=some (Pq q.rb)/\cq w' q.hb 0=some (Pq (q.s 14))/\cq w' q.rb 0=some (Pq (q.s2 0))/\cq w' (bo+1) 1=some (Iz m)/\cq w' bo 2=some (Iz o2)/\cq w' bo 3=some (Iz o3)) V/\V.heap[g2]? = some (Dz e0 a0 111)/\pI<=g2/\V.heap[g1]? = some (Dz e0 a0 46))
  case h1=>
   intro mC;have HK:=Q3 mC;have kp:∀ {V V':World} {x y:Nat},(fun w'=>cq w' q.B 0=some (Pq q.hb)/\cq w' q.B 1=some (Pq q.rb)/\cq w' q.hb 0=some (Pq (q.s 14))/\cq w' q.rb 0=some (Pq (q.s2 0))/\cq w' (bo+1) 1=some (Iz m)/\cq w' bo 2=some (Iz o2)/\cq w' bo 3=some (Iz o3)) V->Out x y V V'->(q.B<x\/y<=q.B)/\(q.hb<x\/y<=q.hb)/\(q.rb<x\/y<=q.rb)/\(bo+1<x\/y<=bo+1)/\(bo<x\/y<=bo)->(fun w'=>cq w' q.B 0=some (Pq q.hb)/\cq w' q.B 1=some (Pq q.rb)/\cq w' q.hb 0=some (Pq (q.s 14))/\cq w' q.rb 0=some (Pq (q.s2 0))/\cq w' (bo+1) 1=some (Iz m)/\cq w' bo 2=some (Iz o2)/\cq w' bo 3=some (Iz o3)) V':=fun h o b=>⟨o.cell h.1 b.1,o.cell h.2.1 b.1,o.cell h.2.2.1 b.2.1,o.cell h.2.2.2.1 b.2.2.1,o.cell h.2.2.2.2.1 b.2.2.2.1,o.cell h.2.2.2.2.2.1 b.2.2.2.2,o.cell h.2.2.2.2.2.2 b.2.2.2.2⟩
   refine wp_region_held_drew (S:=fun w'=>cq w' q.B 0=some (Pq q.hb)/\cq w' q.B 1=some (Pq q.rb)/\cq w' q.hb 0=some (Pq (q.s 14))/\cq w' q.rb 0=some (Pq (q.s2 0))/\cq w' (bo+1) 1=some (Iz m)/\cq w' bo 2=some (Iz o2)/\cq w' bo 3=some (Iz o3)) (by kernel_rfl) ?hS460 (fun aB=>?rest460)
   case hS460=>exact⟨cL,cK,cI,cH,cW,dO,eG⟩
   obtain⟨Z24,hZ⟩:∃ Z,V1.drew=Z:=⟨_,rfl⟩
   have oZ:Out 0 0 V1 Z24:=by rw[<-hZ];exact(Out.refl 0 0 _).drew
   rw[hZ] at aB ⊢;replace aD:=aD.quiet oZ;replace aE:=oZ.heap aE Oz;refine tk 0 ?_;refine tk 1 ?_;refine tk 2 ?_;refine tk 3 ?_;refine tk 4 ?_;refine tk 5 ?_;refine tk 6 ?_;refine tk 7 ?_;refine tk 8 ?_;refine tk 9 ?_;refine tk 10 ?_;refine tk 11 ?_;refine tk 12 ?_;refine rd2 13 14 (fun KK hK=>?_) fun KK hK=>?_
   ·simp only[xa,xb,xc];go_simp;refine(eO.out _ _ aD aB.2.2.2.1).mono ?_;rintro e Z24_13 ⟨rfl,aH,q1⟩;have aD:=aH;clear aH;replace aE:=q1.heap aE (by omega);refine hK.out _ _ (kp aB q1 (by omega)) fun aB=>?_
    clear q1 hK KK;refine rd1 14 fun KK hK=>?_
    simp only[xa,xb,xc];go_simp;obtain⟨g2,aG⟩:∃ g,Z24_13.heap.size=g:=⟨_,rfl⟩
    obtain⟨kI,hY⟩:∃ V,Z24_13.alloc (Dz 0 0 111)=V:=⟨_,rfl⟩
    have qA:Out 0 0 Z24_13 kI:=by rw[<-hY];exact(Out.refl 0 0 _).alloc _
    have aF:kI.heap[g2]? = some (Dz 0 0 111):=by rw[<-hY,<-aG];exact heap_alloc_new _ _
    have aT:pI<=g2:=by rw[<-aG];exact aD.lim
    (try rw[hY]);(try rw[aG]);clear hY aG;replace aD:=aD.quiet qA;replace aE:=qA.heap aE Oz;refine hK.out _ _ (kp aB qA (by omega)) fun aB=>?_
    clear qA hK KK;refine rd1 15 fun KK hK=>?_
    simp only[xa,xb,xc];obtain⟨y0,y1,y2,y3⟩:=flt_facts aF;go_simp;obtain⟨lV,hY⟩:∃ V,((kI.setCell ⟨g2,0,none⟩ (Iz e0)).setCell ⟨g2,1,none⟩ (Iz a0))=V:=⟨_,rfl⟩
    have qS:Out g2 (g2+1) kI lV:=by rw[<-hY];exact(Out.refl _ _ _).zo2 Lz _ _
    replace aF:lV.heap[g2]? = some (Dz e0 a0 111):=by rw[<-hY];simp[World.setCell,Array.getElem?_modify,aF]
    (try rw[hY]);clear hY;replace aD:=aD.far qS bT.out (by omega);replace aE:=qS.heap aE (by omega);refine hK.out _ _ (kp aB qS (by omega)) fun aB=>?_
    clear qS hK KK;refine dn ?_;exact HK.out g2 _ ⟨aD,aB,aF,aT,aE⟩
   ·simp only[xa,xb,xc];go_simp;obtain⟨g2,aG⟩:∃ g,Z24.heap.size=g:=⟨_,rfl⟩
    obtain⟨Z24_14,hY⟩:∃ V,Z24.alloc (Dz 0 0 111)=V:=⟨_,rfl⟩
    have qA:Out 0 0 Z24 Z24_14:=by rw[<-hY];exact(Out.refl 0 0 _).alloc _
    have aF:Z24_14.heap[g2]? = some (Dz 0 0 111):=by rw[<-hY,<-aG];exact heap_alloc_new _ _
    have aT:pI<=g2:=by rw[<-aG];exact aD.lim
    (try rw[hY]);(try rw[aG]);clear hY aG;replace aD:=aD.quiet qA;replace aE:=qA.heap aE Oz;refine hK.out _ _ (kp aB qA (by omega)) fun aB=>?_
    clear qA hK KK;refine rd1 13 fun KK hK=>?_
    simp only[xa,xb,xc];go_simp;refine(eO.out _ _ aD aB.2.2.2.1).mono ?_;rintro e Z24_14_13 ⟨rfl,aH,q1⟩;have aD:=aH;clear aH;replace aE:=q1.heap aE (by omega);replace aF:=q1.heap aF (by omega);refine hK.out _ _ (kp aB q1 (by omega)) fun aB=>?_
    clear q1 hK KK;refine rd1 15 fun KK hK=>?_
    simp only[xa,xb,xc];obtain⟨y0,y1,y2,y3⟩:=flt_facts aF;go_simp;obtain⟨lU,hY⟩:∃ V,((Z24_14_13.setCell ⟨g2,0,none⟩ (Iz e0)).setCell ⟨g2,1,none⟩ (Iz a0))=V:=⟨_,rfl⟩
    have qS:Out g2 (g2+1) Z24_14_13 lU:=by rw[<-hY];exact(Out.refl _ _ _).zo2 Lz _ _
    replace aF:lU.heap[g2]? = some (Dz e0 a0 111):=by rw[<-hY];simp[World.setCell,Array.getElem?_modify,aF]
    (try rw[hY]);clear hY;replace aD:=aD.far qS bT.out (by omega);replace aE:=qS.heap aE (by omega);refine hK.out _ _ (kp aB qS (by omega)) fun aB=>?_
    clear qS hK KK;refine dn ?_;exact HK.out g2 _ ⟨aD,aB,aF,aT,aE⟩
  case h2=>
   intro g2 V2 hF;obtain⟨aD,⟨cL,cK,cI,cH,cW,dO,eG⟩,aF,aT,aE⟩:=hF;apply hK;clear hK;have bI:eN<=V2.heap.size:=Nat.le_trans hlim24 aD.lim;have HE:=Q3 (aD.e9 (st:=st) iM.out (by show st.last<=st.last+1;omega) cI cH);obtain⟨z0,z1,z2,z3⟩:=flt_facts aE;obtain⟨zz0,zz1,zz2,zz3⟩:=flt_facts aF;clear aD cL cK cI cH cW dO eG;go_wp2
   all_goals go_ret
   all_goals exact⟨F3 (by simp),HE.out⟩
end
end Go.Proofs.YtjgnogflgoihfaaGreatDoor
namespace Go.Proofs.YtjgnogflgoihfaaGreatDoor
open Go.ChangeShapes Go.WideShapes Go.ChangeAt Go.RowKit Go.Deep
set_option linter.unusedVariables false
set_option maxRecDepth 100000
set_option maxHeartbeats 16000000
set_option linter.unusedSimpArgs false
theorem j4f {w:World} {a:Addr} {v:Value} (h:w.cell? a=some v):a.block<w.heap.size:=by
 by_cases hb:a.block<w.heap.size
 ·exact hb
 ·have:w.heap[a.block]? = none:=by simp;omega
  simp[World.cell?,this] at h
theorem j8g {n:Int} (h:(Lit.int .u8 n).wf=true):0<=n/\n<=255:=by
 simpa [Lit.wf,IntKind.min,IntKind.max,IntKind.signed,IntKind.bits] using h
theorem q7e:Tryz.prog.cellsOf 33=1:=by kernel_rfl
def ByIn (w:World) (b:Nat) (p:Option Addr) (t:List Int):Prop:=Byt t/\(t=[]\/∃ g cX,p=some ⟨g,cX,none⟩/\g<b/\∀ j x,t[j]? = some x->w.cell? ⟨g,cX+j,none⟩=some (.int .u8 x))
theorem ByIn.kept {w w':World} {b x y:Nat} {p:Option Addr} {t:List Int} (h:ByIn w b p t) (o:Out x y w w') (hx:b<=x\/y=0):ByIn w' b p t:=by
 refine⟨h.1,?_⟩;rcases h.2 with h | ⟨g,cX,h1,h2,h3⟩
 ·exact .inl h
 ·exact .inr ⟨g,cX,h1,h2,fun j x hj=>o.cell (h3 j x hj) (by omega)⟩
theorem ByIn.bytes {w:World} {b:Nat} {p:Option Addr} {t:List Int} (h:ByIn w b p t):z1u w p t:=by
 refine⟨h.1,?_⟩;rcases h.2 with h | ⟨g,cX,h1,h2,h3⟩
 ·exact .inl h
 ·exact .inr ⟨g,cX,h1,h3⟩
theorem z6s {H:Type} {P:Program} {e:TypeId} {d:DataW H} {n:Nat} (hn:n ∈ d.weights P e):∀ {l:List (DataW H)},d ∈ l->n ∈ DataW.weightsAll P e l
 | [],h=>by cases h
 | x :: r,h=>by
  simp only[DataW.weightsAll,List.mem_append];rcases List.mem_cons.1 h with h | h
  ·subst h;exact .inl hn
  ·exact .inr (z6s hn h)
theorem j8z:Tryz.prog.bytesOf 5=1:=by kernel_rfl
theorem j2r {H:Type} {enc:TypeId × Value->H} {W:World} {fuel:Nat} {cs:List Value} {x:DataW H × List MemPlace} (h:DataW.trod enc Tryz.prog W 0 (fun _=>true) true fuel 33 cs=some x) (hw:∀ n ∈ x.1.weights Tryz.prog 33,n<=reachBytes) :
  ∃ (p:Option Addr) (L:List Int) (cap:Nat),cs=[.slice p L.length cap]/\ByIn W W.heap.size p L/\L.length<=140737488351232:=by
 rcases open_slice1 Tryz.underlying33 q9y h with h0 | ⟨a,len,cap,m,n,V,D,Pl,rfl,hb,hl,hm,hmm,rfl,hx⟩
 ·exact⟨none,[],0,h0.1,⟨(fun x hx=>by cases hx),.inl rfl⟩,Nat.zero_le _⟩
 simp only[if_true] at hmm;subst hmm;have iQ:∀ i,i<len->∃ z:Int,W.cell? (a.add i)=some (.int .u8 z)/\0<=z/\z<=255:=by
  intro i hi;obtain⟨h1,h2⟩:=hx i (by omega);obtain⟨z,e,_,hw⟩:=DataW.trod_int Tryz.underlying5 h2;simp only[List.cons.injEq,and_true] at e;exact⟨z,by rw[h1,e],j8g hw⟩
 obtain⟨q,hq⟩:=choose_lt iQ;have cJ:((List.range len).map q).length=len:=by simp
 have hle:len<=140737488351232:=by
  have:=hw ((len+(m-len))*1) (by simp[DataW.weights,Tryz.underlying33,j8z]);unfold reachBytes at this;omega
 refine⟨some a,(List.range len).map q,_,by rw[cJ],⟨fun x hx=>?_,?_⟩,by rw[cJ];exact hle⟩
 ·obtain⟨i,hi,rfl⟩:=List.mem_map.1 hx;exact(hq i (by simpa using hi)).2
 ·by_cases h0:len=0
  ·left;subst h0;rfl
  ·right
   obtain⟨b,cX,spot⟩:=a;have hspot:spot=none:=by
    have:=(hq 0 (by omega)).1;simpa [Addr.add] using World.cell?_spot this
   subst hspot;refine⟨b,cX,rfl,?_,fun j x hj=>?_⟩
   ·have:=j4f (hq 0 (by omega)).1;simpa [Addr.add] using this
   ·have mU:j<len:=by have:=(List.getElem?_eq_some_iff.1 hj).1;simpa using this
    have e:x=q j:=by rw[List.getElem?_map,List.getElem?_range mU] at hj;simpa using hj.symm
    rw[e];have:=(hq j mU).1;rw[add_plain] at this;exact this
end Go.Proofs.YtjgnogflgoihfaaGreatDoor
namespace Go.Proofs.YtjgnogflgoihfaaGreatDoor
open Go.RowKit
set_option linter.unusedVariables false
set_option maxRecDepth 100000
set_option maxHeartbeats 16000000
set_option linter.unusedSimpArgs false
theorem q7x:(Tryz.prog.info? 5).map (fun i=>(i.zero,i.size,i.bytes))=some (some (.int .u8 0),1,1):=by kernel_rfl
def bvs (t:List Int):List Value:=t.map fun x=>.int .u8 x
theorem x1m (w:World) (ty:TypeId) (p:Option Addr) (c:Nat):(Builtin.append_ #[33,33] ty #[.slice none 0 0,.slice p 0 c]).run Tryz.prog w=.ok (.slice none 0 0) w:=by
 obtain⟨i0,hi,jX,hz1,jW⟩:=z2h q7x;cases p <;> simp[Builtin.append_,run_underlying Tryz.underlying33,sizeOf,typeInfo,hi,Builtin.lenOf,Builtin.firstCells,loadCells,loadCellsFrom]
theorem j1t {w:World} {p:Option Addr} {t:List Int} {c:Nat} (h:z1u w p t):(Go.convert 33 9 (.slice p t.length c)).run Tryz.prog w=.ok (.string (strOfNums t)) w:=by
 rcases h.2 with rfl | ⟨g,cX,rfl,hc⟩
 ·cases p with
  | none=>exact run_convert_bytes_nil w _ 5 Tryz.underlying33 Tryz.underlying5 _ _ _ Tryz.underlying9
  | some a=>
   rw[run_convert_bytes_string w 33 9 5 _ _ c Tryz.underlying33 Tryz.underlying5 Tryz.underlying9,run_bytesToString w _ _ c [] (by simp[loadCells,loadCellsFrom])];rfl
 ·refine run_convert_bytes_arg w _ 5 Tryz.underlying33 Tryz.underlying5 g cX t.length c t rfl (fun i hi=>?_) _ Tryz.underlying9;rw[hc i t[i] (List.getElem?_eq_getElem hi)];simp[List.getD,List.getElem?_eq_getElem hi]
theorem x4y {w:World} {base g n sz cap:Nat} {T:TypeId} {xs:List Value} {f:Nat->Value} (h:w.ownsRow base T sz (.slice (some ⟨g,0,none⟩) n cap) n xs) (hx:∀ j,j<n*sz->xs[j]? = some (f j)):Row w g T (n*sz) f:=by
 obtain⟨hl,h2⟩:=h;rcases h2 with ⟨e,_⟩ | ⟨g',eD,eT,e,hg,hh,h3,h4,h5,h6⟩
 ·cases e
 ·simp only[Value.slice.injEq,Option.some.injEq,Addr.mk.injEq] at e;obtain⟨⟨rfl,_⟩,_⟩:=e;refine⟨eT,hh,by rw[h5];exact Nat.mul_le_mul_right _ h3,fun i hi=>?_⟩;have:=hx i hi;rw[<-h6,List.getElem?_take,if_pos hi,Array.getElem?_toList] at this;exact this
end Go.Proofs.YtjgnogflgoihfaaGreatDoor
