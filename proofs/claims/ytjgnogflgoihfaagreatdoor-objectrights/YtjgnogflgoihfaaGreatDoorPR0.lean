import Derived.Test.YtjgnogflgoihfaaGreatDoorPR
namespace Go.Proofs.YtjgnogflgoihfaaGreatDoor
open Go.RowKit
set_option linter.unusedVariables false
set_option maxRecDepth 100000
set_option maxHeartbeats 16000000
set_option linter.unusedSimpArgs false
theorem z4z {w:World} {base:Nat} {v:Value} {l:List (Nat × Blk)} (hL:B5 w base v l) (hl:l.length<=100000) (k m:Int) (hk:I64 k) (hm:I64 m):Calls Tryz.prog 21 #[v,.agg #[.int .i64 k,.int .i64 m]] w fun e w'=>e=.returned (.agg #[.int .i64 (vaV l k m).1,.int .i64 (vaV l k m).2])/\Out 0 0 w w':=by
 by_cases h:k<100
 ·have e:vaV l k m=(k,m):=by unfold vaV;rw[if_pos h]
  rw[e];exact z8z k m v h w
 ·exact z6v hL hl k m (by omega) hk.2 hm.1 hm.2
section
variable {w:World} {q:Q9} {st:Sp} {c:Nat}
theorem z2v (h:PB w q st c) (hn4:q.n<=4) (hl:st.last<4611686018427387904) {o0 kd o2 o3 o4 o5 o6 o7 o8:Int} (i3:I64 o3) (i4:I64 o4) (i5:I64 o5) (i6:I64 o6) (i7:I64 o7) (i8:I64 o8) {bp:Option Addr} {bs:List Int} {bc b0:Nat} (hB:ByIn w b0 bp bs) (iG:b0<=q.lo) (nH:bs.length<=100000) (hk:kd<=2\/kd=5\/kd=7\/kd=9\/kd=10\/20<=kd) :
  Kz 12 #[Pq q.B,.agg #[Iz o0,Iz kd,Iz o2,Iz o3,Iz o4,Iz o5,Iz o6,Iz o7,Iz o8,.slice bp bs.length bc]] w fun e w'=>e=.returned (.bool true)/\E9 q st w w':=by
 have HP:=Q3 h;have bT:=Q3 h.od;have HI:=Q3 (And.intro i3 i4);have Hl:=Q3 hl;have HB:=Q3 (And.intro hB (And.intro iG nH));obtain⟨k,m,hkm⟩:∃ k m,vaV (K5 (J0 q.n st) (64*q.n)) o5 o6=(k,m):=⟨_,_,rfl⟩
 obtain⟨k2,m2,hkm2⟩:∃ k m,vaV (K5 (J0 q.n st) (64*q.n)) o7 o8=(k,m):=⟨_,_,rfl⟩
 have qH:Hid (∀ V base v,B5 V base v (K5 (J0 q.n st) (64*q.n))->Kz 21 #[v,Vz o5 o6] V fun e w'=>e=.returned (Vz k m)/\Out 0 0 V w'):=fun V base v hv=>by
  have q1:=z4z hv (by have:=z1c (J0 q.n st) (64*q.n);omega) o5 o6 i5 i6;rw[hkm] at q1;exact q1
 have oK:Hid (∀ V base v,B5 V base v (K5 (J0 q.n st) (64*q.n))->Kz 21 #[v,Vz o7 o8] V fun e w'=>e=.returned (Vz k2 m2)/\Out 0 0 V w'):=fun V base v hv=>by
  have q1:=z4z hv (by have:=z1c (J0 q.n st) (64*q.n);omega) o7 o8 i7 i8;rw[hkm2] at q1;exact q1
 obtain⟨W0,bo,hW,cP,fO,oW,hU⟩:=box1a w (.cells #[Iz o0,Iz kd,Iz o2,Iz o3,Iz o4,Iz o5,Iz o6,Iz o7,Iz o8,.slice bp bs.length bc] 35);have cM:=h.od;rw[cP] at cM;unfold Od at cM;obtain⟨p0,p1,p2⟩:=(h.quiet oW).cells;have r0:=(h.quiet oW).be.pc;have r1:=(h.quiet oW).be.rc;have mQ:=Q3 (z1d (h.be.r.quiet oW) h.inv);have Hk:=Q3 hk;have HO:=Q3 oW;have hb00:w.heap.size<=bo:=Nat.le_of_eq cP;have HfO:=Q3 fO;clear h hB iG nH hkm hkm2 i3 i4 i5 i6 i7 i8 hl hk fO p2;go_enter Tryz.func12,Tryz.ntmps12
 go_wp2_with fail;(try rw[hW]);(try rw[cP]);clear hW cP;refine mQ.out.mono ?_;rintro e W1 ⟨v,rfl,hL,o1⟩;have hsz1:bo+1<=W1.heap.size:=by have:=o1.size;omega
 have HLs:=Q3 hL;obtain⟨po,pc,rfl,_⟩:=z4f hL;have bK:=Q3 (HO.out.trans o1);obtain⟨x0,x1,x2,x3,x4,x5,x6,x7,x8,x9⟩:=q1q (o1.heap HfO.out Oz);have fO1:=o1.heap HfO.out Oz;obtain⟨L,hLl⟩:∃ L,(K5 (J0 q.n st) (64*q.n)).length=L:=⟨_,rfl⟩
 rw[hLl] at HLs ⊢;have mP:=Q3 fO1;clear hL o1 x0 x1 x2 x3 x4 x9 hLl fO1 p0 p1 r0 r1 mQ hU oW HO HfO;go_wp2_with fail;refine(qH.out _ _ _ HLs.out).mono ?_;rintro e W2 ⟨rfl,o2'⟩;obtain⟨W3,gv,hW3,aR,f3,o3',hs3⟩:=box1a W2 (Dz k m 32);have pH:=o2'.trans o3';replace x7:=pH.cell x7 Oz;replace x8:=pH.cell x8 Oz;have HLs2:Hid (B5 W3 W0.heap.size (.slice po L pc) (K5 (J0 q.n st) (64*q.n))):=z2o HLs.out pH (Nat.zero_le _);have bQ:=Q3 (bK.out.trans pH);have gQ:=Q3 (And.intro (pH.heap mP.out Oz) f3);have hgv1:bo<gv:=by have h1:=o2'.size;have h2:=Q8 mP.out;omega
 clear x5 x6 o2' o3' f3 pH HLs qH bK mP;go_wp2_with fail;(try rw[hW3]);(try rw[aR]);clear hW3 aR;refine(oK.out _ _ _ HLs2.out).mono ?_;rintro e W4 ⟨rfl,o4'⟩;obtain⟨W,gw,jE,iK,f5,o5',hs5⟩:=box1a W4 (Dz k2 m2 32);have o45:=o4'.trans o5';have fO:=o45.heap gQ.out.1 Oz;have fV:=o45.heap gQ.out.2 Oz;have fX:=f5;have hgw1:gv<gw:=by have h1:=o4'.size;have h2:=Q8 gQ.out.2;omega
 have bJ:=Q3 (bQ.out.trans o45);have bI:gw+1<=W.heap.size:=Q8 f5;obtain⟨eN,mE⟩:∃ b,gw+1=b:=⟨_,rfl⟩
 rw[mE] at bI;obtain⟨p0,p1,p2⟩:=(HP.out.quiet bJ.out).cells;have r0:=(HP.out.quiet bJ.out).be.pc;have r1:=(HP.out.quiet bJ.out).be.rc;obtain⟨x0,x1,x2,x3,x4,x5,x6,x7,x8,x9⟩:=q1q fO;obtain⟨v0,v1,_,_⟩:=Q5 fV;obtain⟨u0,u1,_,_⟩:=Q5 fX;have aD:=HP.out.md bJ.out;clear p2 o4' o5' f5 o45 HLs2 oK bQ gQ hs3 hs5 hsz1;by_cases k1:kd=1
 ·subst k1;obtain⟨y0,y1,e0,a0,st',hq⟩:∃ y0 y1 e a s',maQ q.n st o2 o3 o4=((y0,y1),(e,a),s'):=⟨_,_,_,_,_,rfl⟩
  have iM:Hid (WI q.n st'.W/\st'.last<=st.last+1):=by
   have q0:=WI.ma HP.out.wi o2 o3 o4;rw[hq] at q0;exact q0
  have dV:Hid (∀ V lim,Mx q w lim st st V->cq V q.hb 0=some (Pq (q.s 14))->Kz 16 #[Pq q.hb,Iz o2,Iz o3,Iz o4] V fun e w'=>e=.returned (.tuple #[Vz y0 y1,Vz e0 a0])/\Mx q w lim st' st w'/\Out q.lo q.hi V w'):=fun V lim hM hc=>by
   have q0:=bT.out;unfold Od at q0;have q:=z9z hM.sp hc (by omega) Hl.out o2 o3 o4 hq;exact q.mono fun e w' ⟨h1,h2,h3⟩=>⟨h1,hM.p bT.out h2 h3,h3⟩
  have eO:Hid (∀ V lim,Mx q w lim st' st V->cq V q.rb 0=some (Pq (q.s2 0))->Kz 22 #[Pq q.rb,Iz o2,Iz o3,Iz o4] V fun e w'=>e=.returned (.tuple #[Vz y0 y1,Vz e0 a0])/\Mx q w lim st' st' w'/\Out q.lo2 q.hi2 V w'):=fun V lim hM hc=>by
   have q0:=bT.out;unfold Od at q0;have q:=z9m hM.rf HP.out.inv (fun k z t=>j0j HP.out.inv k z t) hc (by omega) Hl.out o2 o3 o4 hq;exact q.mono fun e w' ⟨h1,h2,h3⟩=>⟨h1,hM.r bT.out h2 h3,h3⟩
  clear hq;go_wp2_with fail;(try rw[jE]);(try rw[iK]);clear jE iK;have cL:=p0;have cK:=p1;have cI:=r0;have cH:=r1;have cW:=x2;have dO:=x3;have eG:=x4;clear p0 p1 r0 r1 x0 x1 x2 x3 x4 x5 x6 x7 x8 x9 v0 v1 u0 u1 fO fV fX;obtain⟨bZ,nK⟩:∃ l,W.heap.size=l:=⟨_,rfl⟩
  replace aD:=aD.at;rw[nK] at aD;have hlim6:eN<=bZ:=by rw[<-nK];exact bI
  clear nK;rename_i K hK
  apply j4o (K:=K) (F:=fun g1 g2 V=>Mx q w bZ st' st V/\(fun w'=>cq w' q.B 0=some (Pq q.hb)/\cq w' q.B 1=some (Pq q.rb)/\cq w' q.hb 0=some (Pq (q.s 14))/\cq w' q.rb 0=some (Pq (q.s2 0))/\cq w' bo 2=some (Iz o2)/\cq w' bo 3=some (Iz o3)/\cq w' bo 4=some (Iz o4)) V/\V.heap[g1]? = some (Dz y0 y1 32)/\bZ<=g1/\V.heap[g2]? = some (Dz e0 a0 46)/\bZ<=g2)
  case h1=>
   intro mC;have HK:=Q3 mC;have kp:∀ {V V':World} {x y:Nat},(fun w'=>cq w' q.B 0=some (Pq q.hb)/\cq w' q.B 1=some (Pq q.rb)/\cq w' q.hb 0=some (Pq (q.s 14))/\cq w' q.rb 0=some (Pq (q.s2 0))/\cq w' bo 2=some (Iz o2)/\cq w' bo 3=some (Iz o3)/\cq w' bo 4=some (Iz o4)) V->Out x y V V'->(q.B<x\/y<=q.B)/\(q.hb<x\/y<=q.hb)/\(q.rb<x\/y<=q.rb)/\(bo<x\/y<=bo)->(fun w'=>cq w' q.B 0=some (Pq q.hb)/\cq w' q.B 1=some (Pq q.rb)/\cq w' q.hb 0=some (Pq (q.s 14))/\cq w' q.rb 0=some (Pq (q.s2 0))/\cq w' bo 2=some (Iz o2)/\cq w' bo 3=some (Iz o3)/\cq w' bo 4=some (Iz o4)) V':=fun h o b=>⟨o.cell h.1 b.1,o.cell h.2.1 b.1,o.cell h.2.2.1 b.2.1,o.cell h.2.2.2.1 b.2.2.1,o.cell h.2.2.2.2.1 b.2.2.2,o.cell h.2.2.2.2.2.1 b.2.2.2,o.cell h.2.2.2.2.2.2 b.2.2.2⟩
   refine wp_region_held_drew (S:=fun w'=>cq w' q.B 0=some (Pq q.hb)/\cq w' q.B 1=some (Pq q.rb)/\cq w' q.hb 0=some (Pq (q.s 14))/\cq w' q.rb 0=some (Pq (q.s2 0))/\cq w' bo 2=some (Iz o2)/\cq w' bo 3=some (Iz o3)/\cq w' bo 4=some (Iz o4)) (by kernel_rfl) ?hS543 (fun aB=>?rest543)
   case hS543=>exact⟨cL,cK,cI,cH,cW,dO,eG⟩
   obtain⟨Z6,hZ⟩:∃ Z,W.drew=Z:=⟨_,rfl⟩
   have oZ:Out 0 0 W Z6:=by rw[<-hZ];exact(Out.refl 0 0 _).drew
   rw[hZ] at aB ⊢;replace aD:=aD.quiet oZ;apply z9k (F:=fun g1 g2 V=>Mx q w bZ st' st V/\(fun w'=>cq w' q.B 0=some (Pq q.hb)/\cq w' q.B 1=some (Pq q.rb)/\cq w' q.hb 0=some (Pq (q.s 14))/\cq w' q.rb 0=some (Pq (q.s2 0))/\cq w' bo 2=some (Iz o2)/\cq w' bo 3=some (Iz o3)/\cq w' bo 4=some (Iz o4)) V/\V.heap[g1]? = some (Dz 0 0 32)/\bZ<=g1/\V.heap[g2]? = some (Dz 0 0 46)/\bZ<=g2/\g1 ≠ g2)
   case h1=>
    intro HC;refine tk 0 ?_;refine tk 1 ?_;refine tk 2 ?_;refine tk 3 ?_;refine tk 4 ?_;refine tk 5 ?_;refine tk 6 ?_;refine tk 7 ?_;refine tk 8 ?_;refine tk 9 ?_;refine rd3 10 14 15 (fun KK hK=>?_) (fun KK hK=>?_) fun KK hK=>?_
    ·simp only[xa,xb,xc];go_simp;refine(dV.out _ _ aD aB.2.2.1).mono ?_;rintro e Z6_10 ⟨rfl,aH,q1⟩;have aD:=aH;clear aH;refine hK.out _ _ (kp aB q1 (by omega)) fun aB=>?_
     clear q1 hK KK;refine tk 11 ?_;refine tk 12 ?_;refine tk 13 ?_;refine rd2 14 15 (fun KK hK=>?_) fun KK hK=>?_
     ·simp only[xa,xb,xc];go_simp;obtain⟨g1,aG⟩:∃ g,Z6_10.heap.size=g:=⟨_,rfl⟩
      obtain⟨cE,hY⟩:∃ V,Z6_10.alloc (Dz 0 0 32)=V:=⟨_,rfl⟩
      have qA:Out 0 0 Z6_10 cE:=by rw[<-hY];exact(Out.refl 0 0 _).alloc _
      have aE:cE.heap[g1]? = some (Dz 0 0 32):=by rw[<-hY,<-aG];exact heap_alloc_new _ _
      have aU:bZ<=g1:=by rw[<-aG];exact aD.lim
      (try rw[hY]);(try rw[aG]);clear hY aG;replace aD:=aD.quiet qA;refine hK.out _ _ (kp aB qA (by omega)) fun aB=>?_
      clear qA hK KK;refine rd1 15 fun KK hK=>?_
      simp only[xa,xb,xc];go_simp;obtain⟨g2,aG⟩:∃ g,cE.heap.size=g:=⟨_,rfl⟩
      obtain⟨dM,hY⟩:∃ V,cE.alloc (Dz 0 0 46)=V:=⟨_,rfl⟩
      have qA:Out 0 0 cE dM:=by rw[<-hY];exact(Out.refl 0 0 _).alloc _
      have aF:dM.heap[g2]? = some (Dz 0 0 46):=by rw[<-hY,<-aG];exact heap_alloc_new _ _
      have aT:bZ<=g2:=by rw[<-aG];exact aD.lim
      have cT:g1<g2:=by rw[<-aG];exact Q8 aE
      (try rw[hY]);(try rw[aG]);clear hY aG;replace aD:=aD.quiet qA;replace aE:=qA.heap aE Oz;refine hK.out _ _ (kp aB qA (by omega)) fun aB=>?_
      clear qA hK KK;(try simp only[Act.put,xa,xb,xc,xd,xe,xf]);exact HC g1 g2 _ ⟨aD,aB,aE,aU,aF,aT,by omega⟩
     ·simp only[xa,xb,xc];go_simp;obtain⟨g2,aG⟩:∃ g,Z6_10.heap.size=g:=⟨_,rfl⟩
      obtain⟨cD,hY⟩:∃ V,Z6_10.alloc (Dz 0 0 46)=V:=⟨_,rfl⟩
      have qA:Out 0 0 Z6_10 cD:=by rw[<-hY];exact(Out.refl 0 0 _).alloc _
      have aF:cD.heap[g2]? = some (Dz 0 0 46):=by rw[<-hY,<-aG];exact heap_alloc_new _ _
      have aT:bZ<=g2:=by rw[<-aG];exact aD.lim
      (try rw[hY]);(try rw[aG]);clear hY aG;replace aD:=aD.quiet qA;refine hK.out _ _ (kp aB qA (by omega)) fun aB=>?_
      clear qA hK KK;refine rd1 14 fun KK hK=>?_
      simp only[xa,xb,xc];go_simp;obtain⟨g1,aG⟩:∃ g,cD.heap.size=g:=⟨_,rfl⟩
      obtain⟨dL,hY⟩:∃ V,cD.alloc (Dz 0 0 32)=V:=⟨_,rfl⟩
      have qA:Out 0 0 cD dL:=by rw[<-hY];exact(Out.refl 0 0 _).alloc _
      have aE:dL.heap[g1]? = some (Dz 0 0 32):=by rw[<-hY,<-aG];exact heap_alloc_new _ _
      have aU:bZ<=g1:=by rw[<-aG];exact aD.lim
      have cS:g2<g1:=by rw[<-aG];exact Q8 aF
      (try rw[hY]);(try rw[aG]);clear hY aG;replace aD:=aD.quiet qA;replace aF:=qA.heap aF Oz;refine hK.out _ _ (kp aB qA (by omega)) fun aB=>?_
      clear qA hK KK;(try simp only[Act.put,xa,xb,xc,xd,xe,xf]);exact HC g1 g2 _ ⟨aD,aB,aE,aU,aF,aT,by omega⟩
    ·simp only[xa,xb,xc];go_simp;obtain⟨g1,aG⟩:∃ g,Z6.heap.size=g:=⟨_,rfl⟩
     obtain⟨gI,hY⟩:∃ V,Z6.alloc (Dz 0 0 32)=V:=⟨_,rfl⟩
     have qA:Out 0 0 Z6 gI:=by rw[<-hY];exact(Out.refl 0 0 _).alloc _
     have aE:gI.heap[g1]? = some (Dz 0 0 32):=by rw[<-hY,<-aG];exact heap_alloc_new _ _
     have aU:bZ<=g1:=by rw[<-aG];exact aD.lim
     (try rw[hY]);(try rw[aG]);clear hY aG;replace aD:=aD.quiet qA;refine hK.out _ _ (kp aB qA (by omega)) fun aB=>?_
     clear qA hK KK;refine rd2 10 15 (fun KK hK=>?_) fun KK hK=>?_
     ·simp only[xa,xb,xc];go_simp;refine(dV.out _ _ aD aB.2.2.1).mono ?_;rintro e Z6_14_10 ⟨rfl,aH,q1⟩;have aD:=aH;clear aH;replace aE:=q1.heap aE (by omega);refine hK.out _ _ (kp aB q1 (by omega)) fun aB=>?_
      clear q1 hK KK;refine tk 11 ?_;refine tk 12 ?_;refine tk 13 ?_;refine rd1 15 fun KK hK=>?_
      simp only[xa,xb,xc];go_simp;obtain⟨g2,aG⟩:∃ g,Z6_14_10.heap.size=g:=⟨_,rfl⟩
      obtain⟨dK,hY⟩:∃ V,Z6_14_10.alloc (Dz 0 0 46)=V:=⟨_,rfl⟩
      have qA:Out 0 0 Z6_14_10 dK:=by rw[<-hY];exact(Out.refl 0 0 _).alloc _
      have aF:dK.heap[g2]? = some (Dz 0 0 46):=by rw[<-hY,<-aG];exact heap_alloc_new _ _
      have aT:bZ<=g2:=by rw[<-aG];exact aD.lim
      have cT:g1<g2:=by rw[<-aG];exact Q8 aE
      (try rw[hY]);(try rw[aG]);clear hY aG;replace aD:=aD.quiet qA;replace aE:=qA.heap aE Oz;refine hK.out _ _ (kp aB qA (by omega)) fun aB=>?_
      clear qA hK KK;(try simp only[Act.put,xa,xb,xc,xd,xe,xf]);exact HC g1 g2 _ ⟨aD,aB,aE,aU,aF,aT,by omega⟩
     ·simp only[xa,xb,xc];go_simp;obtain⟨g2,aG⟩:∃ g,gI.heap.size=g:=⟨_,rfl⟩
      obtain⟨gH,hY⟩:∃ V,gI.alloc (Dz 0 0 46)=V:=⟨_,rfl⟩
      have qA:Out 0 0 gI gH:=by rw[<-hY];exact(Out.refl 0 0 _).alloc _
      have aF:gH.heap[g2]? = some (Dz 0 0 46):=by rw[<-hY,<-aG];exact heap_alloc_new _ _
      have aT:bZ<=g2:=by rw[<-aG];exact aD.lim
      have cT:g1<g2:=by rw[<-aG];exact Q8 aE
      (try rw[hY]);(try rw[aG]);clear hY aG;replace aD:=aD.quiet qA;replace aE:=qA.heap aE Oz;refine hK.out _ _ (kp aB qA (by omega)) fun aB=>?_
      clear qA hK KK;refine rd1 10 fun KK hK=>?_
      simp only[xa,xb,xc];go_simp;refine(dV.out _ _ aD aB.2.2.1).mono ?_;rintro e Z6_14_15_10 ⟨rfl,aH,q1⟩;have aD:=aH;clear aH;replace aE:=q1.heap aE (by omega);replace aF:=q1.heap aF (by omega);refine hK.out _ _ (kp aB q1 (by omega)) fun aB=>?_
      clear q1 hK KK;refine tk 11 ?_;refine tk 12 ?_;refine tk 13 ?_;exact HC g1 g2 _ ⟨aD,aB,aE,aU,aF,aT,by omega⟩
    ·simp only[xa,xb,xc];go_simp;obtain⟨g2,aG⟩:∃ g,Z6.heap.size=g:=⟨_,rfl⟩
     obtain⟨gG,hY⟩:∃ V,Z6.alloc (Dz 0 0 46)=V:=⟨_,rfl⟩
     have qA:Out 0 0 Z6 gG:=by rw[<-hY];exact(Out.refl 0 0 _).alloc _
     have aF:gG.heap[g2]? = some (Dz 0 0 46):=by rw[<-hY,<-aG];exact heap_alloc_new _ _
     have aT:bZ<=g2:=by rw[<-aG];exact aD.lim
     (try rw[hY]);(try rw[aG]);clear hY aG;replace aD:=aD.quiet qA;refine hK.out _ _ (kp aB qA (by omega)) fun aB=>?_
     clear qA hK KK;refine rd2 10 14 (fun KK hK=>?_) fun KK hK=>?_
     ·simp only[xa,xb,xc];go_simp;refine(dV.out _ _ aD aB.2.2.1).mono ?_;rintro e Z6_15_10 ⟨rfl,aH,q1⟩;have aD:=aH;clear aH;replace aF:=q1.heap aF (by omega);refine hK.out _ _ (kp aB q1 (by omega)) fun aB=>?_
      clear q1 hK KK;refine tk 11 ?_;refine tk 12 ?_;refine tk 13 ?_;refine rd1 14 fun KK hK=>?_
      simp only[xa,xb,xc];go_simp;obtain⟨g1,aG⟩:∃ g,Z6_15_10.heap.size=g:=⟨_,rfl⟩
      obtain⟨dJ,hY⟩:∃ V,Z6_15_10.alloc (Dz 0 0 32)=V:=⟨_,rfl⟩
      have qA:Out 0 0 Z6_15_10 dJ:=by rw[<-hY];exact(Out.refl 0 0 _).alloc _
      have aE:dJ.heap[g1]? = some (Dz 0 0 32):=by rw[<-hY,<-aG];exact heap_alloc_new _ _
      have aU:bZ<=g1:=by rw[<-aG];exact aD.lim
      have cS:g2<g1:=by rw[<-aG];exact Q8 aF
      (try rw[hY]);(try rw[aG]);clear hY aG;replace aD:=aD.quiet qA;replace aF:=qA.heap aF Oz;refine hK.out _ _ (kp aB qA (by omega)) fun aB=>?_
      clear qA hK KK;(try simp only[Act.put,xa,xb,xc,xd,xe,xf]);exact HC g1 g2 _ ⟨aD,aB,aE,aU,aF,aT,by omega⟩
     ·simp only[xa,xb,xc];go_simp;obtain⟨g1,aG⟩:∃ g,gG.heap.size=g:=⟨_,rfl⟩
      obtain⟨gC,hY⟩:∃ V,gG.alloc (Dz 0 0 32)=V:=⟨_,rfl⟩
      have qA:Out 0 0 gG gC:=by rw[<-hY];exact(Out.refl 0 0 _).alloc _
      have aE:gC.heap[g1]? = some (Dz 0 0 32):=by rw[<-hY,<-aG];exact heap_alloc_new _ _
      have aU:bZ<=g1:=by rw[<-aG];exact aD.lim
      have cS:g2<g1:=by rw[<-aG];exact Q8 aF
      (try rw[hY]);(try rw[aG]);clear hY aG;replace aD:=aD.quiet qA;replace aF:=qA.heap aF Oz;refine hK.out _ _ (kp aB qA (by omega)) fun aB=>?_
      clear qA hK KK;refine rd1 10 fun KK hK=>?_
      simp only[xa,xb,xc];go_simp;refine(dV.out _ _ aD aB.2.2.1).mono ?_;rintro e Z6_15_14_10 ⟨rfl,aH,q1⟩;have aD:=aH;clear aH;replace aF:=q1.heap aF (by omega);replace aE:=q1.heap aE (by omega);refine hK.out _ _ (kp aB q1 (by omega)) fun aB=>?_
      clear q1 hK KK;refine tk 11 ?_;refine tk 12 ?_;refine tk 13 ?_;exact HC g1 g2 _ ⟨aD,aB,aE,aU,aF,aT,by omega⟩
   case h2=>
    intro g1 g2 Z6X hF;obtain⟨aD,aB,aE,aU,aF,aT,hne6⟩:=hF;refine rd1 16 fun KK hK=>?_
    simp only[xa,xb,xc];obtain⟨Y0,Y1,Y2,Y3⟩:=flt_facts aE;go_simp;obtain⟨fG,hY⟩:∃ V,((Z6X.setCell ⟨g1,0,none⟩ (Iz y0)).setCell ⟨g1,1,none⟩ (Iz y1))=V:=⟨_,rfl⟩
    have qS:Out g1 (g1+1) Z6X fG:=by rw[<-hY];exact(Out.refl _ _ _).zo2 Lz _ _
    replace aE:fG.heap[g1]? = some (Dz y0 y1 32):=by rw[<-hY];simp[World.setCell,Array.getElem?_modify,aE]
    (try rw[hY]);clear hY;replace aD:=aD.far qS bT.out (by omega);replace aF:=qS.heap aF (by omega);refine hK.out _ _ (kp aB qS (by omega)) fun aB=>?_
    clear qS hK KK;refine rd1 17 fun KK hK=>?_
    simp only[xa,xb,xc];obtain⟨Y0,Y1,Y2,Y3⟩:=flt_facts aF;go_simp;obtain⟨eY,hY⟩:∃ V,((fG.setCell ⟨g2,0,none⟩ (Iz e0)).setCell ⟨g2,1,none⟩ (Iz a0))=V:=⟨_,rfl⟩
    have qS:Out g2 (g2+1) fG eY:=by rw[<-hY];exact(Out.refl _ _ _).zo2 Lz _ _
    replace aF:eY.heap[g2]? = some (Dz e0 a0 46):=by rw[<-hY];simp[World.setCell,Array.getElem?_modify,aF]
    (try rw[hY]);clear hY;replace aD:=aD.far qS bT.out (by omega);replace aE:=qS.heap aE (by omega);refine hK.out _ _ (kp aB qS (by omega)) fun aB=>?_
    clear qS hK KK;refine dn ?_;exact HK.out g1 g2 _ ⟨aD,aB,aE,aU,aF,aT⟩
  case h2=>
   intro g1 g2 V1 hF;obtain⟨aD,⟨cL,cK,cI,cH,cW,dO,eG⟩,aE,aU,aF,aT⟩:=hF;apply hK;clear hK;have bI:eN<=V1.heap.size:=Nat.le_trans hlim6 aD.lim;go_wp2_with fail;obtain⟨bH,gK⟩:∃ l,V1.heap.size=l:=⟨_,rfl⟩
   replace aD:=aD.at;rw[gK] at aD;have mT:eN<=bH:=by rw[<-gK];exact bI
   have pR:g1<bH:=by rw[<-gK];exact Q8 aE
   have hc_g2:g2<bH:=by rw[<-gK];exact Q8 aF
   clear gK;rename_i K hK
   apply j4o (K:=K) (F:=fun g3 g4 V=>Mx q w bH st' st' V/\(fun w'=>cq w' q.B 0=some (Pq q.hb)/\cq w' q.B 1=some (Pq q.rb)/\cq w' q.hb 0=some (Pq (q.s 14))/\cq w' q.rb 0=some (Pq (q.s2 0))/\cq w' bo 2=some (Iz o2)/\cq w' bo 3=some (Iz o3)/\cq w' bo 4=some (Iz o4)) V/\V.heap[g3]? = some (Dz y0 y1 32)/\bH<=g3/\V.heap[g4]? = some (Dz e0 a0 46)/\bH<=g4/\V.heap[g1]? = some (Dz y0 y1 32)/\V.heap[g2]? = some (Dz e0 a0 46))
   case h1=>
    intro mC;have HK:=Q3 mC;have kp:∀ {V V':World} {x y:Nat},(fun w'=>cq w' q.B 0=some (Pq q.hb)/\cq w' q.B 1=some (Pq q.rb)/\cq w' q.hb 0=some (Pq (q.s 14))/\cq w' q.rb 0=some (Pq (q.s2 0))/\cq w' bo 2=some (Iz o2)/\cq w' bo 3=some (Iz o3)/\cq w' bo 4=some (Iz o4)) V->Out x y V V'->(q.B<x\/y<=q.B)/\(q.hb<x\/y<=q.hb)/\(q.rb<x\/y<=q.rb)/\(bo<x\/y<=bo)->(fun w'=>cq w' q.B 0=some (Pq q.hb)/\cq w' q.B 1=some (Pq q.rb)/\cq w' q.hb 0=some (Pq (q.s 14))/\cq w' q.rb 0=some (Pq (q.s2 0))/\cq w' bo 2=some (Iz o2)/\cq w' bo 3=some (Iz o3)/\cq w' bo 4=some (Iz o4)) V':=fun h o b=>⟨o.cell h.1 b.1,o.cell h.2.1 b.1,o.cell h.2.2.1 b.2.1,o.cell h.2.2.2.1 b.2.2.1,o.cell h.2.2.2.2.1 b.2.2.2,o.cell h.2.2.2.2.2.1 b.2.2.2,o.cell h.2.2.2.2.2.2 b.2.2.2⟩
    refine wp_region_held_drew (S:=fun w'=>cq w' q.B 0=some (Pq q.hb)/\cq w' q.B 1=some (Pq q.rb)/\cq w' q.hb 0=some (Pq (q.s 14))/\cq w' q.rb 0=some (Pq (q.s2 0))/\cq w' bo 2=some (Iz o2)/\cq w' bo 3=some (Iz o3)/\cq w' bo 4=some (Iz o4)) (by kernel_rfl) ?hS500 (fun aB=>?rest500)
    case hS500=>exact⟨cL,cK,cI,cH,cW,dO,eG⟩
    obtain⟨Z7,hZ⟩:∃ Z,V1.drew=Z:=⟨_,rfl⟩
    have oZ:Out 0 0 V1 Z7:=by rw[<-hZ];exact(Out.refl 0 0 _).drew
    rw[hZ] at aB ⊢;replace aD:=aD.quiet oZ;replace aE:=oZ.heap aE Oz;replace aF:=oZ.heap aF Oz;apply z9k (F:=fun g3 g4 V=>Mx q w bH st' st' V/\(fun w'=>cq w' q.B 0=some (Pq q.hb)/\cq w' q.B 1=some (Pq q.rb)/\cq w' q.hb 0=some (Pq (q.s 14))/\cq w' q.rb 0=some (Pq (q.s2 0))/\cq w' bo 2=some (Iz o2)/\cq w' bo 3=some (Iz o3)/\cq w' bo 4=some (Iz o4)) V/\V.heap[g3]? = some (Dz 0 0 32)/\bH<=g3/\V.heap[g4]? = some (Dz 0 0 46)/\bH<=g4/\g3 ≠ g4/\V.heap[g1]? = some (Dz y0 y1 32)/\V.heap[g2]? = some (Dz e0 a0 46))
    case h1=>
     intro HC;refine tk 0 ?_;refine tk 1 ?_;refine tk 2 ?_;refine tk 3 ?_;refine tk 4 ?_;refine tk 5 ?_;refine tk 6 ?_;refine tk 7 ?_;refine tk 8 ?_;refine tk 9 ?_;refine rd3 10 14 15 (fun KK hK=>?_) (fun KK hK=>?_) fun KK hK=>?_
     ·simp only[xa,xb,xc];go_simp;refine(eO.out _ _ aD aB.2.2.2.1).mono ?_;rintro e Z7_10 ⟨rfl,aH,q1⟩;have aD:=aH;clear aH;replace aE:=q1.heap aE (by omega);replace aF:=q1.heap aF (by omega);refine hK.out _ _ (kp aB q1 (by omega)) fun aB=>?_
      clear q1 hK KK;refine tk 11 ?_;refine tk 12 ?_;refine tk 13 ?_;refine rd2 14 15 (fun KK hK=>?_) fun KK hK=>?_
      ·simp only[xa,xb,xc];go_simp;obtain⟨g3,aG⟩:∃ g,Z7_10.heap.size=g:=⟨_,rfl⟩
       obtain⟨cC,hY⟩:∃ V,Z7_10.alloc (Dz 0 0 32)=V:=⟨_,rfl⟩
       have qA:Out 0 0 Z7_10 cC:=by rw[<-hY];exact(Out.refl 0 0 _).alloc _
       have aK:cC.heap[g3]? = some (Dz 0 0 32):=by rw[<-hY,<-aG];exact heap_alloc_new _ _
       have aZ:bH<=g3:=by rw[<-aG];exact aD.lim
       (try rw[hY]);(try rw[aG]);clear hY aG;replace aD:=aD.quiet qA;replace aE:=qA.heap aE Oz;replace aF:=qA.heap aF Oz;refine hK.out _ _ (kp aB qA (by omega)) fun aB=>?_
       clear qA hK KK;refine rd1 15 fun KK hK=>?_
       simp only[xa,xb,xc];go_simp;obtain⟨g4,aG⟩:∃ g,cC.heap.size=g:=⟨_,rfl⟩
       obtain⟨dI,hY⟩:∃ V,cC.alloc (Dz 0 0 46)=V:=⟨_,rfl⟩
       have qA:Out 0 0 cC dI:=by rw[<-hY];exact(Out.refl 0 0 _).alloc _
       have aJ:dI.heap[g4]? = some (Dz 0 0 46):=by rw[<-hY,<-aG];exact heap_alloc_new _ _
       have aY:bH<=g4:=by rw[<-aG];exact aD.lim
       have cR:g3<g4:=by rw[<-aG];exact Q8 aK
       (try rw[hY]);(try rw[aG]);clear hY aG;replace aD:=aD.quiet qA;replace aE:=qA.heap aE Oz;replace aF:=qA.heap aF Oz;replace aK:=qA.heap aK Oz;refine hK.out _ _ (kp aB qA (by omega)) fun aB=>?_
       clear qA hK KK;(try simp only[Act.put,xa,xb,xc,xd,xe,xf]);exact HC g3 g4 _ ⟨aD,aB,aK,aZ,aJ,aY,by omega,aE,aF⟩
      ·simp only[xa,xb,xc];go_simp;obtain⟨g4,aG⟩:∃ g,Z7_10.heap.size=g:=⟨_,rfl⟩
       obtain⟨cB,hY⟩:∃ V,Z7_10.alloc (Dz 0 0 46)=V:=⟨_,rfl⟩
       have qA:Out 0 0 Z7_10 cB:=by rw[<-hY];exact(Out.refl 0 0 _).alloc _
       have aJ:cB.heap[g4]? = some (Dz 0 0 46):=by rw[<-hY,<-aG];exact heap_alloc_new _ _
       have aY:bH<=g4:=by rw[<-aG];exact aD.lim
       (try rw[hY]);(try rw[aG]);clear hY aG;replace aD:=aD.quiet qA;replace aE:=qA.heap aE Oz;replace aF:=qA.heap aF Oz;refine hK.out _ _ (kp aB qA (by omega)) fun aB=>?_
       clear qA hK KK;refine rd1 14 fun KK hK=>?_
       simp only[xa,xb,xc];go_simp;obtain⟨g3,aG⟩:∃ g,cB.heap.size=g:=⟨_,rfl⟩
       obtain⟨dH,hY⟩:∃ V,cB.alloc (Dz 0 0 32)=V:=⟨_,rfl⟩
       have qA:Out 0 0 cB dH:=by rw[<-hY];exact(Out.refl 0 0 _).alloc _
       have aK:dH.heap[g3]? = some (Dz 0 0 32):=by rw[<-hY,<-aG];exact heap_alloc_new _ _
       have aZ:bH<=g3:=by rw[<-aG];exact aD.lim
       have cQ:g4<g3:=by rw[<-aG];exact Q8 aJ
       (try rw[hY]);(try rw[aG]);clear hY aG;replace aD:=aD.quiet qA;replace aE:=qA.heap aE Oz;replace aF:=qA.heap aF Oz;replace aJ:=qA.heap aJ Oz;refine hK.out _ _ (kp aB qA (by omega)) fun aB=>?_
       clear qA hK KK;(try simp only[Act.put,xa,xb,xc,xd,xe,xf]);exact HC g3 g4 _ ⟨aD,aB,aK,aZ,aJ,aY,by omega,aE,aF⟩
     ·simp only[xa,xb,xc];go_simp;obtain⟨g3,aG⟩:∃ g,Z7.heap.size=g:=⟨_,rfl⟩
      obtain⟨gB,hY⟩:∃ V,Z7.alloc (Dz 0 0 32)=V:=⟨_,rfl⟩
      have qA:Out 0 0 Z7 gB:=by rw[<-hY];exact(Out.refl 0 0 _).alloc _
      have aK:gB.heap[g3]? = some (Dz 0 0 32):=by rw[<-hY,<-aG];exact heap_alloc_new _ _
      have aZ:bH<=g3:=by rw[<-aG];exact aD.lim
      (try rw[hY]);(try rw[aG]);clear hY aG;replace aD:=aD.quiet qA;replace aE:=qA.heap aE Oz;replace aF:=qA.heap aF Oz;refine hK.out _ _ (kp aB qA (by omega)) fun aB=>?_
      clear qA hK KK;refine rd2 10 15 (fun KK hK=>?_) fun KK hK=>?_
      ·simp only[xa,xb,xc];go_simp;refine(eO.out _ _ aD aB.2.2.2.1).mono ?_;rintro e Z7_14_10 ⟨rfl,aH,q1⟩;have aD:=aH;clear aH;replace aE:=q1.heap aE (by omega);replace aF:=q1.heap aF (by omega);replace aK:=q1.heap aK (by omega);refine hK.out _ _ (kp aB q1 (by omega)) fun aB=>?_
       clear q1 hK KK;refine tk 11 ?_;refine tk 12 ?_;refine tk 13 ?_;refine rd1 15 fun KK hK=>?_
       simp only[xa,xb,xc];go_simp;obtain⟨g4,aG⟩:∃ g,Z7_14_10.heap.size=g:=⟨_,rfl⟩
       obtain⟨dG,hY⟩:∃ V,Z7_14_10.alloc (Dz 0 0 46)=V:=⟨_,rfl⟩
       have qA:Out 0 0 Z7_14_10 dG:=by rw[<-hY];exact(Out.refl 0 0 _).alloc _
       have aJ:dG.heap[g4]? = some (Dz 0 0 46):=by rw[<-hY,<-aG];exact heap_alloc_new _ _
       have aY:bH<=g4:=by rw[<-aG];exact aD.lim
       have cR:g3<g4:=by rw[<-aG];exact Q8 aK
       (try rw[hY]);(try rw[aG]);clear hY aG;replace aD:=aD.quiet qA;replace aE:=qA.heap aE Oz;replace aF:=qA.heap aF Oz;replace aK:=qA.heap aK Oz;refine hK.out _ _ (kp aB qA (by omega)) fun aB=>?_
       clear qA hK KK;(try simp only[Act.put,xa,xb,xc,xd,xe,xf]);exact HC g3 g4 _ ⟨aD,aB,aK,aZ,aJ,aY,by omega,aE,aF⟩
      ·simp only[xa,xb,xc];go_simp;obtain⟨g4,aG⟩:∃ g,gB.heap.size=g:=⟨_,rfl⟩
       obtain⟨fZ,hY⟩:∃ V,gB.alloc (Dz 0 0 46)=V:=⟨_,rfl⟩
       have qA:Out 0 0 gB fZ:=by rw[<-hY];exact(Out.refl 0 0 _).alloc _
       have aJ:fZ.heap[g4]? = some (Dz 0 0 46):=by rw[<-hY,<-aG];exact heap_alloc_new _ _
       have aY:bH<=g4:=by rw[<-aG];exact aD.lim
       have cR:g3<g4:=by rw[<-aG];exact Q8 aK
       (try rw[hY]);(try rw[aG]);clear hY aG;replace aD:=aD.quiet qA;replace aE:=qA.heap aE Oz;replace aF:=qA.heap aF Oz;replace aK:=qA.heap aK Oz;refine hK.out _ _ (kp aB qA (by omega)) fun aB=>?_
       clear qA hK KK;refine rd1 10 fun KK hK=>?_
       simp only[xa,xb,xc];go_simp;refine(eO.out _ _ aD aB.2.2.2.1).mono ?_;rintro e Z7_14_15_10 ⟨rfl,aH,q1⟩;have aD:=aH;clear aH;replace aE:=q1.heap aE (by omega);replace aF:=q1.heap aF (by omega);replace aK:=q1.heap aK (by omega);replace aJ:=q1.heap aJ (by omega);refine hK.out _ _ (kp aB q1 (by omega)) fun aB=>?_
       clear q1 hK KK;refine tk 11 ?_;refine tk 12 ?_;refine tk 13 ?_;exact HC g3 g4 _ ⟨aD,aB,aK,aZ,aJ,aY,by omega,aE,aF⟩
     ·simp only[xa,xb,xc];go_simp;obtain⟨g4,aG⟩:∃ g,Z7.heap.size=g:=⟨_,rfl⟩
      obtain⟨fY,hY⟩:∃ V,Z7.alloc (Dz 0 0 46)=V:=⟨_,rfl⟩
      have qA:Out 0 0 Z7 fY:=by rw[<-hY];exact(Out.refl 0 0 _).alloc _
      have aJ:fY.heap[g4]? = some (Dz 0 0 46):=by rw[<-hY,<-aG];exact heap_alloc_new _ _
      have aY:bH<=g4:=by rw[<-aG];exact aD.lim
      (try rw[hY]);(try rw[aG]);clear hY aG;replace aD:=aD.quiet qA;replace aE:=qA.heap aE Oz;replace aF:=qA.heap aF Oz;refine hK.out _ _ (kp aB qA (by omega)) fun aB=>?_
      clear qA hK KK;refine rd2 10 14 (fun KK hK=>?_) fun KK hK=>?_
      ·simp only[xa,xb,xc];go_simp;refine(eO.out _ _ aD aB.2.2.2.1).mono ?_;rintro e Z7_15_10 ⟨rfl,aH,q1⟩;have aD:=aH;clear aH;replace aE:=q1.heap aE (by omega);replace aF:=q1.heap aF (by omega);replace aJ:=q1.heap aJ (by omega);refine hK.out _ _ (kp aB q1 (by omega)) fun aB=>?_
       clear q1 hK KK;refine tk 11 ?_;refine tk 12 ?_;refine tk 13 ?_;refine rd1 14 fun KK hK=>?_
       simp only[xa,xb,xc];go_simp;obtain⟨g3,aG⟩:∃ g,Z7_15_10.heap.size=g:=⟨_,rfl⟩
       obtain⟨dE,hY⟩:∃ V,Z7_15_10.alloc (Dz 0 0 32)=V:=⟨_,rfl⟩
       have qA:Out 0 0 Z7_15_10 dE:=by rw[<-hY];exact(Out.refl 0 0 _).alloc _
       have aK:dE.heap[g3]? = some (Dz 0 0 32):=by rw[<-hY,<-aG];exact heap_alloc_new _ _
       have aZ:bH<=g3:=by rw[<-aG];exact aD.lim
       have cQ:g4<g3:=by rw[<-aG];exact Q8 aJ
       (try rw[hY]);(try rw[aG]);clear hY aG;replace aD:=aD.quiet qA;replace aE:=qA.heap aE Oz;replace aF:=qA.heap aF Oz;replace aJ:=qA.heap aJ Oz;refine hK.out _ _ (kp aB qA (by omega)) fun aB=>?_
       clear qA hK KK;(try simp only[Act.put,xa,xb,xc,xd,xe,xf]);exact HC g3 g4 _ ⟨aD,aB,aK,aZ,aJ,aY,by omega,aE,aF⟩
      ·simp only[xa,xb,xc];go_simp;obtain⟨g3,aG⟩:∃ g,fY.heap.size=g:=⟨_,rfl⟩
       obtain⟨fU,hY⟩:∃ V,fY.alloc (Dz 0 0 32)=V:=⟨_,rfl⟩
       have qA:Out 0 0 fY fU:=by rw[<-hY];exact(Out.refl 0 0 _).alloc _
       have aK:fU.heap[g3]? = some (Dz 0 0 32):=by rw[<-hY,<-aG];exact heap_alloc_new _ _
       have aZ:bH<=g3:=by rw[<-aG];exact aD.lim
       have cQ:g4<g3:=by rw[<-aG];exact Q8 aJ
       (try rw[hY]);(try rw[aG]);clear hY aG;replace aD:=aD.quiet qA;replace aE:=qA.heap aE Oz;replace aF:=qA.heap aF Oz;replace aJ:=qA.heap aJ Oz;refine hK.out _ _ (kp aB qA (by omega)) fun aB=>?_
       clear qA hK KK;refine rd1 10 fun KK hK=>?_
       simp only[xa,xb,xc];go_simp;refine(eO.out _ _ aD aB.2.2.2.1).mono ?_;rintro e Z7_15_14_10 ⟨rfl,aH,q1⟩;have aD:=aH;clear aH;replace aE:=q1.heap aE (by omega);replace aF:=q1.heap aF (by omega);replace aJ:=q1.heap aJ (by omega);replace aK:=q1.heap aK (by omega);refine hK.out _ _ (kp aB q1 (by omega)) fun aB=>?_
       clear q1 hK KK;refine tk 11 ?_;refine tk 12 ?_;refine tk 13 ?_;exact HC g3 g4 _ ⟨aD,aB,aK,aZ,aJ,aY,by omega,aE,aF⟩
    case h2=>
     intro g3 g4 Z7X hF;obtain⟨aD,aB,aK,aZ,aJ,aY,hne7,aE,aF⟩:=hF;refine rd1 16 fun KK hK=>?_
     simp only[xa,xb,xc];obtain⟨Y0,Y1,Y2,Y3⟩:=flt_facts aK;go_simp;obtain⟨fC,hY⟩:∃ V,((Z7X.setCell ⟨g3,0,none⟩ (Iz y0)).setCell ⟨g3,1,none⟩ (Iz y1))=V:=⟨_,rfl⟩
     have qS:Out g3 (g3+1) Z7X fC:=by rw[<-hY];exact(Out.refl _ _ _).zo2 Lz _ _
     replace aK:fC.heap[g3]? = some (Dz y0 y1 32):=by rw[<-hY];simp[World.setCell,Array.getElem?_modify,aK]
     (try rw[hY]);clear hY;replace aD:=aD.far qS bT.out (by omega);replace aE:=qS.heap aE (by omega);replace aF:=qS.heap aF (by omega);replace aJ:=qS.heap aJ (by omega);refine hK.out _ _ (kp aB qS (by omega)) fun aB=>?_
     clear qS hK KK;refine rd1 17 fun KK hK=>?_
     simp only[xa,xb,xc];obtain⟨Y0,Y1,Y2,Y3⟩:=flt_facts aJ;go_simp;obtain⟨eX,hY⟩:∃ V,((fC.setCell ⟨g4,0,none⟩ (Iz e0)).setCell ⟨g4,1,none⟩ (Iz a0))=V:=⟨_,rfl⟩
     have qS:Out g4 (g4+1) fC eX:=by rw[<-hY];exact(Out.refl _ _ _).zo2 Lz _ _
     replace aJ:eX.heap[g4]? = some (Dz e0 a0 46):=by rw[<-hY];simp[World.setCell,Array.getElem?_modify,aJ]
     (try rw[hY]);clear hY;replace aD:=aD.far qS bT.out (by omega);replace aE:=qS.heap aE (by omega);replace aF:=qS.heap aF (by omega);replace aK:=qS.heap aK (by omega);refine hK.out _ _ (kp aB qS (by omega)) fun aB=>?_
     clear qS hK KK;refine dn ?_;exact HK.out g3 g4 _ ⟨aD,aB,aK,aZ,aJ,aY,aE,aF⟩
   case h2=>
    intro g3 g4 V2 hF;obtain⟨aD,⟨cL,cK,cI,cH,cW,dO,eG⟩,aK,aZ,aJ,aY,aE,aF⟩:=hF;apply hK;clear hK;have bI:eN<=V2.heap.size:=Nat.le_trans mT aD.lim;have HE:=Q3 (aD.e9 (st:=st) iM.out.1 iM.out.2 cI cH);obtain⟨s0,s1,_,_⟩:=Q5 aE;obtain⟨t0,t1,_,_⟩:=Q5 aK;obtain⟨z0,z1,_,_⟩:=flt_facts aF;obtain⟨zz0,zz1,_,_⟩:=flt_facts aJ;have hE:=x6i y0 y1;clear aD cL cK cI cH cW dO eG;go_wp2_with fail;refine(z0n _ _ _ _ _).mono ?_;rintro e V9 ⟨rfl,q9⟩;have oM:=Q3 (HE.out.quiet q9);clear q9 HE;go_wp2
    all_goals go_ret
    all_goals exact⟨F3 (by simp),oM.out⟩
 by_cases k2':kd=2
 ·subst k2';go_wp2_with fail;(try rw[jE]);(try rw[iK]);clear jE iK;refine(q3z (HP.out.quiet bJ.out) Hl.out (HB.out.1.kept bJ.out (.inr rfl)) HB.out.2.1 HB.out.2.2).mono ?_;rintro e W9 ⟨rfl,he⟩;have HE:Hid (E9 q st w W9):=by
   obtain⟨st',e1,e2,e3,e4,e5,e6,e7⟩:=he;exact⟨st',e1,e2,e3,e4,(bJ.out.any _ _).trans e5,e6,e7⟩
  clear he;go_wp2;go_ret;exact⟨rfl,HE.out⟩
 by_cases k5:kd=5
 ·subst k5;obtain⟨e0,a0,st',hq⟩:∃ e a s',seQ q.n st k m o2 k2 m2=(e,a,s'):=⟨_,_,_,rfl⟩
  have iM:Hid (WI q.n st'.W/\st'.last=st.last):=by
   have q0:=WI.se HP.out.wi k m o2 k2 m2;rw[hq] at q0;exact q0
  have dV:Hid (∀ V lim,Mx q w lim st st V->cq V q.hb 0=some (Pq (q.s 14))->Kz 17 #[Pq q.hb,Vz k m,Iz o2,Vz k2 m2] V fun e w'=>e=.returned (Vz e0 a0)/\Mx q w lim st' st w'/\Out q.lo q.hi V w'):=fun V lim hM hc=>by
   have q0:=bT.out;unfold Od at q0;have q:=q3g hM.sp hc (by omega) k m o2 k2 m2 hq;exact q.mono fun e w' ⟨h1,h2,h3⟩=>⟨h1,hM.p bT.out h2 h3,h3⟩
  have eO:Hid (∀ V lim,Mx q w lim st' st V->cq V q.rb 0=some (Pq (q.s2 0))->Kz 25 #[Pq q.rb,Vz k m,Iz o2,Vz k2 m2] V fun e w'=>e=.returned (Vz e0 a0)/\Mx q w lim st' st' w'/\Out q.lo2 q.hi2 V w'):=fun V lim hM hc=>by
   have q0:=bT.out;unfold Od at q0;have q:=q2o hM.rf HP.out.inv hc (by omega) k m o2 k2 m2 hq;exact q.mono fun e w' ⟨h1,h2,h3⟩=>⟨h1,hM.r bT.out h2 h3,h3⟩
  clear hq;go_wp2_with fail;(try rw[jE]);(try rw[iK]);clear jE iK;have cL:=p0;have cK:=p1;have cI:=r0;have cH:=r1;have cW:=v0;have dO:=v1;have eG:=x2;have mX:=u0;have cl8:=u1;clear p0 p1 r0 r1 x0 x1 x2 x3 x4 x5 x6 x7 x8 x9 v0 v1 u0 u1 fO fV fX;obtain⟨lim12,kB⟩:∃ l,W.heap.size=l:=⟨_,rfl⟩
  replace aD:=aD.at;rw[kB] at aD;have hlim12:eN<=lim12:=by rw[<-kB];exact bI
  clear kB;have kp:∀ {V V':World} {x y:Nat},(fun w'=>cq w' q.B 0=some (Pq q.hb)/\cq w' q.B 1=some (Pq q.rb)/\cq w' q.hb 0=some (Pq (q.s 14))/\cq w' q.rb 0=some (Pq (q.s2 0))/\cq w' gv 0=some (Iz k)/\cq w' gv 1=some (Iz m)/\cq w' bo 2=some (Iz o2)/\cq w' gw 0=some (Iz k2)/\cq w' gw 1=some (Iz m2)) V->Out x y V V'->(q.B<x\/y<=q.B)/\(q.hb<x\/y<=q.hb)/\(q.rb<x\/y<=q.rb)/\(gv<x\/y<=gv)/\(bo<x\/y<=bo)/\(gw<x\/y<=gw)->(fun w'=>cq w' q.B 0=some (Pq q.hb)/\cq w' q.B 1=some (Pq q.rb)/\cq w' q.hb 0=some (Pq (q.s 14))/\cq w' q.rb 0=some (Pq (q.s2 0))/\cq w' gv 0=some (Iz k)/\cq w' gv 1=some (Iz m)/\cq w' bo 2=some (Iz o2)/\cq w' gw 0=some (Iz k2)/\cq w' gw 1=some (Iz m2)) V':=fun h o b=>⟨o.cell h.1 b.1,o.cell h.2.1 b.1,o.cell h.2.2.1 b.2.1,o.cell h.2.2.2.1 b.2.2.1,o.cell h.2.2.2.2.1 b.2.2.2.1,o.cell h.2.2.2.2.2.1 b.2.2.2.1,o.cell h.2.2.2.2.2.2.1 b.2.2.2.2.1,o.cell h.2.2.2.2.2.2.2.1 b.2.2.2.2.2,o.cell h.2.2.2.2.2.2.2.2 b.2.2.2.2.2⟩
  refine wp_region_held_drew (S:=fun w'=>cq w' q.B 0=some (Pq q.hb)/\cq w' q.B 1=some (Pq q.rb)/\cq w' q.hb 0=some (Pq (q.s 14))/\cq w' q.rb 0=some (Pq (q.s2 0))/\cq w' gv 0=some (Iz k)/\cq w' gv 1=some (Iz m)/\cq w' bo 2=some (Iz o2)/\cq w' gw 0=some (Iz k2)/\cq w' gw 1=some (Iz m2)) (by kernel_rfl) ?hS586 (fun aB=>?rest586)
  case hS586=>exact⟨cL,cK,cI,cH,cW,dO,eG,mX,cl8⟩
  obtain⟨Z12,hZ⟩:∃ Z,W.drew=Z:=⟨_,rfl⟩
  have oZ:Out 0 0 W Z12:=by rw[<-hZ];exact(Out.refl 0 0 _).drew
  rw[hZ] at aB ⊢;replace aD:=aD.quiet oZ;clear hZ oZ cL cK cI cH cW dO eG mX cl8;refine tk 0 ?_;refine tk 1 ?_;refine tk 2 ?_;refine tk 3 ?_;refine tk 4 ?_;refine tk 5 ?_;refine tk 6 ?_;refine tk 7 ?_;refine tk 9 ?_;refine tk 10 ?_;refine tk 11 ?_;refine tk 12 ?_;refine tk 13 ?_;refine tk 14 ?_;refine tk 15 ?_;refine tk 16 ?_;refine rd1 8 fun KK hK=>?_
  simp only[xa,xb,xc];go_simp;refine(dV.out _ _ aD aB.2.2.1).mono ?_;rintro e Z12_8 ⟨rfl,aH,q1⟩;clear aD;have aD:=aH;clear aH;refine hK.out _ _ (kp aB q1 (by omega)) fun aB=>?_
  clear q1 hK KK;refine rd1 17 fun KK hK=>?_
  simp only[xa,xb,xc];go_simp;refine(eO.out _ _ aD aB.2.2.2.1).mono ?_;rintro e Z12_8_17 ⟨rfl,aH,q1⟩;clear aD;have aD:=aH;clear aH;refine hK.out _ _ (kp aB q1 (by omega)) fun aB=>?_
  clear q1 hK KK;refine rd1 18 fun KK hK=>?_
  simp only[xa,xb,xc];go_simp;refine(z0n _ _ _ _ _).mono ?_;rintro e Z12_8_17_18 ⟨rfl,q1⟩;replace aD:=aD.quiet q1;refine hK.out _ _ (kp aB q1 (by omega)) fun aB=>?_
  clear q1 hK KK;refine tk 19 ?_;refine dn ?_;have HE:=Q3 (aD.e9 (st:=st) iM.out.1 (by have:=iM.out.2;omega) aB.2.2.1 aB.2.2.2.1);clear aB aD;go_wp2
  all_goals go_ret
  all_goals exact⟨F3 (by simp),HE.out⟩
 by_cases k7:kd=7
 ·subst k7;obtain⟨e0,a0,st',hq⟩:∃ e a s',srQ q.n st k m o2 o3=(e,a,s'):=⟨_,_,_,rfl⟩
  have iM:Hid (WI q.n st'.W/\st'.last=st.last):=by
   have q0:=WI.sr HP.out.wi k m o2 HI.out.1;rw[hq] at q0;exact q0
  have dV:Hid (∀ V lim,Mx q w lim st st V->cq V q.hb 0=some (Pq (q.s 14))->Kz 26 #[Pq q.hb,Vz k m,Iz o2,Iz o3] V fun e w'=>e=.returned (Vz e0 a0)/\Mx q w lim st' st w'/\Out q.lo q.hi V w'):=fun V lim hM hc=>by
   have q0:=bT.out;unfold Od at q0;have q:=z5q hM.sp hc (by omega) k m o2 o3 hq;exact q.mono fun e w' ⟨h1,h2,h3⟩=>⟨h1,hM.p bT.out h2 h3,h3⟩
  have eO:Hid (∀ V lim,Mx q w lim st' st V->cq V q.rb 0=some (Pq (q.s2 0))->Kz 27 #[Pq q.rb,Vz k m,Iz o2,Iz o3] V fun e w'=>e=.returned (Vz e0 a0)/\Mx q w lim st' st' w'/\Out q.lo2 q.hi2 V w'):=fun V lim hM hc=>by
   have q0:=bT.out;unfold Od at q0;have q:=z5n hM.rf HP.out.inv hc (by omega) k m o2 o3 hq;exact q.mono fun e w' ⟨h1,h2,h3⟩=>⟨h1,hM.r bT.out h2 h3,h3⟩
  clear hq;go_wp2_with fail;(try rw[jE]);(try rw[iK]);clear jE iK;have cL:=p0;have cK:=p1;have cI:=r0;have cH:=r1;have cW:=v0;have dO:=v1;have eG:=x2;have mX:=x3;clear p0 p1 r0 r1 x0 x1 x2 x3 x4 x5 x6 x7 x8 x9 v0 v1 u0 u1 fO fV fX;obtain⟨lim14,kA⟩:∃ l,W.heap.size=l:=⟨_,rfl⟩
  replace aD:=aD.at;rw[kA] at aD;have hlim14:eN<=lim14:=by rw[<-kA];exact bI
  clear kA;have kp:∀ {V V':World} {x y:Nat},(fun w'=>cq w' q.B 0=some (Pq q.hb)/\cq w' q.B 1=some (Pq q.rb)/\cq w' q.hb 0=some (Pq (q.s 14))/\cq w' q.rb 0=some (Pq (q.s2 0))/\cq w' gv 0=some (Iz k)/\cq w' gv 1=some (Iz m)/\cq w' bo 2=some (Iz o2)/\cq w' bo 3=some (Iz o3)) V->Out x y V V'->(q.B<x\/y<=q.B)/\(q.hb<x\/y<=q.hb)/\(q.rb<x\/y<=q.rb)/\(gv<x\/y<=gv)/\(bo<x\/y<=bo)->(fun w'=>cq w' q.B 0=some (Pq q.hb)/\cq w' q.B 1=some (Pq q.rb)/\cq w' q.hb 0=some (Pq (q.s 14))/\cq w' q.rb 0=some (Pq (q.s2 0))/\cq w' gv 0=some (Iz k)/\cq w' gv 1=some (Iz m)/\cq w' bo 2=some (Iz o2)/\cq w' bo 3=some (Iz o3)) V':=fun h o b=>⟨o.cell h.1 b.1,o.cell h.2.1 b.1,o.cell h.2.2.1 b.2.1,o.cell h.2.2.2.1 b.2.2.1,o.cell h.2.2.2.2.1 b.2.2.2.1,o.cell h.2.2.2.2.2.1 b.2.2.2.1,o.cell h.2.2.2.2.2.2.1 b.2.2.2.2,o.cell h.2.2.2.2.2.2.2 b.2.2.2.2⟩
  refine wp_region_held_drew (S:=fun w'=>cq w' q.B 0=some (Pq q.hb)/\cq w' q.B 1=some (Pq q.rb)/\cq w' q.hb 0=some (Pq (q.s 14))/\cq w' q.rb 0=some (Pq (q.s2 0))/\cq w' gv 0=some (Iz k)/\cq w' gv 1=some (Iz m)/\cq w' bo 2=some (Iz o2)/\cq w' bo 3=some (Iz o3)) (by kernel_rfl) ?hS607 (fun aB=>?rest607)
  case hS607=>exact⟨cL,cK,cI,cH,cW,dO,eG,mX⟩
  obtain⟨Z14,hZ⟩:∃ Z,W.drew=Z:=⟨_,rfl⟩
  have oZ:Out 0 0 W Z14:=by rw[<-hZ];exact(Out.refl 0 0 _).drew
  rw[hZ] at aB ⊢;replace aD:=aD.quiet oZ;clear hZ oZ cL cK cI cH cW dO eG mX;refine tk 0 ?_;refine tk 1 ?_;refine tk 2 ?_;refine tk 3 ?_;refine tk 4 ?_;refine tk 5 ?_;refine tk 6 ?_;refine tk 7 ?_;refine tk 8 ?_;refine tk 10 ?_;refine tk 11 ?_;refine tk 12 ?_;refine tk 13 ?_;refine tk 14 ?_;refine tk 15 ?_;refine tk 16 ?_;refine tk 17 ?_;refine tk 18 ?_;refine rd1 9 fun KK hK=>?_
  simp only[xa,xb,xc];go_simp;refine(dV.out _ _ aD aB.2.2.1).mono ?_;rintro e Z14_9 ⟨rfl,aH,q1⟩;clear aD;have aD:=aH;clear aH;refine hK.out _ _ (kp aB q1 (by omega)) fun aB=>?_
  clear q1 hK KK;refine rd1 19 fun KK hK=>?_
  simp only[xa,xb,xc];go_simp;refine(eO.out _ _ aD aB.2.2.2.1).mono ?_;rintro e Z14_9_19 ⟨rfl,aH,q1⟩;clear aD;have aD:=aH;clear aH;refine hK.out _ _ (kp aB q1 (by omega)) fun aB=>?_
  clear q1 hK KK;refine rd1 20 fun KK hK=>?_
  simp only[xa,xb,xc];go_simp;refine(z0n _ _ _ _ _).mono ?_;rintro e Z14_9_19_20 ⟨rfl,q1⟩;replace aD:=aD.quiet q1;refine hK.out _ _ (kp aB q1 (by omega)) fun aB=>?_
  clear q1 hK KK;refine tk 21 ?_;refine dn ?_;have HE:=Q3 (aD.e9 (st:=st) iM.out.1 (by have:=iM.out.2;omega) aB.2.2.1 aB.2.2.2.1);clear aB aD;go_wp2
  all_goals go_ret
  all_goals exact⟨F3 (by simp),HE.out⟩
 have e1:(kd == 1)=false:=by simpa using k1
 have e2:(kd == 2)=false:=by simpa using k2'
 have e5:(kd == 5)=false:=by simpa using k5
 have e7:(kd == 7)=false:=by simpa using k7
 clear k1 k2' k5 k7;by_cases kk9:kd=9
 ·subst kk9;go_wp2_with fail;(try rw[jE]);(try rw[iK]);clear jE iK;refine(x4n (HP.out.quiet bJ.out) o0 o2 o3 o4 o5 o6 o7 o8 k m k2 m2 bp bs.length bc HI.out.2).mono ?_;rintro e W9 ⟨rfl,he⟩;have HE:Hid (E9 q st w W9):=by
   obtain⟨st',e1,e2,e3,e4,e5,e6,e7⟩:=he;exact⟨st',e1,e2,e3,e4,(bJ.out.any _ _).trans e5,e6,e7⟩
  clear he;go_wp2;go_ret;exact⟨rfl,HE.out⟩
 have ee9:(kd == 9)=false:=by simpa using kk9
 by_cases kk10:kd=10
 ·subst kk10;go_wp2_with fail;(try rw[jE]);(try rw[iK]);clear jE iK;refine(x0k (HP.out.quiet bJ.out) o0 o2 o3 o4 o5 o6 o7 o8 k m k2 m2 bp bs.length bc).mono ?_;rintro e W9 ⟨rfl,he⟩;have HE:Hid (E9 q st w W9):=by
   obtain⟨st',e1,e2,e3,e4,e5,e6,e7⟩:=he;exact⟨st',e1,e2,e3,e4,(bJ.out.any _ _).trans e5,e6,e7⟩
  clear he;go_wp2;go_ret;exact⟨rfl,HE.out⟩
 have ee10:(kd == 10)=false:=by simpa using kk10
 have hk9:kd<1\/20<=kd:=by
  have h0:=Hk.out;have h1:kd ≠ 1:=by simpa using e1
  have h2:kd ≠ 2:=by simpa using e2
  have h5:kd ≠ 5:=by simpa using e5
  have h7:kd ≠ 7:=by simpa using e7
  omega
 have ee3:(kd == 3)=false:=by simp;omega
 have ee4:(kd == 4)=false:=by simp;omega
 have ee6:(kd == 6)=false:=by simp;omega
 have ee8:(kd == 8)=false:=by simp;omega
 clear kk9 kk10;go_wp2_with fail;(try rw[jE]);(try rw[iK]);clear jE iK;have HS:Hid (Kz 29 #[Pq q.B,.agg #[Iz o0,Iz kd,Iz o2,Iz o3,Iz o4,Iz o5,Iz o6,Iz o7,Iz o8,.slice bp bs.length bc],Vz k m,Vz k2 m2] W fun e w'=>e=.returned (.bool true)/\E9 q st W w'):=by
  by_cases c20:kd=20
  ·subst c20;exact q9e (HP.out.quiet bJ.out) o0 o2 o3 o4 o5 o6 o7 o8 k m k2 m2 bp bs.length bc HI.out.1
  by_cases c21:kd=21
  ·subst c21;exact q9f (HP.out.quiet bJ.out) o0 o2 o3 o4 o5 o6 o7 o8 k m k2 m2 bp bs.length bc HI.out.1
  by_cases c22:kd=22
  ·subst c22;exact q9g (HP.out.quiet bJ.out) o0 o2 o3 o4 o5 o6 o7 o8 k m k2 m2 bp bs.length bc
  by_cases c23:kd=23
  ·subst c23;exact q9h (HP.out.quiet bJ.out) o0 o2 o3 o4 o5 o6 o7 o8 k m k2 m2 bp bs.length bc HI.out.1 Hl.out
  by_cases c24:kd=24
  ·subst c24;exact q9i (HP.out.quiet bJ.out) o0 o2 o3 o4 o5 o6 o7 o8 k m k2 m2 bp bc (HB.out.1.kept bJ.out (.inr rfl)) HB.out.2.1 HB.out.2.2
  by_cases c25:kd=25
  ·subst c25;exact q9j (HP.out.quiet bJ.out) o0 o2 o3 o4 o5 o6 o7 o8 k m k2 m2 bp bs.length bc HI.out.1
  exact q3u (HP.out.quiet bJ.out) o0 o2 o3 o4 o5 o6 o7 o8 k m k2 m2 bp bs.length bc (by omega)
 refine HS.out.mono ?_;rintro e W9 ⟨rfl,he⟩;have HE:Hid (E9 q st w W9):=by
  obtain⟨st',e1,e2,e3,e4,e5,e6,e7⟩:=he;exact⟨st',e1,e2,e3,e4,(bJ.out.any _ _).trans e5,e6,e7⟩
 clear he;go_wp2;go_ret;exact⟨rfl,HE.out⟩
end
end Go.Proofs.YtjgnogflgoihfaaGreatDoor
