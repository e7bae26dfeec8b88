import Derived.Test.YtjgnogflgoihfaaGreatDoorP33
set_option linter.unusedSimpArgs false
set_option linter.unusedVariables false
set_option maxHeartbeats 16000000
set_option maxRecDepth 100000
namespace Go.Proofs.YtjgnogflgoihfaaGreatDoor
open Go.RowKit
section
variable {w:World} {q:Q9} {st:Sp} {c:Nat}
theorem x5c (h:PB w q st c) (o0 o2 o3 o4 o5 o6 o7 o8 k m k2 m2:Int) (bp:Option Addr) (bl bc:Nat) (hv:I64 o3):Kz 29 #[Pq q.B,.agg #[Iz o0,Iz 20,Iz o2,Iz o3,Iz o4,Iz o5,Iz o6,Iz o7,Iz o8,.slice bp bl bc],Vz k m,Vz k2 m2] w fun e w'=>e=.returned (.bool true)/\E9 q st w w':=by
 have HP:=Q3 h;have cI:=Q3 h.od;obtain⟨W,bo,hW,dH,fO,fV,fX,oW,gQ⟩:=q1m w (.cells #[Iz o0,Iz 20,Iz o2,Iz o3,Iz o4,Iz o5,Iz o6,Iz o7,Iz o8,.slice bp bl bc] 35) (Dz k m 32) (Dz k2 m2 32);have cY:=h.od;rw[dH] at cY;unfold Od at cY;obtain⟨p0,p1,p2⟩:=(h.quiet oW).cells;have r0:=(h.quiet oW).be.pc;have r1:=(h.quiet oW).be.rc;obtain⟨x0,x1,x2,x3,x4,x5,x6,x7,x8,x9⟩:=j2o fO;obtain⟨v0,v1,_,_⟩:=Q5 fV;obtain⟨u0,u1,_,_⟩:=Q5 fX;have aD:=h.md oW;have bN:bo+3<=W.heap.size:=by omega
 have Hbo:=Q3 dH;obtain⟨eZ,nN⟩:∃ b,bo+3=b:=⟨_,rfl⟩
 rw[nN] at bN;have dK:=p0;have dJ:=p1;have dG:=r0;have dA:=r1;have dV:=x2;have eY:=x3;clear h fO fV fX;obtain⟨vi,hvi⟩:∃ b,inB (64*q.n) (o2)=b:=⟨_,rfl⟩
 have eK:Hid (∀ V lim,Mx q w lim st st V->cq V q.hb 0=some (Pq (q.s 14))->Kz 44 #[Pq (q.s 14),Iz (o2),Iz o3] V fun e w'=>e=.returned (.bool vi)/\Mx q w lim (z1q st (F3 q.n st.W (o2) o3)) st w'/\Out q.lo q.hi V w'):=fun V lim hM hc=>by
  have q0:=cI.out;unfold Od at q0;have q:=(hvi ▸ z5d hM.sp (o2) o3)
  exact q.mono fun e w' ⟨h1,h2,h3⟩=>⟨h1,hM.p cI.out h2 h3,h3⟩
 have gH:Hid (∀ V lim,Mx q w lim (z1q st (F3 q.n st.W (o2) o3)) st V->cq V q.rb 0=some (Pq (q.s2 0))->Kz 79 #[Pq (q.s2 0),Iz (o2),Iz o3] V fun e w'=>e=.returned (.bool vi)/\Mx q w lim (z1q st (F3 q.n st.W (o2) o3)) (z1q st (F3 q.n st.W (o2) o3)) w'/\Out q.lo2 q.hi2 V w'):=fun V lim hM hc=>by
  have q0:=cI.out;unfold Od at q0;have q:=(hvi ▸ z5b hM.rf (o2) o3)
  exact q.mono fun e w' ⟨h1,h2,h3⟩=>⟨h1,hM.r cI.out h2 h3,h3⟩
 have lP:Hid (WI q.n (z1q st (F3 q.n st.W (o2) o3)).W):=HP.out.wi.poke hv _;clear hvi hv;go_enter Tryz.func29,Tryz.ntmps29
 go_wp2_with fail;(try rw[hW]);(try rw[dH]);have gV:w.heap.size<=bo:=Nat.le_of_eq dH;clear hW dH p0 p1 p2 r0 r1 x0 x1 x2 x3 x4 x5 x6 x7 x8 x9 v0 v1 u0 u1 oW gQ;obtain⟨gN,hlm3⟩:∃ l,W.heap.size=l:=⟨_,rfl⟩
 replace aD:=aD.at;rw[hlm3] at aD;have hlim3:eZ<=gN:=by rw[<-hlm3];exact bN
 clear hlm3;have kp:∀ {V V':World} {x y:Nat},(fun w'=>cq w' q.B 0=some (Pq q.hb)/\cq w' q.B 1=some (Pq q.rb)/\cq w' q.hb 0=some (Pq (q.s 14))/\cq w' q.rb 0=some (Pq (q.s2 0))/\cq w' bo 2=some (Iz o2)/\cq w' bo 3=some (Iz o3)) V->Out x y V V'->(q.B<x\/y<=q.B)/\(q.hb<x\/y<=q.hb)/\(q.rb<x\/y<=q.rb)/\(bo<x\/y<=bo)->(fun w'=>cq w' q.B 0=some (Pq q.hb)/\cq w' q.B 1=some (Pq q.rb)/\cq w' q.hb 0=some (Pq (q.s 14))/\cq w' q.rb 0=some (Pq (q.s2 0))/\cq w' bo 2=some (Iz o2)/\cq w' bo 3=some (Iz o3)) V':=fun h o b=>⟨o.cell h.1 b.1,o.cell h.2.1 b.1,o.cell h.2.2.1 b.2.1,o.cell h.2.2.2.1 b.2.2.1,o.cell h.2.2.2.2.1 b.2.2.2,o.cell h.2.2.2.2.2 b.2.2.2⟩
 refine wp_region_held_drew (S:=fun w'=>cq w' q.B 0=some (Pq q.hb)/\cq w' q.B 1=some (Pq q.rb)/\cq w' q.hb 0=some (Pq (q.s 14))/\cq w' q.rb 0=some (Pq (q.s2 0))/\cq w' bo 2=some (Iz o2)/\cq w' bo 3=some (Iz o3)) (by kernel_rfl) ?hS311 (fun aB=>?rest311)
 case hS311=>exact⟨dK,dJ,dG,dA,dV,eY⟩
 obtain⟨Z3,hZ⟩:∃ Z,W.drew=Z:=⟨_,rfl⟩
 have oZ:Out 0 0 W Z3:=by rw[<-hZ];exact(Out.refl 0 0 _).drew
 rw[hZ] at aB ⊢;replace aD:=aD.quiet oZ;clear hZ oZ dK dJ dG dA dV eY;refine tk 0 ?_;refine tk 1 ?_;refine tk 2 ?_;refine tk 3 ?_;refine tk 4 ?_;refine tk 5 ?_;refine tk 6 ?_;refine tk 7 ?_;refine tk 8 ?_;refine tk 9 ?_;refine tk 10 ?_;refine tk 12 ?_;refine tk 13 ?_;refine tk 14 ?_;refine tk 15 ?_;refine tk 16 ?_;refine tk 17 ?_;refine tk 18 ?_;refine tk 19 ?_;refine tk 20 ?_;refine tk 21 ?_;refine tk 22 ?_;refine rd1 11 fun KK hK=>?_
 go_simp;refine(eK.out _ _ aD aB.2.2.1).mono ?_;rintro e Z3_11 ⟨rfl,aJ,q1⟩;clear aD;have aD:=aJ;clear aJ;refine hK.out _ _ (kp aB q1 (by omega)) fun aB=>?_
 clear q1 hK KK;refine rd1 23 fun KK hK=>?_
 go_simp;refine(gH.out _ _ aD aB.2.2.2.1).mono ?_;rintro e Z3_11_23 ⟨rfl,aJ,q1⟩;clear aD;have aD:=aJ;clear aJ;refine hK.out _ _ (kp aB q1 (by omega)) fun aB=>?_
 clear q1 hK KK;refine tk 24 ?_;refine tk 25 ?_;refine dn ?_;have HE:=Q3 (aD.e9 (st:=st) lP.out (by show st.last<=st.last+1;omega) aB.2.2.1 aB.2.2.2.1);clear aB aD;go_wp2
 all_goals go_ret
 all_goals exact⟨z0d (by simp),HE.out⟩
theorem x5d (h:PB w q st c) (o0 o2 o3 o4 o5 o6 o7 o8 k m k2 m2:Int) (bp:Option Addr) (bl bc:Nat) (hv:I64 o3):Kz 29 #[Pq q.B,.agg #[Iz o0,Iz 21,Iz o2,Iz o3,Iz o4,Iz o5,Iz o6,Iz o7,Iz o8,.slice bp bl bc],Vz k m,Vz k2 m2] w fun e w'=>e=.returned (.bool true)/\E9 q st w w':=by
 have HP:=Q3 h;have cI:=Q3 h.od;obtain⟨W,bo,hW,dH,fO,fV,fX,oW,gQ⟩:=q1m w (.cells #[Iz o0,Iz 21,Iz o2,Iz o3,Iz o4,Iz o5,Iz o6,Iz o7,Iz o8,.slice bp bl bc] 35) (Dz k m 32) (Dz k2 m2 32);have cY:=h.od;rw[dH] at cY;unfold Od at cY;obtain⟨p0,p1,p2⟩:=(h.quiet oW).cells;have r0:=(h.quiet oW).be.pc;have r1:=(h.quiet oW).be.rc;obtain⟨x0,x1,x2,x3,x4,x5,x6,x7,x8,x9⟩:=j2o fO;obtain⟨v0,v1,_,_⟩:=Q5 fV;obtain⟨u0,u1,_,_⟩:=Q5 fX;have aD:=h.md oW;have bN:bo+3<=W.heap.size:=by omega
 have Hbo:=Q3 dH;obtain⟨eZ,nN⟩:∃ b,bo+3=b:=⟨_,rfl⟩
 rw[nN] at bN;have dK:=p0;have dJ:=p1;have dG:=r0;have dA:=r1;have dV:=v1;have eY:=x2;have gW:=x3;clear h fO fV fX;obtain⟨ad,had⟩:∃ a,IntKind.i64.wrap (m+o2)=a:=⟨_,rfl⟩
 obtain⟨vi,hvi⟩:∃ b,inB (64*q.n) (ad)=b:=⟨_,rfl⟩
 have eK:Hid (∀ V lim,Mx q w lim st st V->cq V q.hb 0=some (Pq (q.s 14))->Kz 44 #[Pq (q.s 14),Iz (ad),Iz o3] V fun e w'=>e=.returned (.bool vi)/\Mx q w lim (z1q st (F3 q.n st.W (ad) o3)) st w'/\Out q.lo q.hi V w'):=fun V lim hM hc=>by
  have q0:=cI.out;unfold Od at q0;have q:=(hvi ▸ z5d hM.sp (ad) o3)
  exact q.mono fun e w' ⟨h1,h2,h3⟩=>⟨h1,hM.p cI.out h2 h3,h3⟩
 have gH:Hid (∀ V lim,Mx q w lim (z1q st (F3 q.n st.W (ad) o3)) st V->cq V q.rb 0=some (Pq (q.s2 0))->Kz 79 #[Pq (q.s2 0),Iz (ad),Iz o3] V fun e w'=>e=.returned (.bool vi)/\Mx q w lim (z1q st (F3 q.n st.W (ad) o3)) (z1q st (F3 q.n st.W (ad) o3)) w'/\Out q.lo2 q.hi2 V w'):=fun V lim hM hc=>by
  have q0:=cI.out;unfold Od at q0;have q:=(hvi ▸ z5b hM.rf (ad) o3)
  exact q.mono fun e w' ⟨h1,h2,h3⟩=>⟨h1,hM.r cI.out h2 h3,h3⟩
 have lP:Hid (WI q.n (z1q st (F3 q.n st.W (ad) o3)).W):=HP.out.wi.poke hv _;clear hvi hv;go_enter Tryz.func29,Tryz.ntmps29
 go_wp2_with fail;(try rw[hW]);(try rw[dH]);have gV:w.heap.size<=bo:=Nat.le_of_eq dH;clear hW dH p0 p1 p2 r0 r1 x0 x1 x2 x3 x4 x5 x6 x7 x8 x9 v0 v1 u0 u1 oW gQ;obtain⟨lim5,hlm5⟩:∃ l,W.heap.size=l:=⟨_,rfl⟩
 replace aD:=aD.at;rw[hlm5] at aD;have hlim5:eZ<=lim5:=by rw[<-hlm5];exact bN
 clear hlm5;have kp:∀ {V V':World} {x y:Nat},(fun w'=>cq w' q.B 0=some (Pq q.hb)/\cq w' q.B 1=some (Pq q.rb)/\cq w' q.hb 0=some (Pq (q.s 14))/\cq w' q.rb 0=some (Pq (q.s2 0))/\cq w' (bo+1) 1=some (Iz m)/\cq w' bo 2=some (Iz o2)/\cq w' bo 3=some (Iz o3)) V->Out x y V V'->(q.B<x\/y<=q.B)/\(q.hb<x\/y<=q.hb)/\(q.rb<x\/y<=q.rb)/\(bo+1<x\/y<=bo+1)/\(bo<x\/y<=bo)->(fun w'=>cq w' q.B 0=some (Pq q.hb)/\cq w' q.B 1=some (Pq q.rb)/\cq w' q.hb 0=some (Pq (q.s 14))/\cq w' q.rb 0=some (Pq (q.s2 0))/\cq w' (bo+1) 1=some (Iz m)/\cq w' bo 2=some (Iz o2)/\cq w' bo 3=some (Iz o3)) V':=fun h o b=>⟨o.cell h.1 b.1,o.cell h.2.1 b.1,o.cell h.2.2.1 b.2.1,o.cell h.2.2.2.1 b.2.2.1,o.cell h.2.2.2.2.1 b.2.2.2.1,o.cell h.2.2.2.2.2.1 b.2.2.2.2,o.cell h.2.2.2.2.2.2 b.2.2.2.2⟩
 refine wp_region_held_drew (S:=fun w'=>cq w' q.B 0=some (Pq q.hb)/\cq w' q.B 1=some (Pq q.rb)/\cq w' q.hb 0=some (Pq (q.s 14))/\cq w' q.rb 0=some (Pq (q.s2 0))/\cq w' (bo+1) 1=some (Iz m)/\cq w' bo 2=some (Iz o2)/\cq w' bo 3=some (Iz o3)) (by kernel_rfl) ?hS338 (fun aB=>?rest338)
 case hS338=>exact⟨dK,dJ,dG,dA,dV,eY,gW⟩
 obtain⟨Z5,hZ⟩:∃ Z,W.drew=Z:=⟨_,rfl⟩
 have oZ:Out 0 0 W Z5:=by rw[<-hZ];exact(Out.refl 0 0 _).drew
 rw[hZ] at aB ⊢;replace aD:=aD.quiet oZ;clear hZ oZ dK dJ dG dA dV eY gW;refine tk 0 ?_;refine tk 1 ?_;refine tk 2 ?_;refine tk 3 ?_;refine tk 4 ?_;refine tk 5 ?_;refine tk 6 ?_;refine tk 7 ?_;refine tk 8 ?_;refine tk 9 ?_;refine tk 10 ?_;refine tk 11 ?_;refine tk 12 ?_;refine tk 13 ?_;refine tk 15 ?_;refine tk 16 ?_;refine tk 17 ?_;refine tk 18 ?_;refine tk 19 ?_;refine tk 20 ?_;refine tk 21 ?_;refine tk 22 ?_;refine tk 23 ?_;refine tk 24 ?_;refine tk 25 ?_;refine tk 26 ?_;refine tk 27 ?_;refine tk 28 ?_;refine rd1 14 fun KK hK=>?_
 go_simp;refine(eK.out _ _ aD aB.2.2.1).mono ?_;rintro e Z5_14 ⟨rfl,aJ,q1⟩;clear aD;have aD:=aJ;clear aJ;refine hK.out _ _ (kp aB q1 (by omega)) fun aB=>?_
 clear q1 hK KK;refine rd1 29 fun KK hK=>?_
 go_simp;refine(gH.out _ _ aD aB.2.2.2.1).mono ?_;rintro e Z5_14_29 ⟨rfl,aJ,q1⟩;clear aD;have aD:=aJ;clear aJ;refine hK.out _ _ (kp aB q1 (by omega)) fun aB=>?_
 clear q1 hK KK;refine tk 30 ?_;refine tk 31 ?_;refine dn ?_;have HE:=Q3 (aD.e9 (st:=st) lP.out (by show st.last<=st.last+1;omega) aB.2.2.1 aB.2.2.2.1);clear aB aD;go_wp2
 all_goals go_ret
 all_goals exact⟨z0d (by simp),HE.out⟩
theorem x5e (h:PB w q st c) (o0 o2 o3 o4 o5 o6 o7 o8 k m k2 m2:Int) (bp:Option Addr) (bl bc:Nat):Kz 29 #[Pq q.B,.agg #[Iz o0,Iz 22,Iz o2,Iz o3,Iz o4,Iz o5,Iz o6,Iz o7,Iz o8,.slice bp bl bc],Vz k m,Vz k2 m2] w fun e w'=>e=.returned (.bool true)/\E9 q st w w':=by
 have HP:=Q3 h;have cI:=Q3 h.od;obtain⟨W,bo,hW,dH,fO,fV,fX,oW,gQ⟩:=q1m w (.cells #[Iz o0,Iz 22,Iz o2,Iz o3,Iz o4,Iz o5,Iz o6,Iz o7,Iz o8,.slice bp bl bc] 35) (Dz k m 32) (Dz k2 m2 32);have cY:=h.od;rw[dH] at cY;unfold Od at cY;obtain⟨p0,p1,p2⟩:=(h.quiet oW).cells;have r0:=(h.quiet oW).be.pc;have r1:=(h.quiet oW).be.rc;obtain⟨x0,x1,x2,x3,x4,x5,x6,x7,x8,x9⟩:=j2o fO;obtain⟨v0,v1,_,_⟩:=Q5 fV;obtain⟨u0,u1,_,_⟩:=Q5 fX;have aD:=h.md oW;have bN:bo+3<=W.heap.size:=by omega
 have Hbo:=Q3 dH;obtain⟨eZ,nN⟩:∃ b,bo+3=b:=⟨_,rfl⟩
 rw[nN] at bN;have dK:=p0;have dJ:=p1;have dG:=r0;have dA:=r1;have dV:=v1;have eY:=x2;have gW:=u0;have cl7:=u1;clear h fO fV fX;obtain⟨ad,had⟩:∃ a,IntKind.i64.wrap (m+o2)=a:=⟨_,rfl⟩
 obtain⟨z,hz⟩:∃ z,wrap64 (wrap64 (wrap64 (m2*8)+k2)-1)=z:=⟨_,rfl⟩
 have HZ:Hid (I64 z):=by rw[<-hz];exact q9i _
 have jG:Hid (∀ V,Kz 78 #[Vz k2 m2] V fun e w'=>e=.returned (Iz z)/\Out 0 0 V w'):=fun V=>by
  have q:=q7d k2 m2 V;rw[hz] at q;exact q
 clear hz;obtain⟨vi,hvi⟩:∃ b,inB (64*q.n) (ad)=b:=⟨_,rfl⟩
 have eK:Hid (∀ V lim,Mx q w lim st st V->cq V q.hb 0=some (Pq (q.s 14))->Kz 44 #[Pq (q.s 14),Iz (ad),Iz z] V fun e w'=>e=.returned (.bool vi)/\Mx q w lim (z1q st (F3 q.n st.W (ad) z)) st w'/\Out q.lo q.hi V w'):=fun V lim hM hc=>by
  have q0:=cI.out;unfold Od at q0;have q:=(hvi ▸ z5d hM.sp (ad) z)
  exact q.mono fun e w' ⟨h1,h2,h3⟩=>⟨h1,hM.p cI.out h2 h3,h3⟩
 have gH:Hid (∀ V lim,Mx q w lim (z1q st (F3 q.n st.W (ad) z)) st V->cq V q.rb 0=some (Pq (q.s2 0))->Kz 79 #[Pq (q.s2 0),Iz (ad),Iz z] V fun e w'=>e=.returned (.bool vi)/\Mx q w lim (z1q st (F3 q.n st.W (ad) z)) (z1q st (F3 q.n st.W (ad) z)) w'/\Out q.lo2 q.hi2 V w'):=fun V lim hM hc=>by
  have q0:=cI.out;unfold Od at q0;have q:=(hvi ▸ z5b hM.rf (ad) z)
  exact q.mono fun e w' ⟨h1,h2,h3⟩=>⟨h1,hM.r cI.out h2 h3,h3⟩
 have lP:Hid (WI q.n (z1q st (F3 q.n st.W (ad) z)).W):=HP.out.wi.poke HZ.out _;clear hvi;go_enter Tryz.func29,Tryz.ntmps29
 go_wp2_with fail;(try rw[hW]);(try rw[dH]);have gV:w.heap.size<=bo:=Nat.le_of_eq dH;clear hW dH p0 p1 p2 r0 r1 x0 x1 x2 x3 x4 x5 x6 x7 x8 x9 v0 v1 u0 u1 oW gQ;obtain⟨cE,kS⟩:∃ l,W.heap.size=l:=⟨_,rfl⟩
 replace aD:=aD.at;rw[kS] at aD;have hlim7:eZ<=cE:=by rw[<-kS];exact bN
 clear kS;have kp:∀ {V V':World} {x y:Nat},(fun w'=>cq w' q.B 0=some (Pq q.hb)/\cq w' q.B 1=some (Pq q.rb)/\cq w' q.hb 0=some (Pq (q.s 14))/\cq w' q.rb 0=some (Pq (q.s2 0))/\cq w' (bo+1) 1=some (Iz m)/\cq w' bo 2=some (Iz o2)/\cq w' (bo+2) 0=some (Iz k2)/\cq w' (bo+2) 1=some (Iz m2)) V->Out x y V V'->(q.B<x\/y<=q.B)/\(q.hb<x\/y<=q.hb)/\(q.rb<x\/y<=q.rb)/\(bo+1<x\/y<=bo+1)/\(bo<x\/y<=bo)/\(bo+2<x\/y<=bo+2)->(fun w'=>cq w' q.B 0=some (Pq q.hb)/\cq w' q.B 1=some (Pq q.rb)/\cq w' q.hb 0=some (Pq (q.s 14))/\cq w' q.rb 0=some (Pq (q.s2 0))/\cq w' (bo+1) 1=some (Iz m)/\cq w' bo 2=some (Iz o2)/\cq w' (bo+2) 0=some (Iz k2)/\cq w' (bo+2) 1=some (Iz m2)) V':=fun h o b=>⟨o.cell h.1 b.1,o.cell h.2.1 b.1,o.cell h.2.2.1 b.2.1,o.cell h.2.2.2.1 b.2.2.1,o.cell h.2.2.2.2.1 b.2.2.2.1,o.cell h.2.2.2.2.2.1 b.2.2.2.2.1,o.cell h.2.2.2.2.2.2.1 b.2.2.2.2.2,o.cell h.2.2.2.2.2.2.2 b.2.2.2.2.2⟩
 refine wp_region_held_drew (S:=fun w'=>cq w' q.B 0=some (Pq q.hb)/\cq w' q.B 1=some (Pq q.rb)/\cq w' q.hb 0=some (Pq (q.s 14))/\cq w' q.rb 0=some (Pq (q.s2 0))/\cq w' (bo+1) 1=some (Iz m)/\cq w' bo 2=some (Iz o2)/\cq w' (bo+2) 0=some (Iz k2)/\cq w' (bo+2) 1=some (Iz m2)) (by kernel_rfl) ?hS371 (fun aB=>?rest371)
 case hS371=>exact⟨dK,dJ,dG,dA,dV,eY,gW,cl7⟩
 obtain⟨Z7,hZ⟩:∃ Z,W.drew=Z:=⟨_,rfl⟩
 have oZ:Out 0 0 W Z7:=by rw[<-hZ];exact(Out.refl 0 0 _).drew
 rw[hZ] at aB ⊢;replace aD:=aD.quiet oZ;clear hZ oZ dK dJ dG dA dV eY gW cl7;refine tk 0 ?_;refine tk 1 ?_;refine tk 2 ?_;refine tk 3 ?_;refine tk 4 ?_;refine tk 5 ?_;refine tk 6 ?_;refine tk 7 ?_;refine tk 8 ?_;refine tk 9 ?_;refine tk 10 ?_;refine tk 11 ?_;refine tk 12 ?_;refine tk 15 ?_;refine tk 16 ?_;refine tk 17 ?_;refine tk 18 ?_;refine tk 19 ?_;refine tk 20 ?_;refine tk 21 ?_;refine tk 22 ?_;refine tk 23 ?_;refine tk 24 ?_;refine tk 25 ?_;refine tk 26 ?_;refine tk 27 ?_;refine rd1 13 fun KK hK=>?_
 go_simp;refine(jG.out _).mono ?_;rintro e Z7_13 ⟨rfl,q1⟩;replace aD:=aD.quiet q1;refine hK.out _ _ (kp aB q1 (by omega)) fun aB=>?_
 clear q1 hK KK;refine rd1 14 fun KK hK=>?_
 go_simp;refine(eK.out _ _ aD aB.2.2.1).mono ?_;rintro e Z7_13_14 ⟨rfl,aJ,q1⟩;clear aD;have aD:=aJ;clear aJ;refine hK.out _ _ (kp aB q1 (by omega)) fun aB=>?_
 clear q1 hK KK;refine rd1 28 fun KK hK=>?_
 go_simp;refine(jG.out _).mono ?_;rintro e Z7_13_14_28 ⟨rfl,q1⟩;replace aD:=aD.quiet q1;refine hK.out _ _ (kp aB q1 (by omega)) fun aB=>?_
 clear q1 hK KK;refine rd1 29 fun KK hK=>?_
 go_simp;refine(gH.out _ _ aD aB.2.2.2.1).mono ?_;rintro e Z7_13_14_28_29 ⟨rfl,aJ,q1⟩;clear aD;have aD:=aJ;clear aJ;refine hK.out _ _ (kp aB q1 (by omega)) fun aB=>?_
 clear q1 hK KK;refine tk 30 ?_;refine tk 31 ?_;refine dn ?_;have HE:=Q3 (aD.e9 (st:=st) lP.out (by show st.last<=st.last+1;omega) aB.2.2.1 aB.2.2.2.1);clear aB aD;go_wp2
 all_goals go_ret
 all_goals exact⟨z0d (by simp),HE.out⟩
theorem x1c (h:PB w q st c) (o0 o2 o3 o4 o5 o6 o7 o8 k m k2 m2:Int) (bp:Option Addr) (bl bc:Nat) {kd:Int} (hk:kd<20\/25<kd):Kz 29 #[Pq q.B,.agg #[Iz o0,Iz kd,Iz o2,Iz o3,Iz o4,Iz o5,Iz o6,Iz o7,Iz o8,.slice bp bl bc],Vz k m,Vz k2 m2] w fun e w'=>e=.returned (.bool true)/\E9 q st w w':=by
 have HP:=Q3 h;have cI:=Q3 h.od;obtain⟨W,bo,hW,dH,fO,fV,fX,oW,gQ⟩:=q1m w (.cells #[Iz o0,Iz kd,Iz o2,Iz o3,Iz o4,Iz o5,Iz o6,Iz o7,Iz o8,.slice bp bl bc] 35) (Dz k m 32) (Dz k2 m2 32);have cY:=h.od;rw[dH] at cY;unfold Od at cY;obtain⟨p0,p1,p2⟩:=(h.quiet oW).cells;have r0:=(h.quiet oW).be.pc;have r1:=(h.quiet oW).be.rc;obtain⟨x0,x1,x2,x3,x4,x5,x6,x7,x8,x9⟩:=j2o fO;obtain⟨v0,v1,_,_⟩:=Q5 fV;obtain⟨u0,u1,_,_⟩:=Q5 fX;have aD:=h.md oW;have bN:bo+3<=W.heap.size:=by omega
 have Hbo:=Q3 dH;obtain⟨eZ,nN⟩:∃ b,bo+3=b:=⟨_,rfl⟩
 rw[nN] at bN;clear h fO fV fX;have e20:(kd == 20)=false:=by simp;omega
 have e21:(kd == 21)=false:=by simp;omega
 have e22:(kd == 22)=false:=by simp;omega
 have e23:(kd == 23)=false:=by simp;omega
 have e24:(kd == 24)=false:=by simp;omega
 have e25:(kd == 25)=false:=by simp;omega
 have HE:=Q3 (E9.of_out HP.out oW);go_enter Tryz.func29,Tryz.ntmps29
 go_wp2
 all_goals (try rw[hW])
 go_ret;exact⟨rfl,HE.out⟩
end
section
variable {w:World} {q:Q9} {st:Sp} {c:Nat}
theorem x5f (h:PB w q st c) (o0 o2 o3 o4 o5 o6 o7 o8 k m k2 m2:Int) (bp:Option Addr) (bl bc:Nat) (hv:I64 o3) (hl:st.last<4611686018427387904):Kz 29 #[Pq q.B,.agg #[Iz o0,Iz 23,Iz o2,Iz o3,Iz o4,Iz o5,Iz o6,Iz o7,Iz o8,.slice bp bl bc],Vz k m,Vz k2 m2] w fun e w'=>e=.returned (.bool true)/\E9 q st w w':=by
 have HP:=Q3 h;have cI:=Q3 h.od;obtain⟨W,bo,hW,dH,fO,fV,fX,oW,gQ⟩:=q1m w (.cells #[Iz o0,Iz 23,Iz o2,Iz o3,Iz o4,Iz o5,Iz o6,Iz o7,Iz o8,.slice bp bl bc] 35) (Dz k m 32) (Dz k2 m2 32);have cY:=h.od;rw[dH] at cY;unfold Od at cY;obtain⟨p0,p1,p2⟩:=(h.quiet oW).cells;have r0:=(h.quiet oW).be.pc;have r1:=(h.quiet oW).be.rc;obtain⟨x0,x1,x2,x3,x4,x5,x6,x7,x8,x9⟩:=j2o fO;obtain⟨v0,v1,_,_⟩:=Q5 fV;obtain⟨u0,u1,_,_⟩:=Q5 fX;have aD:=h.md oW;have bN:bo+3<=W.heap.size:=by omega
 have Hbo:=Q3 dH;obtain⟨eZ,nN⟩:∃ b,bo+3=b:=⟨_,rfl⟩
 rw[nN] at bN;have dK:=p0;have dJ:=p1;have dG:=r0;have dA:=r1;have dV:=x2;have eY:=x3;have gW:=x4;clear h fO fV fX;obtain⟨y0,hy0⟩:∃ v,(alF q.n st o2 o3 o4).1=v:=⟨_,rfl⟩
 obtain⟨e0,he0⟩:∃ v,(alF q.n st o2 o3 o4).2.1=v:=⟨_,rfl⟩
 obtain⟨a0,ha0⟩:∃ v,(alF q.n st o2 o3 o4).2.2.1=v:=⟨_,rfl⟩
 have eK:Hid (∀ V lim,Mx q w lim st st V->cq V q.hb 0=some (Pq (q.s 14))->Kz 80 #[Pq (q.s 14),Iz o2,Iz o3,Iz o4] V fun e w'=>e=.returned (.tuple #[Iz y0,Vz e0 a0])/\Mx q w lim (alF q.n st o2 o3 o4).2.2.2 st w'/\Out q.lo q.hi V w'):=fun V lim hM hc=>by
  have q0:=cI.out;unfold Od at q0;have q:=z8j hM.sp o2 o3 o4 hv.1 hv.2 hl;rw[hy0,he0,ha0] at q;exact q.mono fun e w' ⟨h1,h2,h3⟩=>⟨h1,hM.p cI.out h2 h3,h3⟩
 have gH:Hid (∀ V lim,Mx q w lim (alF q.n st o2 o3 o4).2.2.2 st V->cq V q.rb 0=some (Pq (q.s2 0))->Kz 60 #[Pq (q.s2 0),Iz o2,Iz o3,Iz o4] V fun e w'=>e=.returned (.tuple #[Iz y0,Vz e0 a0])/\Mx q w lim (alF q.n st o2 o3 o4).2.2.2 (alF q.n st o2 o3 o4).2.2.2 w'/\Out q.lo2 q.hi2 V w'):=fun V lim hM hc=>by
  have q0:=cI.out;unfold Od at q0;have q:=z1j hM.rf HP.out.inv o2 o3 o4 hv.1 hv.2 (by omega);unfold z7d at q;rw[hy0,he0,ha0] at q;exact q.mono fun e w' ⟨h1,h2,h3⟩=>⟨h1,hM.r cI.out h2 h3,h3⟩
 have lP:Hid (WI q.n (alF q.n st o2 o3 o4).2.2.2.W):=HP.out.wi.al _ _ _;clear hy0 he0 ha0 hv hl;go_enter Tryz.func29,Tryz.ntmps29
 go_wp2_with fail;(try rw[hW]);(try rw[dH]);have gV:w.heap.size<=bo:=Nat.le_of_eq dH;clear hW dH p0 p1 p2 r0 r1 x0 x1 x2 x3 x4 x5 x6 x7 x8 x9 v0 v1 u0 u1 oW gQ;obtain⟨lim9,hlm9⟩:∃ l,W.heap.size=l:=⟨_,rfl⟩
 replace aD:=aD.at;rw[hlm9] at aD;have hlim9:eZ<=lim9:=by rw[<-hlm9];exact bN
 clear hlm9;rename_i K hK
 apply x1r (K:=K) (F:=fun g1 V=>Mx q w lim9 (alF q.n st o2 o3 o4).2.2.2 st V/\(fun w'=>cq w' q.B 0=some (Pq q.hb)/\cq w' q.B 1=some (Pq q.rb)/\cq w' q.hb 0=some (Pq (q.s 14))/\cq w' q.rb 0=some (Pq (q.s2 0))/\cq w' bo 2=some (Iz o2)/\cq w' bo 3=some (Iz o3)/\cq w' bo 4=some (Iz o4)) V/\V.heap[g1]? = some (Dz e0 a0 46)/\lim9<=g1)
 case h1=>
  intro nA;have HK:=Q3 nA;have kp:∀ {V V':World} {x y:Nat},(fun w'=>cq w' q.B 0=some (Pq q.hb)/\cq w' q.B 1=some (Pq q.rb)/\cq w' q.hb 0=some (Pq (q.s 14))/\cq w' q.rb 0=some (Pq (q.s2 0))/\cq w' bo 2=some (Iz o2)/\cq w' bo 3=some (Iz o3)/\cq w' bo 4=some (Iz o4)) V->Out x y V V'->(q.B<x\/y<=q.B)/\(q.hb<x\/y<=q.hb)/\(q.rb<x\/y<=q.rb)/\(bo<x\/y<=bo)->(fun w'=>cq w' q.B 0=some (Pq q.hb)/\cq w' q.B 1=some (Pq q.rb)/\cq w' q.hb 0=some (Pq (q.s 14))/\cq w' q.rb 0=some (Pq (q.s2 0))/\cq w' bo 2=some (Iz o2)/\cq w' bo 3=some (Iz o3)/\cq w' bo 4=some (Iz o4)) V':=fun h o b=>⟨o.cell h.1 b.1,o.cell h.2.1 b.1,o.cell h.2.2.1 b.2.1,o.cell h.2.2.2.1 b.2.2.1,o.cell h.2.2.2.2.1 b.2.2.2,o.cell h.2.2.2.2.2.1 b.2.2.2,o.cell h.2.2.2.2.2.2 b.2.2.2⟩
  refine wp_region_held_drew (S:=fun w'=>cq w' q.B 0=some (Pq q.hb)/\cq w' q.B 1=some (Pq q.rb)/\cq w' q.hb 0=some (Pq (q.s 14))/\cq w' q.rb 0=some (Pq (q.s2 0))/\cq w' bo 2=some (Iz o2)/\cq w' bo 3=some (Iz o3)/\cq w' bo 4=some (Iz o4)) (by kernel_rfl) ?hS432 (fun aB=>?rest432)
  case hS432=>exact⟨dK,dJ,dG,dA,dV,eY,gW⟩
  obtain⟨Z9,hZ⟩:∃ Z,W.drew=Z:=⟨_,rfl⟩
  have oZ:Out 0 0 W Z9:=by rw[<-hZ];exact(Out.refl 0 0 _).drew
  rw[hZ] at aB ⊢;replace aD:=aD.quiet oZ;refine tk 0 ?_;refine tk 1 ?_;refine tk 2 ?_;refine tk 3 ?_;refine tk 4 ?_;refine tk 5 ?_;refine tk 6 ?_;refine tk 7 ?_;refine tk 8 ?_;refine tk 9 ?_;refine tk 10 ?_;refine tk 11 ?_;refine tk 12 ?_;refine rd2 13 17 (fun KK hK=>?_) fun KK hK=>?_
  ·go_simp;refine(eK.out _ _ aD aB.2.2.1).mono ?_;rintro e Z9_13 ⟨rfl,aJ,q1⟩;have aD:=aJ;clear aJ;refine hK.out _ _ (kp aB q1 (by omega)) fun aB=>?_
   clear q1 hK KK;refine tk 14 ?_;refine tk 15 ?_;refine tk 16 ?_;refine rd1 17 fun KK hK=>?_
   go_simp;obtain⟨g1,jX,aE,hY,qA,aF⟩:=alz Z9_13 (Dz 0 0 46)
   have bC:lim9<=g1:=by rw[<-aE];exact aD.lim
   (try rw[hY]);(try rw[aE]);clear hY aE;replace aD:=aD.quiet qA;refine hK.out _ _ (kp aB qA (by omega)) fun aB=>?_
   clear qA hK KK;refine tk 18 ?_;refine rd1 19 fun KK hK=>?_
   simp only[xa,xb,xc];obtain⟨Y0,Y1,Y2,Y3⟩:=flt_facts aF;go_simp;obtain⟨lG,hY,qS⟩:=s2z jX g1 e0 a0
   replace aF:lG.heap[g1]? = some (Dz e0 a0 46):=by rw[<-hY];simp[World.setCell,Array.getElem?_modify,aF]
   (try rw[hY]);clear hY;replace aD:=aD.far qS cI.out (by omega);refine hK.out _ _ (kp aB qS (by omega)) fun aB=>?_
   clear qS hK KK;refine dn ?_;exact HK.out g1 _ ⟨aD,aB,aF,bC⟩
  ·go_simp;obtain⟨g1,Z9_17,aE,hY,qA,aF⟩:=alz Z9 (Dz 0 0 46)
   have bC:lim9<=g1:=by rw[<-aE];exact aD.lim
   (try rw[hY]);(try rw[aE]);clear hY aE;replace aD:=aD.quiet qA;refine hK.out _ _ (kp aB qA (by omega)) fun aB=>?_
   clear qA hK KK;refine rd1 13 fun KK hK=>?_
   go_simp;refine(eK.out _ _ aD aB.2.2.1).mono ?_;rintro e Z9_17_13 ⟨rfl,aJ,q1⟩;have aD:=aJ;clear aJ;replace aF:=q1.heap aF (by omega);refine hK.out _ _ (kp aB q1 (by omega)) fun aB=>?_
   clear q1 hK KK;refine tk 14 ?_;refine tk 15 ?_;refine tk 16 ?_;refine tk 18 ?_;refine rd1 19 fun KK hK=>?_
   simp only[xa,xb,xc];obtain⟨Y0,Y1,Y2,Y3⟩:=flt_facts aF;go_simp;obtain⟨lF,hY,qS⟩:=s2z Z9_17_13 g1 e0 a0
   replace aF:lF.heap[g1]? = some (Dz e0 a0 46):=by rw[<-hY];simp[World.setCell,Array.getElem?_modify,aF]
   (try rw[hY]);clear hY;replace aD:=aD.far qS cI.out (by omega);refine hK.out _ _ (kp aB qS (by omega)) fun aB=>?_
   clear qS hK KK;refine dn ?_;exact HK.out g1 _ ⟨aD,aB,aF,bC⟩
 case h2=>
  intro g1 V1 hF;obtain⟨aD,⟨dK,dJ,dG,dA,dV,eY,gW⟩,aF,bC⟩:=hF;apply hK;clear hK;have bN:eZ<=V1.heap.size:=Nat.le_trans hlim9 aD.lim;go_wp2_with fail;obtain⟨nF,hlm10⟩:∃ l,V1.heap.size=l:=⟨_,rfl⟩
  replace aD:=aD.at;rw[hlm10] at aD;have hlim10:eZ<=nF:=by rw[<-hlm10];exact bN
  have hc_g1:g1<nF:=by rw[<-hlm10];exact Q7 aF
  clear hlm10;rename_i K hK
  apply x1r (K:=K) (F:=fun g2 V=>Mx q w nF (alF q.n st o2 o3 o4).2.2.2 (alF q.n st o2 o3 o4).2.2.2 V/\(fun w'=>cq w' q.B 0=some (Pq q.hb)/\cq w' q.B 1=some (Pq q.rb)/\cq w' q.hb 0=some (Pq (q.s 14))/\cq w' q.rb 0=some (Pq (q.s2 0))/\cq w' bo 2=some (Iz o2)/\cq w' bo 3=some (Iz o3)/\cq w' bo 4=some (Iz o4)) V/\V.heap[g2]? = some (Dz e0 a0 111)/\nF<=g2/\V.heap[g1]? = some (Dz e0 a0 46))
  case h1=>
   intro nA;have HK:=Q3 nA;have kp:∀ {V V':World} {x y:Nat},(fun w'=>cq w' q.B 0=some (Pq q.hb)/\cq w' q.B 1=some (Pq q.rb)/\cq w' q.hb 0=some (Pq (q.s 14))/\cq w' q.rb 0=some (Pq (q.s2 0))/\cq w' bo 2=some (Iz o2)/\cq w' bo 3=some (Iz o3)/\cq w' bo 4=some (Iz o4)) V->Out x y V V'->(q.B<x\/y<=q.B)/\(q.hb<x\/y<=q.hb)/\(q.rb<x\/y<=q.rb)/\(bo<x\/y<=bo)->(fun w'=>cq w' q.B 0=some (Pq q.hb)/\cq w' q.B 1=some (Pq q.rb)/\cq w' q.hb 0=some (Pq (q.s 14))/\cq w' q.rb 0=some (Pq (q.s2 0))/\cq w' bo 2=some (Iz o2)/\cq w' bo 3=some (Iz o3)/\cq w' bo 4=some (Iz o4)) V':=fun h o b=>⟨o.cell h.1 b.1,o.cell h.2.1 b.1,o.cell h.2.2.1 b.2.1,o.cell h.2.2.2.1 b.2.2.1,o.cell h.2.2.2.2.1 b.2.2.2,o.cell h.2.2.2.2.2.1 b.2.2.2,o.cell h.2.2.2.2.2.2 b.2.2.2⟩
   refine wp_region_held_drew (S:=fun w'=>cq w' q.B 0=some (Pq q.hb)/\cq w' q.B 1=some (Pq q.rb)/\cq w' q.hb 0=some (Pq (q.s 14))/\cq w' q.rb 0=some (Pq (q.s2 0))/\cq w' bo 2=some (Iz o2)/\cq w' bo 3=some (Iz o3)/\cq w' bo 4=some (Iz o4)) (by kernel_rfl) ?hS404 (fun aB=>?rest404)
   case hS404=>exact⟨dK,dJ,dG,dA,dV,eY,gW⟩
   obtain⟨Z10,hZ⟩:∃ Z,V1.drew=Z:=⟨_,rfl⟩
   have oZ:Out 0 0 V1 Z10:=by rw[<-hZ];exact(Out.refl 0 0 _).drew
   rw[hZ] at aB ⊢;replace aD:=aD.quiet oZ;replace aF:=oZ.heap aF Oz;refine tk 0 ?_;refine tk 1 ?_;refine tk 2 ?_;refine tk 3 ?_;refine tk 4 ?_;refine tk 5 ?_;refine tk 6 ?_;refine tk 7 ?_;refine tk 8 ?_;refine tk 9 ?_;refine tk 10 ?_;refine tk 11 ?_;refine tk 12 ?_;refine rd2 13 17 (fun KK hK=>?_) fun KK hK=>?_
   ·go_simp;refine(gH.out _ _ aD aB.2.2.2.1).mono ?_;rintro e Z10_13 ⟨rfl,aJ,q1⟩;have aD:=aJ;clear aJ;replace aF:=q1.heap aF (by omega);refine hK.out _ _ (kp aB q1 (by omega)) fun aB=>?_
    clear q1 hK KK;refine tk 14 ?_;refine tk 15 ?_;refine tk 16 ?_;refine rd1 17 fun KK hK=>?_
    go_simp;obtain⟨g2,iX,aE,hY,qA,aG⟩:=alz Z10_13 (Dz 0 0 111)
    have aZ:nF<=g2:=by rw[<-aE];exact aD.lim
    (try rw[hY]);(try rw[aE]);clear hY aE;replace aD:=aD.quiet qA;replace aF:=qA.heap aF Oz;refine hK.out _ _ (kp aB qA (by omega)) fun aB=>?_
    clear qA hK KK;refine tk 18 ?_;refine rd1 19 fun KK hK=>?_
    simp only[xa,xb,xc];obtain⟨Y0,Y1,Y2,Y3⟩:=flt_facts aG;go_simp;obtain⟨kL,hY,qS⟩:=s2z iX g2 e0 a0
    replace aG:kL.heap[g2]? = some (Dz e0 a0 111):=by rw[<-hY];simp[World.setCell,Array.getElem?_modify,aG]
    (try rw[hY]);clear hY;replace aD:=aD.far qS cI.out (by omega);replace aF:=qS.heap aF (by omega);refine hK.out _ _ (kp aB qS (by omega)) fun aB=>?_
    clear qS hK KK;refine dn ?_;exact HK.out g2 _ ⟨aD,aB,aG,aZ,aF⟩
   ·go_simp;obtain⟨g2,Z10_17,aE,hY,qA,aG⟩:=alz Z10 (Dz 0 0 111)
    have aZ:nF<=g2:=by rw[<-aE];exact aD.lim
    (try rw[hY]);(try rw[aE]);clear hY aE;replace aD:=aD.quiet qA;replace aF:=qA.heap aF Oz;refine hK.out _ _ (kp aB qA (by omega)) fun aB=>?_
    clear qA hK KK;refine rd1 13 fun KK hK=>?_
    go_simp;refine(gH.out _ _ aD aB.2.2.2.1).mono ?_;rintro e Z10_17_13 ⟨rfl,aJ,q1⟩;have aD:=aJ;clear aJ;replace aF:=q1.heap aF (by omega);replace aG:=q1.heap aG (by omega);refine hK.out _ _ (kp aB q1 (by omega)) fun aB=>?_
    clear q1 hK KK;refine tk 14 ?_;refine tk 15 ?_;refine tk 16 ?_;refine tk 18 ?_;refine rd1 19 fun KK hK=>?_
    simp only[xa,xb,xc];obtain⟨Y0,Y1,Y2,Y3⟩:=flt_facts aG;go_simp;obtain⟨kK,hY,qS⟩:=s2z Z10_17_13 g2 e0 a0
    replace aG:kK.heap[g2]? = some (Dz e0 a0 111):=by rw[<-hY];simp[World.setCell,Array.getElem?_modify,aG]
    (try rw[hY]);clear hY;replace aD:=aD.far qS cI.out (by omega);replace aF:=qS.heap aF (by omega);refine hK.out _ _ (kp aB qS (by omega)) fun aB=>?_
    clear qS hK KK;refine dn ?_;exact HK.out g2 _ ⟨aD,aB,aG,aZ,aF⟩
  case h2=>
   intro g2 V2 hF;obtain⟨aD,⟨dK,dJ,dG,dA,dV,eY,gW⟩,aG,aZ,aF⟩:=hF;apply hK;clear hK;have bN:eZ<=V2.heap.size:=Nat.le_trans hlim10 aD.lim;have HE:=Q3 (aD.e9 (st:=st) lP.out (z8i _ _ _) dG dA);obtain⟨z0,z1,z2,z3⟩:=flt_facts aF;obtain⟨zz0,zz1,zz2,zz3⟩:=flt_facts aG;clear aD dK dJ dG dA dV eY gW;go_wp2
   all_goals go_ret
   all_goals exact⟨z0d (by simp),HE.out⟩
end
end Go.Proofs.YtjgnogflgoihfaaGreatDoor
