import Derived.Test.YtjgnogflgoihfaaGreatDoorP32
namespace Go.Proofs.YtjgnogflgoihfaaGreatDoor
open Go.RowKit
set_option linter.unusedVariables false
set_option maxRecDepth 100000
set_option maxHeartbeats 16000000
set_option linter.unusedSimpArgs false
section
variable {w:World} {lo hi hb:Nat} {s:Nat->Nat} {n cap:Nat} {r:Raw}
theorem j1m (hr:RawAt w lo hi s n cap r) (hA:U6 n r) (hH:cq w hb 0=some (Pq (s 14))) (a i v:Int) (hM:r.M a=none):Kz 77 #[Pq hb,Iz a,Iz i,Iz v] w fun e w'=>e=.returned (.bool false)/\Out 0 0 w w':=by
 have Hr:=Q3 hr;have HA:=Q3 hA;have HM:=Q3 hM;have HH:=Q3 hH;clear hr hA hM;go_enter Tryz.func77,Tryz.ntmps77
 go_wp2_with fail;refine(U3 _ _).mono ?_;rintro e w5 ⟨rfl,he⟩;rw[he];clear he w5;go_wp2_with fail;refine(z5c Hr.out HM.out).mono ?_;rintro e X2 ⟨rfl,q2⟩;clear hH;go_wp2_with fail;obtain⟨gb,bG⟩:∃ g,X2.heap.size=g:=⟨_,rfl⟩
 obtain⟨V4,cG⟩:∃ V,X2.alloc (Ez 0 0 0 0 0 81)=V:=⟨_,rfl⟩
 have fB:V4.heap[gb]? = some (Ez 0 0 0 0 0 81):=by rw[<-cG,<-bG];exact heap_alloc_new _ _
 have O4:Out 0 0 w V4:=by rw[<-cG];exact q2.alloc _
 obtain⟨y0,y1,y2,y3,y4,y5⟩:=W7 fB;have bN:=Q3 O4;clear fB O4 q2;rw[cG];(try rw[bG]);clear cG bG;refine wp_region_held_drew (S:=fun w'=>cq w' gb 0=some (Iz 0)/\cq w' gb 1=some (Iz 0)/\cq w' gb 2=some (Iz 0)/\cq w' gb 3=some (Iz 0)/\cq w' gb 4=some (Iz 0)/\Out 0 0 w w') (by kernel_rfl) ?hS197 (fun aB=>?rest197)
 case hS197=>exact⟨y0,y1,y2,y3,y4,bN.out.drew⟩
 refine tk 0 ?_;refine tk 1 ?_;refine sk 2 ?_;refine sk 3 ?_;refine sk 4 ?_;refine sk 5 ?_;refine sk 6 ?_;refine sk 7 ?_;refine sk 8 ?_;refine sk 9 ?_;refine sk 10 ?_;refine sk 11 ?_;refine tk 12 ?_;refine tk 13 ?_;refine dn ?_;have HE:=Q3 aB.2.2.2.2.2;clear aB;go_wp2;go_ret;exact⟨rfl,HE.out⟩
theorem j1n (hr:RawAt w lo hi s n cap r) (hA:U6 n r) (hH:cq w hb 0=some (Pq (s 14))) (a i v:Int) {t1 t2 t3 t4:Int} (hM:r.M a=some (t1,t2,t3,t4)):Kz 77 #[Pq hb,Iz a,Iz i,Iz v] w fun e w'=>e=.returned (.bool (rgB r a (t1,t2,t3,t4) (J9 t1 t2 i) v))/\Out 0 0 w w':=by
 have Hs:Hid (1<=t2/\t2<=1024):=by have q:=hA a _ hM;exact⟨q.2.2.1,q.2.2.2⟩
 have Hr:=Q3 hr;have HA:=Q3 hA;have HM:=Q3 hM;have HH:=Q3 hH;clear hr hA hM;go_enter Tryz.func77,Tryz.ntmps77
 go_wp2_with fail;refine(U3 _ _).mono ?_;rintro e w5 ⟨rfl,he⟩;rw[he];clear he w5;go_wp2_with fail;refine(z0q Hr.out HM.out).mono ?_;rintro e X2 ⟨rfl,q2⟩;clear hH;go_wp2_with fail;obtain⟨gb,bG⟩:∃ g,X2.heap.size=g:=⟨_,rfl⟩
 obtain⟨V4,cG⟩:∃ V,X2.alloc (Ez a t1 t2 t3 t4 81)=V:=⟨_,rfl⟩
 have fB:V4.heap[gb]? = some (Ez a t1 t2 t3 t4 81):=by rw[<-cG,<-bG];exact heap_alloc_new _ _
 have O4:Out 0 0 w V4:=by rw[<-cG];exact q2.alloc _
 obtain⟨y0,y1,y2,y3,y4,y5⟩:=W7 fB;have bN:=Q3 O4;clear fB O4 q2;rw[cG];(try rw[bG]);clear cG bG;refine wp_region_held_drew (S:=fun w'=>cq w' gb 0=some (Iz a)/\cq w' gb 1=some (Iz t1)/\cq w' gb 2=some (Iz t2)/\cq w' gb 3=some (Iz t3)/\cq w' gb 4=some (Iz t4)/\Out 0 0 w w') (by kernel_rfl) ?hS212 (fun aB=>?rest212)
 case hS212=>exact⟨y0,y1,y2,y3,y4,bN.out.drew⟩
 refine tk 0 ?_;refine tk 1 ?_;refine tk 2 ?_;refine tk 3 ?_;refine tk 4 ?_;refine tk 5 ?_;refine tk 6 ?_;refine tk 7 ?_;refine tk 8 ?_;refine tk 10 ?_;refine rd1 9 fun KK hK=>?_
 simp only[xa,xb,xc];go_simp;refine(z3i t1 t2 i (Hr.out.quiet aB.2.2.2.2.2).tab (by have:=Hs.out;omega) (by have:=Hs.out;omega)).mono ?_;rintro e w6 ⟨rfl,he⟩;rw[he];clear he w6;refine hK.out _ _ (aB) fun aB=>?_
 clear hK KK;refine rd1 11 fun KK hK=>?_
 simp only[xa,xb,xc];go_simp;refine(z4y (Hr.out.quiet aB.2.2.2.2.2) (aB.2.2.2.2.2.cell HH.out z0) a t1 t2 t3 t4 _ v).mono ?_;rintro e w7 ⟨rfl,q7⟩;refine hK.out _ _ ⟨q7.cell aB.1 z0,q7.cell aB.2.1 z0,q7.cell aB.2.2.1 z0,q7.cell aB.2.2.2.1 z0,q7.cell aB.2.2.2.2.1 z0,aB.2.2.2.2.2.trans q7⟩ fun aB=>?_
 clear q7 hK KK;refine tk 12 ?_;refine tk 13 ?_;refine dn ?_;have HE:=Q3 aB.2.2.2.2.2;clear aB;go_wp2;go_ret;exact⟨rfl,HE.out⟩
theorem q4c (hr:RawAt w lo hi s n cap r) (hA:U6 n r) (hH:w.cell? ⟨hb,0,none⟩=some (.pointer (some ⟨s 14,0,none⟩))) (a i v:Int):Calls Tryz.prog 77 #[.pointer (some ⟨hb,0,none⟩),.int .i64 a,.int .i64 i,.int .i64 v] w fun e w'=>e=.returned (.bool (z8c r a i v))/\Out 0 0 w w':=by
 unfold z8c;cases hM:r.M a with
 | none=>exact j1m hr hA hH a i v hM
 | some t=>
  obtain⟨t1,t2,t3,t4⟩:=t;exact j1n hr hA hH a i v hM
end
section
variable {w:World} {q:Q9} {st:Sp} {c:Nat}
theorem x4n (h:PB w q st c) (o0 o2 o3 o4 o5 o6 o7 o8 k m k2 m2:Int) (bp:Option Addr) (bl bc:Nat) (hv:I64 o4):Kz 28 #[Pq q.B,.agg #[Iz o0,Iz 9,Iz o2,Iz o3,Iz o4,Iz o5,Iz o6,Iz o7,Iz o8,.slice bp bl bc],Vz k m,Vz k2 m2] w fun e w'=>e=.returned (.bool true)/\E9 q st w w':=by
 have HP:=Q3 h;have bT:=Q3 h.od;obtain⟨W,bo,hW,cP,fO,fV,fX,oW,hU⟩:=z9g w (.cells #[Iz o0,Iz 9,Iz o2,Iz o3,Iz o4,Iz o5,Iz o6,Iz o7,Iz o8,.slice bp bl bc] 35) (Dz k m 32) (Dz k2 m2 32);have cM:=h.od;rw[cP] at cM;unfold Od at cM;obtain⟨p0,p1,p2⟩:=(h.quiet oW).cells;have r0:=(h.quiet oW).be.pc;have r1:=(h.quiet oW).be.rc;obtain⟨x0,x1,x2,x3,x4,x5,x6,x7,x8,x9⟩:=q1q fO;obtain⟨v0,v1,_,_⟩:=Q5 fV;obtain⟨u0,u1,_,_⟩:=Q5 fX;have aD:=h.md oW;have bI:bo+3<=W.heap.size:=by omega
 have Hbo:=Q3 cP;obtain⟨eN,mE⟩:∃ b,bo+3=b:=⟨_,rfl⟩
 rw[mE] at bI;have cL:=p0;have cK:=p1;have cI:=r0;have cH:=r1;have cW:=x2;have dO:=x3;have eG:=x4;clear h fO fV fX;obtain⟨rg,hrg⟩:∃ b,z8c (J0 q.n st) o2 o3 o4=b:=⟨_,rfl⟩
 have dV:Hid (∀ V lim,Mx q w lim st st V->cq V q.hb 0=some (Pq (q.s 14))->Kz 77 #[Pq q.hb,Iz o2,Iz o3,Iz o4] V fun e w'=>e=.returned (.bool rg)/\Mx q w lim st st w'/\Out 0 0 V w'):=fun V lim hM hc=>by
  have q0:=bT.out;unfold Od at q0;have q:=(hrg ▸ q4c hM.sp.1 (q2u HP.out.inv) hc o2 o3 o4)
  exact q.mono fun e w' ⟨h1,h2⟩=>⟨h1,hM.quiet h2,h2⟩
 have eO:Hid (∀ V lim,Mx q w lim st st V->cq V q.rb 0=some (Pq (q.s2 0))->Kz 68 #[Pq q.rb,Iz o2,Iz o3,Iz o4] V fun e w'=>e=.returned (.bool rg)/\Mx q w lim st st w'/\Out 0 0 V w'):=fun V lim hM hc=>by
  have q0:=bT.out;unfold Od at q0;have q:=(hrg ▸ z5d hM.rf HP.out.inv hc o2 o3 o4 hv.1 hv.2)
  exact q.mono fun e w' ⟨h1,h2⟩=>⟨h1,hM.quiet h2,h2⟩
 clear hrg hv;go_enter Tryz.func28,Tryz.ntmps28
 go_wp2_with fail;(try rw[hW]);(try rw[cP]);have iG:w.heap.size<=bo:=Nat.le_of_eq cP;clear hW cP p0 p1 p2 r0 r1 x0 x1 x2 x3 x4 x5 x6 x7 x8 x9 v0 v1 u0 u1 oW hU;obtain⟨lim17,hlm17⟩:∃ l,W.heap.size=l:=⟨_,rfl⟩
 replace aD:=aD.at;rw[hlm17] at aD;have hlim17:eN<=lim17:=by rw[<-hlm17];exact bI
 clear hlm17;have kp:∀ {V V':World} {x y:Nat},(fun w'=>cq w' q.B 0=some (Pq q.hb)/\cq w' q.B 1=some (Pq q.rb)/\cq w' q.hb 0=some (Pq (q.s 14))/\cq w' q.rb 0=some (Pq (q.s2 0))/\cq w' bo 2=some (Iz o2)/\cq w' bo 3=some (Iz o3)/\cq w' bo 4=some (Iz o4)) V->Out x y V V'->(q.B<x\/y<=q.B)/\(q.hb<x\/y<=q.hb)/\(q.rb<x\/y<=q.rb)/\(bo<x\/y<=bo)->(fun w'=>cq w' q.B 0=some (Pq q.hb)/\cq w' q.B 1=some (Pq q.rb)/\cq w' q.hb 0=some (Pq (q.s 14))/\cq w' q.rb 0=some (Pq (q.s2 0))/\cq w' bo 2=some (Iz o2)/\cq w' bo 3=some (Iz o3)/\cq w' bo 4=some (Iz o4)) V':=fun h o b=>⟨o.cell h.1 b.1,o.cell h.2.1 b.1,o.cell h.2.2.1 b.2.1,o.cell h.2.2.2.1 b.2.2.1,o.cell h.2.2.2.2.1 b.2.2.2,o.cell h.2.2.2.2.2.1 b.2.2.2,o.cell h.2.2.2.2.2.2 b.2.2.2⟩
 refine wp_region_held_drew (S:=fun w'=>cq w' q.B 0=some (Pq q.hb)/\cq w' q.B 1=some (Pq q.rb)/\cq w' q.hb 0=some (Pq (q.s 14))/\cq w' q.rb 0=some (Pq (q.s2 0))/\cq w' bo 2=some (Iz o2)/\cq w' bo 3=some (Iz o3)/\cq w' bo 4=some (Iz o4)) (by kernel_rfl) ?hS261 (fun aB=>?rest261)
 case hS261=>exact⟨cL,cK,cI,cH,cW,dO,eG⟩
 obtain⟨Z17,hZ⟩:∃ Z,W.drew=Z:=⟨_,rfl⟩
 have oZ:Out 0 0 W Z17:=by rw[<-hZ];exact(Out.refl 0 0 _).drew
 rw[hZ] at aB ⊢;replace aD:=aD.quiet oZ;clear hZ oZ cL cK cI cH cW dO eG;refine tk 0 ?_;refine tk 1 ?_;refine tk 2 ?_;refine tk 3 ?_;refine tk 4 ?_;refine tk 5 ?_;refine tk 6 ?_;refine tk 7 ?_;refine tk 8 ?_;refine tk 9 ?_;refine tk 11 ?_;refine tk 12 ?_;refine tk 13 ?_;refine tk 14 ?_;refine tk 15 ?_;refine tk 16 ?_;refine tk 17 ?_;refine tk 18 ?_;refine tk 19 ?_;refine tk 20 ?_;refine rd1 10 fun KK hK=>?_
 simp only[xa,xb,xc];go_simp;refine(dV.out _ _ aD aB.2.2.1).mono ?_;rintro e Z17_10 ⟨rfl,aH,q1⟩;clear aD;have aD:=aH;clear aH;refine hK.out _ _ (kp aB q1 (by omega)) fun aB=>?_
 clear q1 hK KK;refine rd1 21 fun KK hK=>?_
 simp only[xa,xb,xc];go_simp;refine(eO.out _ _ aD aB.2.2.2.1).mono ?_;rintro e Z17_10_21 ⟨rfl,aH,q1⟩;clear aD;have aD:=aH;clear aH;refine hK.out _ _ (kp aB q1 (by omega)) fun aB=>?_
 clear q1 hK KK;refine tk 22 ?_;refine tk 23 ?_;refine dn ?_;have HE:=Q3 (aD.e9 (st:=st) HP.out.wi (by omega) aB.2.2.1 aB.2.2.2.1);clear aB aD;go_wp2
 all_goals go_ret
 all_goals exact⟨F3 (by simp),HE.out⟩
theorem x0k (h:PB w q st c) (o0 o2 o3 o4 o5 o6 o7 o8 k m k2 m2:Int) (bp:Option Addr) (bl bc:Nat):Kz 28 #[Pq q.B,.agg #[Iz o0,Iz 10,Iz o2,Iz o3,Iz o4,Iz o5,Iz o6,Iz o7,Iz o8,.slice bp bl bc],Vz k m,Vz k2 m2] w fun e w'=>e=.returned (.bool true)/\E9 q st w w':=by
 have HP:=Q3 h;have bT:=Q3 h.od;obtain⟨W,bo,hW,cP,fO,fV,fX,oW,hU⟩:=z9g w (.cells #[Iz o0,Iz 10,Iz o2,Iz o3,Iz o4,Iz o5,Iz o6,Iz o7,Iz o8,.slice bp bl bc] 35) (Dz k m 32) (Dz k2 m2 32);have cM:=h.od;rw[cP] at cM;unfold Od at cM;obtain⟨p0,p1,p2⟩:=(h.quiet oW).cells;have r0:=(h.quiet oW).be.pc;have r1:=(h.quiet oW).be.rc;obtain⟨x0,x1,x2,x3,x4,x5,x6,x7,x8,x9⟩:=q1q fO;obtain⟨v0,v1,_,_⟩:=Q5 fV;obtain⟨u0,u1,_,_⟩:=Q5 fX;have aD:=h.md oW;have bI:bo+3<=W.heap.size:=by omega
 have Hbo:=Q3 cP;obtain⟨eN,mE⟩:∃ b,bo+3=b:=⟨_,rfl⟩
 rw[mE] at bI;have cL:=p0;have cK:=p1;have cI:=r0;have cH:=r1;have cW:=v1;have dO:=x2;have eG:=u0;have mX:=u1;clear h fO fV fX;obtain⟨z,hz⟩:∃ z,wrap64 (wrap64 (wrap64 (m2*8)+k2)-1)=z:=⟨_,rfl⟩
 have hv:I64 z:=by rw[<-hz];exact q2t _
 have iD:Hid (∀ V,Kz 78 #[Vz k2 m2] V fun e w'=>e=.returned (Iz z)/\Out 0 0 V w'):=fun V=>by
  have q:=z9u k2 m2 V;rw[hz] at q;exact q
 clear hz;obtain⟨rg,hrg⟩:∃ b,z8c (J0 q.n st) m o2 z=b:=⟨_,rfl⟩
 have dV:Hid (∀ V lim,Mx q w lim st st V->cq V q.hb 0=some (Pq (q.s 14))->Kz 77 #[Pq q.hb,Iz m,Iz o2,Iz z] V fun e w'=>e=.returned (.bool rg)/\Mx q w lim st st w'/\Out 0 0 V w'):=fun V lim hM hc=>by
  have q0:=bT.out;unfold Od at q0;have q:=(hrg ▸ q4c hM.sp.1 (q2u HP.out.inv) hc m o2 z)
  exact q.mono fun e w' ⟨h1,h2⟩=>⟨h1,hM.quiet h2,h2⟩
 have eO:Hid (∀ V lim,Mx q w lim st st V->cq V q.rb 0=some (Pq (q.s2 0))->Kz 68 #[Pq q.rb,Iz m,Iz o2,Iz z] V fun e w'=>e=.returned (.bool rg)/\Mx q w lim st st w'/\Out 0 0 V w'):=fun V lim hM hc=>by
  have q0:=bT.out;unfold Od at q0;have q:=(hrg ▸ z5d hM.rf HP.out.inv hc m o2 z hv.1 hv.2)
  exact q.mono fun e w' ⟨h1,h2⟩=>⟨h1,hM.quiet h2,h2⟩
 clear hrg hv;go_enter Tryz.func28,Tryz.ntmps28
 go_wp2_with fail;(try rw[hW]);(try rw[cP]);have iG:w.heap.size<=bo:=Nat.le_of_eq cP;clear hW cP p0 p1 p2 r0 r1 x0 x1 x2 x3 x4 x5 x6 x7 x8 x9 v0 v1 u0 u1 oW hU;obtain⟨lim18,hlm18⟩:∃ l,W.heap.size=l:=⟨_,rfl⟩
 replace aD:=aD.at;rw[hlm18] at aD;have hlim18:eN<=lim18:=by rw[<-hlm18];exact bI
 clear hlm18;have kp:∀ {V V':World} {x y:Nat},(fun w'=>cq w' q.B 0=some (Pq q.hb)/\cq w' q.B 1=some (Pq q.rb)/\cq w' q.hb 0=some (Pq (q.s 14))/\cq w' q.rb 0=some (Pq (q.s2 0))/\cq w' (bo+1) 1=some (Iz m)/\cq w' bo 2=some (Iz o2)/\cq w' (bo+2) 0=some (Iz k2)/\cq w' (bo+2) 1=some (Iz m2)) V->Out x y V V'->(q.B<x\/y<=q.B)/\(q.hb<x\/y<=q.hb)/\(q.rb<x\/y<=q.rb)/\(bo+1<x\/y<=bo+1)/\(bo<x\/y<=bo)/\(bo+2<x\/y<=bo+2)->(fun w'=>cq w' q.B 0=some (Pq q.hb)/\cq w' q.B 1=some (Pq q.rb)/\cq w' q.hb 0=some (Pq (q.s 14))/\cq w' q.rb 0=some (Pq (q.s2 0))/\cq w' (bo+1) 1=some (Iz m)/\cq w' bo 2=some (Iz o2)/\cq w' (bo+2) 0=some (Iz k2)/\cq w' (bo+2) 1=some (Iz m2)) V':=fun h o b=>⟨o.cell h.1 b.1,o.cell h.2.1 b.1,o.cell h.2.2.1 b.2.1,o.cell h.2.2.2.1 b.2.2.1,o.cell h.2.2.2.2.1 b.2.2.2.1,o.cell h.2.2.2.2.2.1 b.2.2.2.2.1,o.cell h.2.2.2.2.2.2.1 b.2.2.2.2.2,o.cell h.2.2.2.2.2.2.2 b.2.2.2.2.2⟩
 refine wp_region_held_drew (S:=fun w'=>cq w' q.B 0=some (Pq q.hb)/\cq w' q.B 1=some (Pq q.rb)/\cq w' q.hb 0=some (Pq (q.s 14))/\cq w' q.rb 0=some (Pq (q.s2 0))/\cq w' (bo+1) 1=some (Iz m)/\cq w' bo 2=some (Iz o2)/\cq w' (bo+2) 0=some (Iz k2)/\cq w' (bo+2) 1=some (Iz m2)) (by kernel_rfl) ?hS286 (fun aB=>?rest286)
 case hS286=>exact⟨cL,cK,cI,cH,cW,dO,eG,mX⟩
 obtain⟨Z18,hZ⟩:∃ Z,W.drew=Z:=⟨_,rfl⟩
 have oZ:Out 0 0 W Z18:=by rw[<-hZ];exact(Out.refl 0 0 _).drew
 rw[hZ] at aB ⊢;replace aD:=aD.quiet oZ;clear hZ oZ cL cK cI cH cW dO eG mX;refine tk 0 ?_;refine tk 1 ?_;refine tk 2 ?_;refine tk 3 ?_;refine tk 4 ?_;refine tk 5 ?_;refine tk 6 ?_;refine tk 7 ?_;refine tk 8 ?_;refine tk 11 ?_;refine tk 12 ?_;refine tk 13 ?_;refine tk 14 ?_;refine tk 15 ?_;refine tk 16 ?_;refine tk 17 ?_;refine tk 18 ?_;refine tk 19 ?_;refine rd1 9 fun KK hK=>?_
 simp only[xa,xb,xc];go_simp;refine(iD.out _).mono ?_;rintro e Z18_9 ⟨rfl,q1⟩;replace aD:=aD.quiet q1;refine hK.out _ _ (kp aB q1 (by omega)) fun aB=>?_
 clear q1 hK KK;refine rd1 10 fun KK hK=>?_
 simp only[xa,xb,xc];go_simp;refine(dV.out _ _ aD aB.2.2.1).mono ?_;rintro e Z18_9_10 ⟨rfl,aH,q1⟩;clear aD;have aD:=aH;clear aH;refine hK.out _ _ (kp aB q1 (by omega)) fun aB=>?_
 clear q1 hK KK;refine rd1 20 fun KK hK=>?_
 simp only[xa,xb,xc];go_simp;refine(iD.out _).mono ?_;rintro e Z18_9_10_20 ⟨rfl,q1⟩;replace aD:=aD.quiet q1;refine hK.out _ _ (kp aB q1 (by omega)) fun aB=>?_
 clear q1 hK KK;refine rd1 21 fun KK hK=>?_
 simp only[xa,xb,xc];go_simp;refine(eO.out _ _ aD aB.2.2.2.1).mono ?_;rintro e Z18_9_10_20_21 ⟨rfl,aH,q1⟩;clear aD;have aD:=aH;clear aH;refine hK.out _ _ (kp aB q1 (by omega)) fun aB=>?_
 clear q1 hK KK;refine tk 22 ?_;refine tk 23 ?_;refine dn ?_;have HE:=Q3 (aD.e9 (st:=st) HP.out.wi (by omega) aB.2.2.1 aB.2.2.2.1);clear aB aD;go_wp2
 all_goals go_ret
 all_goals exact⟨F3 (by simp),HE.out⟩
end
end Go.Proofs.YtjgnogflgoihfaaGreatDoor
