import Derived.Test.YtjgnogflgoihfaaGreatDoorP24
namespace Go.Proofs.YtjgnogflgoihfaaGreatDoor
open Go.RowKit
set_option linter.unusedVariables false
set_option maxRecDepth 100000
set_option maxHeartbeats 16000000
set_option linter.unusedSimpArgs false
section
variable {w:World} {rb:Nat} {s:Nat->Nat}
theorem q7m (hR:cq w rb 0=some (Pq (s 0))) (a i v:Int) {b0 b1 b2 b3 b4 aN:Int} {ok:Bool} (hB:∀ X,Out 0 0 w X->Kz 123 #[Pq (s 0),Iz a] X fun e w'=>e=.returned (.tuple #[Wz b0 b1 b2 b3 b4,.bool ok])/\Out 0 0 X w') (hs1:-9223372036854775808<=b2) (gU:b2<=9223372036854775807) (bE:J9 b1 b2 i=aN) (dN:ok=false):Kz 68 #[Pq rb,Iz a,Iz i,Iz v] w fun e w'=>e=.returned (.bool false)/\Out 0 0 w w':=by
 subst dN;have HB:=Q3 hB;have HR:=Q3 hR;have Hs:=Q3 (And.intro hs1 gU);have dQ:=Q3 bE;have c9:=hR;clear hB hs1 gU bE hR;go_enter Tryz.func68,Tryz.ntmps68
 go_wp2_with fail;refine(HB.out _ (Out.refl _ _ _)).mono ?_;rintro e X1 ⟨rfl,q1⟩;clear c9;have f2:=heap_alloc_new X1 (Ez b0 b1 b2 b3 b4 81);have o2:=q1.alloc (Ez b0 b1 b2 b3 b4 81);obtain⟨y0,y1,y2,y3,y4,y5⟩:=W7 f2;have gT:=Q3 f2;have aI:=Q3 o2;clear f2 o2 q1;go_wp2_with fail;refine(B6 b1 b2 i _ Hs.out.1 Hs.out.2).mono ?_;rintro e X3 ⟨rfl,q3⟩;rw[dQ.out];obtain⟨gb,bG⟩:∃ g,X1.heap.size=g:=⟨_,rfl⟩
 have bQ:=Q3 (aI.out.trans q3);have gQ:=Q3 (q3.heap gT.out z0);rw[bG] at gQ;(try rw[bG]);clear bG q3 y0 y1 y2 y3 y4 y5 gT aI;go_wp2;go_ret;exact⟨rfl,bQ.out⟩
theorem q7n (hR:cq w rb 0=some (Pq (s 0))) (a i v:Int) {b0 b1 b2 b3 b4 aN:Int} {ok:Bool} (hB:∀ X,Out 0 0 w X->Kz 123 #[Pq (s 0),Iz a] X fun e w'=>e=.returned (.tuple #[Wz b0 b1 b2 b3 b4,.bool ok])/\Out 0 0 X w') (hs1:-9223372036854775808<=b2) (gU:b2<=9223372036854775807) (bE:J9 b1 b2 i=aN) (dN:ok=true) (h0:aN=0):Kz 68 #[Pq rb,Iz a,Iz i,Iz v] w fun e w'=>e=.returned (.bool false)/\Out 0 0 w w':=by
 subst dN;subst h0;have HB:=Q3 hB;have HR:=Q3 hR;have Hs:=Q3 (And.intro hs1 gU);have dQ:=Q3 bE;have c9:=hR;clear hB hs1 gU bE hR;go_enter Tryz.func68,Tryz.ntmps68
 go_wp2_with fail;refine(HB.out _ (Out.refl _ _ _)).mono ?_;rintro e X1 ⟨rfl,q1⟩;clear c9;have f2:=heap_alloc_new X1 (Ez b0 b1 b2 b3 b4 81);have o2:=q1.alloc (Ez b0 b1 b2 b3 b4 81);obtain⟨y0,y1,y2,y3,y4,y5⟩:=W7 f2;have gT:=Q3 f2;have aI:=Q3 o2;clear f2 o2 q1;go_wp2_with fail;refine(B6 b1 b2 i _ Hs.out.1 Hs.out.2).mono ?_;rintro e X3 ⟨rfl,q3⟩;rw[dQ.out];obtain⟨gb,bG⟩:∃ g,X1.heap.size=g:=⟨_,rfl⟩
 have bQ:=Q3 (aI.out.trans q3);have gQ:=Q3 (q3.heap gT.out z0);rw[bG] at gQ;(try rw[bG]);clear bG q3 y0 y1 y2 y3 y4 y5 gT aI;go_wp2;go_ret;exact⟨rfl,bQ.out⟩
theorem j2a (hR:cq w rb 0=some (Pq (s 0))) (a i v:Int) {b0 b1 b2 b3 b4 aN:Int} {ok:Bool} (hB:∀ X,Out 0 0 w X->Kz 123 #[Pq (s 0),Iz a] X fun e w'=>e=.returned (.tuple #[Wz b0 b1 b2 b3 b4,.bool ok])/\Out 0 0 X w') (hs1:-9223372036854775808<=b2) (gU:b2<=9223372036854775807) (bE:J9 b1 b2 i=aN) (dN:ok=true) (h0:aN=1):Kz 68 #[Pq rb,Iz a,Iz i,Iz v] w fun e w'=>e=.returned (.bool true)/\Out 0 0 w w':=by
 subst dN;subst h0;have HB:=Q3 hB;have HR:=Q3 hR;have Hs:=Q3 (And.intro hs1 gU);have dQ:=Q3 bE;have c9:=hR;clear hB hs1 gU bE hR;go_enter Tryz.func68,Tryz.ntmps68
 go_wp2_with fail;refine(HB.out _ (Out.refl _ _ _)).mono ?_;rintro e X1 ⟨rfl,q1⟩;clear c9;have f2:=heap_alloc_new X1 (Ez b0 b1 b2 b3 b4 81);have o2:=q1.alloc (Ez b0 b1 b2 b3 b4 81);obtain⟨y0,y1,y2,y3,y4,y5⟩:=W7 f2;have gT:=Q3 f2;have aI:=Q3 o2;clear f2 o2 q1;go_wp2_with fail;refine(B6 b1 b2 i _ Hs.out.1 Hs.out.2).mono ?_;rintro e X3 ⟨rfl,q3⟩;rw[dQ.out];obtain⟨gb,bG⟩:∃ g,X1.heap.size=g:=⟨_,rfl⟩
 have bQ:=Q3 (aI.out.trans q3);have gQ:=Q3 (q3.heap gT.out z0);rw[bG] at gQ;(try rw[bG]);clear bG q3 y0 y1 y2 y3 y4 y5 gT aI;go_wp2;go_ret;exact⟨rfl,bQ.out⟩
theorem j1z (hR:cq w rb 0=some (Pq (s 0))) (a i v:Int) {b0 b1 b2 b3 b4 aN:Int} {ok:Bool} (hB:∀ X,Out 0 0 w X->Kz 123 #[Pq (s 0),Iz a] X fun e w'=>e=.returned (.tuple #[Wz b0 b1 b2 b3 b4,.bool ok])/\Out 0 0 X w') (hs1:-9223372036854775808<=b2) (gU:b2<=9223372036854775807) (bE:J9 b1 b2 i=aN) (dN:ok=true) (h0:2<=aN) (v1:-9223372036854775808<=v) (v2:v<=9223372036854775807) {kx nx:Int} (iJ:v % 8+1=kx) (eQ:v / 8=nx) (hv:J2 kx nx=false):Kz 68 #[Pq rb,Iz a,Iz i,Iz v] w fun e w'=>e=.returned (.bool false)/\Out 0 0 w w':=by
 subst dN;have lE:(aN == 0)=false:=by simp;omega
 have kD:(aN == 1)=false:=by simp;omega
 have jO:=Q3 (fun W=>F5 v W v1 v2);rw[iJ,eQ] at jO;have Hk:=Q3 (And.intro iJ eQ);clear v1 v2 iJ eQ;have HB:=Q3 hB;have HR:=Q3 hR;have Hs:=Q3 (And.intro hs1 gU);have dQ:=Q3 bE;have c9:=hR;clear hB hs1 gU bE hR;go_enter Tryz.func68,Tryz.ntmps68
 go_wp2_with fail;refine(HB.out _ (Out.refl _ _ _)).mono ?_;rintro e X1 ⟨rfl,q1⟩;clear c9;have f2:=heap_alloc_new X1 (Ez b0 b1 b2 b3 b4 81);have o2:=q1.alloc (Ez b0 b1 b2 b3 b4 81);obtain⟨y0,y1,y2,y3,y4,y5⟩:=W7 f2;have gT:=Q3 f2;have aI:=Q3 o2;clear f2 o2 q1;go_wp2_with fail;refine(B6 b1 b2 i _ Hs.out.1 Hs.out.2).mono ?_;rintro e X3 ⟨rfl,q3⟩;rw[dQ.out];obtain⟨gb,bG⟩:∃ g,X1.heap.size=g:=⟨_,rfl⟩
 have bQ:=Q3 (aI.out.trans q3);have gQ:=Q3 (q3.heap gT.out z0);rw[bG] at gQ;(try rw[bG]);clear bG q3 y0 y1 y2 y3 y4 y5 gT aI;go_wp2_with fail;refine(jO.out _).mono ?_;rintro e X5 ⟨rfl,q5⟩;rw[hv];have bJ:=Q3 (bQ.out.trans (W8 q5));clear q5;go_wp2;go_ret;exact⟨rfl,bJ.out.alloc _⟩
theorem z4g (hR:cq w rb 0=some (Pq (s 0))) (a i v:Int) {b0 b1 b2 b3 b4 aN:Int} {ok:Bool} (hB:∀ X,Out 0 0 w X->Kz 123 #[Pq (s 0),Iz a] X fun e w'=>e=.returned (.tuple #[Wz b0 b1 b2 b3 b4,.bool ok])/\Out 0 0 X w') (hs1:-9223372036854775808<=b2) (gU:b2<=9223372036854775807) (bE:J9 b1 b2 i=aN) (dN:ok=true) (h0:2<=aN) (v1:-9223372036854775808<=v) (v2:v<=9223372036854775807) {kx nx:Int} (iJ:v % 8+1=kx) (eQ:v / 8=nx) (hv:J2 kx nx=true) (h5:aN<=5) {pl:Bool} (hPl:∀ X,Out 0 0 w X->Kz 125 #[Pq rb,Vz kx nx] X fun e w'=>e=.returned (.bool pl)/\Out 0 0 X w'):Kz 68 #[Pq rb,Iz a,Iz i,Iz v] w fun e w'=>e=.returned (.bool pl)/\Out 0 0 w w':=by
 subst dN;have Hv:=Q3 hv;have HPl:=Q3 hPl;clear hPl hv;have lE:(aN == 0)=false:=by simp;omega
 have kD:(aN == 1)=false:=by simp;omega
 have jO:=Q3 (fun W=>F5 v W v1 v2);rw[iJ,eQ] at jO;have Hk:=Q3 (And.intro iJ eQ);clear v1 v2 iJ eQ;have HB:=Q3 hB;have HR:=Q3 hR;have Hs:=Q3 (And.intro hs1 gU);have dQ:=Q3 bE;have c9:=hR;clear hB hs1 gU bE hR;go_enter Tryz.func68,Tryz.ntmps68
 go_wp2_with fail;refine(HB.out _ (Out.refl _ _ _)).mono ?_;rintro e X1 ⟨rfl,q1⟩;clear c9;have f2:=heap_alloc_new X1 (Ez b0 b1 b2 b3 b4 81);have o2:=q1.alloc (Ez b0 b1 b2 b3 b4 81);obtain⟨y0,y1,y2,y3,y4,y5⟩:=W7 f2;have gT:=Q3 f2;have aI:=Q3 o2;clear f2 o2 q1;go_wp2_with fail;refine(B6 b1 b2 i _ Hs.out.1 Hs.out.2).mono ?_;rintro e X3 ⟨rfl,q3⟩;rw[dQ.out];obtain⟨gb,bG⟩:∃ g,X1.heap.size=g:=⟨_,rfl⟩
 have bQ:=Q3 (aI.out.trans q3);have gQ:=Q3 (q3.heap gT.out z0);rw[bG] at gQ;(try rw[bG]);clear bG q3 y0 y1 y2 y3 y4 y5 gT aI;go_wp2_with fail;refine(jO.out _).mono ?_;rintro e X5 ⟨rfl,q5⟩;rw[Hv.out,show z0z kx nx=kx from by unfold z0z;rw[if_pos Hv.out],show z1a kx nx=nx from by unfold z1a;rw[if_pos Hv.out]];have o5:=W8 q5;have f6:=heap_alloc_new X5 (Dz kx nx 32);have o6:=o5.alloc (Dz kx nx 32);have dU:=Q3 (bQ.out.trans o6);have jP:=Q3 (o6.heap gQ.out z0);have gZ:=Q3 f6;obtain⟨x0,x1,x2,x3⟩:=Q5 f6;clear q5 o5 f6 o6 bQ gQ;go_wp2_with fail;refine(HPl.out _ dU.out).mono ?_;rintro e X7 ⟨rfl,q7⟩;have HO7:=Q3 (dU.out.trans q7);clear q7;go_wp2;go_ret;exact⟨rfl,HO7.out⟩
theorem q2n (hR:cq w rb 0=some (Pq (s 0))) (a i v:Int) {b0 b1 b2 b3 b4 aN:Int} {ok:Bool} (hB:∀ X,Out 0 0 w X->Kz 123 #[Pq (s 0),Iz a] X fun e w'=>e=.returned (.tuple #[Wz b0 b1 b2 b3 b4,.bool ok])/\Out 0 0 X w') (hs1:-9223372036854775808<=b2) (gU:b2<=9223372036854775807) (bE:J9 b1 b2 i=aN) (dN:ok=true) (h0:6<=aN) (v1:-9223372036854775808<=v) (v2:v<=9223372036854775807) {kx nx:Int} (iJ:v % 8+1=kx) (eQ:v / 8=nx) (hv:J2 kx nx=true) {d0 d1 d2 d3 d4:Int} {ok2:Bool} (kG:∀ X,Out 0 0 w X->Kz 123 #[Pq (s 0),Iz nx] X fun e w'=>e=.returned (.tuple #[Wz d0 d1 d2 d3 d4,.bool ok2])/\Out 0 0 X w') (hk:kx ≠ 2):Kz 68 #[Pq rb,Iz a,Iz i,Iz v] w fun e w'=>e=.returned (.bool (v == 2))/\Out 0 0 w w':=by
 have k2:(kx != 2)=true:=by simpa using hk
 clear hk;subst dN;have Hv:=Q3 hv;have lB:=Q3 kG;clear hv kG;have lE:(aN == 0)=false:=by simp;omega
 have kD:(aN == 1)=false:=by simp;omega
 have jO:=Q3 (fun W=>F5 v W v1 v2);rw[iJ,eQ] at jO;have Hk:=Q3 (And.intro iJ eQ);clear v1 v2 iJ eQ;have hr5:(5:Int)<aN:=by omega
 have HB:=Q3 hB;have HR:=Q3 hR;have Hs:=Q3 (And.intro hs1 gU);have dQ:=Q3 bE;have c9:=hR;clear hB hs1 gU bE hR;go_enter Tryz.func68,Tryz.ntmps68
 go_wp2_with fail;refine(HB.out _ (Out.refl _ _ _)).mono ?_;rintro e X1 ⟨rfl,q1⟩;clear c9;have f2:=heap_alloc_new X1 (Ez b0 b1 b2 b3 b4 81);have o2:=q1.alloc (Ez b0 b1 b2 b3 b4 81);obtain⟨y0,y1,y2,y3,y4,y5⟩:=W7 f2;have gT:=Q3 f2;have aI:=Q3 o2;clear f2 o2 q1;go_wp2_with fail;refine(B6 b1 b2 i _ Hs.out.1 Hs.out.2).mono ?_;rintro e X3 ⟨rfl,q3⟩;rw[dQ.out];obtain⟨gb,bG⟩:∃ g,X1.heap.size=g:=⟨_,rfl⟩
 have bQ:=Q3 (aI.out.trans q3);have gQ:=Q3 (q3.heap gT.out z0);rw[bG] at gQ;(try rw[bG]);clear bG q3 y0 y1 y2 y3 y4 y5 gT aI;go_wp2_with fail;refine(jO.out _).mono ?_;rintro e X5 ⟨rfl,q5⟩;rw[Hv.out,show z0z kx nx=kx from by unfold z0z;rw[if_pos Hv.out],show z1a kx nx=nx from by unfold z1a;rw[if_pos Hv.out]];have o5:=W8 q5;have f6:=heap_alloc_new X5 (Dz kx nx 32);have o6:=o5.alloc (Dz kx nx 32);have dU:=Q3 (bQ.out.trans o6);have jP:=Q3 (o6.heap gQ.out z0);have gZ:=Q3 f6;obtain⟨x0,x1,x2,x3⟩:=Q5 f6;clear q5 o5 f6 o6 bQ gQ;have c9:=dU.out.cell HR.out z0;go_wp2_with fail;obtain⟨V6,kR⟩:∃ V,X5.alloc (Dz kx nx 32)=V:=⟨_,rfl⟩
 obtain⟨gx,kU⟩:∃ g,X5.heap.size=g:=⟨_,rfl⟩
 rw[kR] at dU jP gZ x0 x1 c9 ⊢;rw[kU] at gZ x0 x1;(try rw[kU]);clear kR kU x2 x3;have aL:gx<V6.heap.size/\rb<V6.heap.size:=⟨Q8 gZ.out,Y7 c9⟩
 have HB:Hid (∀ X,Out 0 0 V6 X->_):=fun X o=>lB.out X (dU.out.trans o)
 refine wp_region_held_drew (S:=fun w'=>cq w' rb 0=some (Pq (s 0))/\cq w' gx 1=some (Iz nx)) (by kernel_rfl) ?hS61 (fun aB=>?rest61)
 case hS61=>exact⟨c9,x1⟩
 obtain⟨Z8,hZ⟩:∃ Z,V6.drew=Z:=⟨_,rfl⟩
 have O:Out 0 0 V6 Z8:=by rw[<-hZ];exact(Out.refl 0 0 _).drew
 rw[hZ] at aB ⊢;clear hZ;refine tk 0 ?_;refine tk 1 ?_;refine tk 2 ?_;refine tk 3 ?_;refine tk 4 ?_;refine tk 5 ?_;refine rd2 6 10 (fun KK hK=>?_) fun KK hK=>?_
 ·simp only[xa,xb,xc];go_simp;refine(HB.out _ O).mono ?_;rintro e Z8C ⟨rfl,q1⟩;replace O:=O.trans q1;refine hK.out _ _ ⟨q1.cell aB.1 z0,q1.cell aB.2 z0⟩ fun aB=>?_
  clear q1 hK KK;refine tk 7 ?_;refine tk 8 ?_;refine tk 9 ?_;refine rd1 10 fun KK hK=>?_
  simp only[xa,xb,xc];go_simp;obtain⟨gA,aG⟩:∃ g,Z8C.heap.size=g:=⟨_,rfl⟩
  obtain⟨eZ,hY⟩:∃ V,Z8C.alloc (Ez 0 0 0 0 0 81)=V:=⟨_,rfl⟩
  have qA:Out 0 0 Z8C eZ:=by rw[<-hY];exact(Out.refl 0 0 _).alloc _
  have fA:eZ.heap[gA]? = some (Ez 0 0 0 0 0 81):=by rw[<-hY,<-aG];exact heap_alloc_new _ _
  have bF:V6.heap.size<=gA:=by have:=O.size;omega
  (try rw[hY]);(try rw[aG]);clear hY aG;replace O:=O.trans qA;refine hK.out _ _ ⟨qA.cell aB.1 z0,qA.cell aB.2 z0⟩ fun aB=>?_
  clear qA hK KK;refine rd1 11 fun KK hK=>?_
  simp only[xa,xb,xc];obtain⟨y0,y1,y2,y3,y4,y5⟩:=W7 fA;go_simp;clear y0 y1 y2 y3 y4 y5;obtain⟨dZ,hY⟩:∃ V,(((((eZ.setCell ⟨gA,0,none⟩ (Iz d0)).setCell ⟨gA,1,none⟩ (Iz d1)).setCell ⟨gA,2,none⟩ (Iz d2)).setCell ⟨gA,3,none⟩ (Iz d3)).setCell ⟨gA,4,none⟩ (Iz d4))=V:=⟨_,rfl⟩
  have qS:Out gA (gA+1) eZ dZ:=by rw[<-hY];exact(Out.refl _ _ _).zo5 z1 _ _ _ _ _
  replace O:Out 0 0 V6 dZ:=by rw[<-hY];exact O.zo5 (.inr bF) _ _ _ _ _
  have fB:dZ.heap[gA]? = some (Ez d0 d1 d2 d3 d4 81):=by rw[<-hY];simp[World.setCell,Array.getElem?_modify,fA]
  (try rw[hY]);clear hY fA;refine hK.out _ _ ⟨qS.cell aB.1 (.inl (by have:=aL;omega)),qS.cell aB.2 (.inl (by have:=aL;omega))⟩ fun aB=>?_
  clear qS hK KK;refine tk 12 ?_;refine dn ?_;obtain⟨x0',qK,_,_⟩:=Q5 (O.heap gZ.out z0);obtain⟨y0,y1,y2,y3,y4,_⟩:=W7 fB;obtain⟨w0,w1,w2,w3,w4,_⟩:=W7 (O.heap jP.out z0);have HE:=Q3 (dU.out.trans O);clear O fB aB bF;go_wp2;go_ret;exact⟨rfl,HE.out⟩
 ·simp only[xa,xb,xc];go_simp;obtain⟨gA,aG⟩:∃ g,Z8.heap.size=g:=⟨_,rfl⟩
  obtain⟨Z8A,hY⟩:∃ V,Z8.alloc (Ez 0 0 0 0 0 81)=V:=⟨_,rfl⟩
  have qA:Out 0 0 Z8 Z8A:=by rw[<-hY];exact(Out.refl 0 0 _).alloc _
  have fA:Z8A.heap[gA]? = some (Ez 0 0 0 0 0 81):=by rw[<-hY,<-aG];exact heap_alloc_new _ _
  have bF:V6.heap.size<=gA:=by have:=O.size;omega
  (try rw[hY]);(try rw[aG]);clear hY aG;replace O:=O.trans qA;refine hK.out _ _ ⟨qA.cell aB.1 z0,qA.cell aB.2 z0⟩ fun aB=>?_
  clear qA hK KK;refine rd1 6 fun KK hK=>?_
  simp only[xa,xb,xc];go_simp;refine(HB.out _ O).mono ?_;rintro e Z8AC ⟨rfl,q1⟩;replace O:=O.trans q1;replace fA:=q1.heap fA z0;refine hK.out _ _ ⟨q1.cell aB.1 z0,q1.cell aB.2 z0⟩ fun aB=>?_
  clear q1 hK KK;refine tk 7 ?_;refine tk 8 ?_;refine tk 9 ?_;refine rd1 11 fun KK hK=>?_
  simp only[xa,xb,xc];obtain⟨y0,y1,y2,y3,y4,y5⟩:=W7 fA;go_simp;clear y0 y1 y2 y3 y4 y5;obtain⟨eA,hY⟩:∃ V,(((((Z8AC.setCell ⟨gA,0,none⟩ (Iz d0)).setCell ⟨gA,1,none⟩ (Iz d1)).setCell ⟨gA,2,none⟩ (Iz d2)).setCell ⟨gA,3,none⟩ (Iz d3)).setCell ⟨gA,4,none⟩ (Iz d4))=V:=⟨_,rfl⟩
  have qS:Out gA (gA+1) Z8AC eA:=by rw[<-hY];exact(Out.refl _ _ _).zo5 z1 _ _ _ _ _
  replace O:Out 0 0 V6 eA:=by rw[<-hY];exact O.zo5 (.inr bF) _ _ _ _ _
  have fB:eA.heap[gA]? = some (Ez d0 d1 d2 d3 d4 81):=by rw[<-hY];simp[World.setCell,Array.getElem?_modify,fA]
  (try rw[hY]);clear hY fA;refine hK.out _ _ ⟨qS.cell aB.1 (.inl (by have:=aL;omega)),qS.cell aB.2 (.inl (by have:=aL;omega))⟩ fun aB=>?_
  clear qS hK KK;refine tk 12 ?_;refine dn ?_;obtain⟨x0',qK,_,_⟩:=Q5 (O.heap gZ.out z0);obtain⟨y0,y1,y2,y3,y4,_⟩:=W7 fB;obtain⟨w0,w1,w2,w3,w4,_⟩:=W7 (O.heap jP.out z0);have HE:=Q3 (dU.out.trans O);clear O fB aB bF;go_wp2;go_ret;exact⟨rfl,HE.out⟩
theorem q7l (hR:cq w rb 0=some (Pq (s 0))) (a i v:Int) {b0 b1 b2 b3 b4 aN:Int} {ok:Bool} (hB:∀ X,Out 0 0 w X->Kz 123 #[Pq (s 0),Iz a] X fun e w'=>e=.returned (.tuple #[Wz b0 b1 b2 b3 b4,.bool ok])/\Out 0 0 X w') (hs1:-9223372036854775808<=b2) (gU:b2<=9223372036854775807) (bE:J9 b1 b2 i=aN) (dN:ok=true) (h0:6<=aN) (v1:-9223372036854775808<=v) (v2:v<=9223372036854775807) {kx nx:Int} (iJ:v % 8+1=kx) (eQ:v / 8=nx) (hv:J2 kx nx=true) {d0 d1 d2 d3 d4:Int} {ok2:Bool} (kG:∀ X,Out 0 0 w X->Kz 123 #[Pq (s 0),Iz nx] X fun e w'=>e=.returned (.tuple #[Wz d0 d1 d2 d3 d4,.bool ok2])/\Out 0 0 X w') (hk:kx=2) (hok2:ok2=false):Kz 68 #[Pq rb,Iz a,Iz i,Iz v] w fun e w'=>e=.returned (.bool (v == 2))/\Out 0 0 w w':=by
 subst hk;subst hok2;subst dN;have Hv:=Q3 hv;have lB:=Q3 kG;clear hv kG;have lE:(aN == 0)=false:=by simp;omega
 have kD:(aN == 1)=false:=by simp;omega
 have jO:=Q3 (fun W=>F5 v W v1 v2);rw[iJ,eQ] at jO;have Hk:=Q3 (And.intro iJ eQ);clear v1 v2 iJ eQ;have hr5:(5:Int)<aN:=by omega
 have HB:=Q3 hB;have HR:=Q3 hR;have Hs:=Q3 (And.intro hs1 gU);have dQ:=Q3 bE;have c9:=hR;clear hB hs1 gU bE hR;go_enter Tryz.func68,Tryz.ntmps68
 go_wp2_with fail;refine(HB.out _ (Out.refl _ _ _)).mono ?_;rintro e X1 ⟨rfl,q1⟩;clear c9;have f2:=heap_alloc_new X1 (Ez b0 b1 b2 b3 b4 81);have o2:=q1.alloc (Ez b0 b1 b2 b3 b4 81);obtain⟨y0,y1,y2,y3,y4,y5⟩:=W7 f2;have gT:=Q3 f2;have aI:=Q3 o2;clear f2 o2 q1;go_wp2_with fail;refine(B6 b1 b2 i _ Hs.out.1 Hs.out.2).mono ?_;rintro e X3 ⟨rfl,q3⟩;rw[dQ.out];obtain⟨gb,bG⟩:∃ g,X1.heap.size=g:=⟨_,rfl⟩
 have bQ:=Q3 (aI.out.trans q3);have gQ:=Q3 (q3.heap gT.out z0);rw[bG] at gQ;(try rw[bG]);clear bG q3 y0 y1 y2 y3 y4 y5 gT aI;go_wp2_with fail;refine(jO.out _).mono ?_;rintro e X5 ⟨rfl,q5⟩;rw[Hv.out,show z0z 2 nx=2 from by unfold z0z;rw[if_pos Hv.out],show z1a 2 nx=nx from by unfold z1a;rw[if_pos Hv.out]];have o5:=W8 q5;have f6:=heap_alloc_new X5 (Dz 2 nx 32);have o6:=o5.alloc (Dz 2 nx 32);have dU:=Q3 (bQ.out.trans o6);have jP:=Q3 (o6.heap gQ.out z0);have gZ:=Q3 f6;obtain⟨x0,x1,x2,x3⟩:=Q5 f6;clear q5 o5 f6 o6 bQ gQ;have c9:=dU.out.cell HR.out z0;go_wp2_with fail;obtain⟨V6,kR⟩:∃ V,X5.alloc (Dz 2 nx 32)=V:=⟨_,rfl⟩
 obtain⟨gx,kU⟩:∃ g,X5.heap.size=g:=⟨_,rfl⟩
 rw[kR] at dU jP gZ x0 x1 c9 ⊢;rw[kU] at gZ x0 x1;(try rw[kU]);clear kR kU x2 x3;have aL:gx<V6.heap.size/\rb<V6.heap.size:=⟨Q8 gZ.out,Y7 c9⟩
 have HB:Hid (∀ X,Out 0 0 V6 X->_):=fun X o=>lB.out X (dU.out.trans o)
 refine wp_region_held_drew (S:=fun w'=>cq w' rb 0=some (Pq (s 0))/\cq w' gx 1=some (Iz nx)) (by kernel_rfl) ?hS82 (fun aB=>?rest82)
 case hS82=>exact⟨c9,x1⟩
 obtain⟨Z8,hZ⟩:∃ Z,V6.drew=Z:=⟨_,rfl⟩
 have O:Out 0 0 V6 Z8:=by rw[<-hZ];exact(Out.refl 0 0 _).drew
 rw[hZ] at aB ⊢;clear hZ;refine tk 0 ?_;refine tk 1 ?_;refine tk 2 ?_;refine tk 3 ?_;refine tk 4 ?_;refine tk 5 ?_;refine rd2 6 10 (fun KK hK=>?_) fun KK hK=>?_
 ·simp only[xa,xb,xc];go_simp;refine(HB.out _ O).mono ?_;rintro e Z8C ⟨rfl,q1⟩;replace O:=O.trans q1;refine hK.out _ _ ⟨q1.cell aB.1 z0,q1.cell aB.2 z0⟩ fun aB=>?_
  clear q1 hK KK;refine tk 7 ?_;refine tk 8 ?_;refine tk 9 ?_;refine rd1 10 fun KK hK=>?_
  simp only[xa,xb,xc];go_simp;obtain⟨gA,aG⟩:∃ g,Z8C.heap.size=g:=⟨_,rfl⟩
  obtain⟨eZ,hY⟩:∃ V,Z8C.alloc (Ez 0 0 0 0 0 81)=V:=⟨_,rfl⟩
  have qA:Out 0 0 Z8C eZ:=by rw[<-hY];exact(Out.refl 0 0 _).alloc _
  have fA:eZ.heap[gA]? = some (Ez 0 0 0 0 0 81):=by rw[<-hY,<-aG];exact heap_alloc_new _ _
  have bF:V6.heap.size<=gA:=by have:=O.size;omega
  (try rw[hY]);(try rw[aG]);clear hY aG;replace O:=O.trans qA;refine hK.out _ _ ⟨qA.cell aB.1 z0,qA.cell aB.2 z0⟩ fun aB=>?_
  clear qA hK KK;refine rd1 11 fun KK hK=>?_
  simp only[xa,xb,xc];obtain⟨y0,y1,y2,y3,y4,y5⟩:=W7 fA;go_simp;clear y0 y1 y2 y3 y4 y5;obtain⟨dZ,hY⟩:∃ V,(((((eZ.setCell ⟨gA,0,none⟩ (Iz d0)).setCell ⟨gA,1,none⟩ (Iz d1)).setCell ⟨gA,2,none⟩ (Iz d2)).setCell ⟨gA,3,none⟩ (Iz d3)).setCell ⟨gA,4,none⟩ (Iz d4))=V:=⟨_,rfl⟩
  have qS:Out gA (gA+1) eZ dZ:=by rw[<-hY];exact(Out.refl _ _ _).zo5 z1 _ _ _ _ _
  replace O:Out 0 0 V6 dZ:=by rw[<-hY];exact O.zo5 (.inr bF) _ _ _ _ _
  have fB:dZ.heap[gA]? = some (Ez d0 d1 d2 d3 d4 81):=by rw[<-hY];simp[World.setCell,Array.getElem?_modify,fA]
  (try rw[hY]);clear hY fA;refine hK.out _ _ ⟨qS.cell aB.1 (.inl (by have:=aL;omega)),qS.cell aB.2 (.inl (by have:=aL;omega))⟩ fun aB=>?_
  clear qS hK KK;refine tk 12 ?_;refine dn ?_;obtain⟨x0',qK,_,_⟩:=Q5 (O.heap gZ.out z0);obtain⟨y0,y1,y2,y3,y4,_⟩:=W7 fB;obtain⟨w0,w1,w2,w3,w4,_⟩:=W7 (O.heap jP.out z0);have HE:=Q3 (dU.out.trans O);clear O fB aB bF;go_wp2;go_ret;exact⟨rfl,HE.out⟩
 ·simp only[xa,xb,xc];go_simp;obtain⟨gA,aG⟩:∃ g,Z8.heap.size=g:=⟨_,rfl⟩
  obtain⟨Z8A,hY⟩:∃ V,Z8.alloc (Ez 0 0 0 0 0 81)=V:=⟨_,rfl⟩
  have qA:Out 0 0 Z8 Z8A:=by rw[<-hY];exact(Out.refl 0 0 _).alloc _
  have fA:Z8A.heap[gA]? = some (Ez 0 0 0 0 0 81):=by rw[<-hY,<-aG];exact heap_alloc_new _ _
  have bF:V6.heap.size<=gA:=by have:=O.size;omega
  (try rw[hY]);(try rw[aG]);clear hY aG;replace O:=O.trans qA;refine hK.out _ _ ⟨qA.cell aB.1 z0,qA.cell aB.2 z0⟩ fun aB=>?_
  clear qA hK KK;refine rd1 6 fun KK hK=>?_
  simp only[xa,xb,xc];go_simp;refine(HB.out _ O).mono ?_;rintro e Z8AC ⟨rfl,q1⟩;replace O:=O.trans q1;replace fA:=q1.heap fA z0;refine hK.out _ _ ⟨q1.cell aB.1 z0,q1.cell aB.2 z0⟩ fun aB=>?_
  clear q1 hK KK;refine tk 7 ?_;refine tk 8 ?_;refine tk 9 ?_;refine rd1 11 fun KK hK=>?_
  simp only[xa,xb,xc];obtain⟨y0,y1,y2,y3,y4,y5⟩:=W7 fA;go_simp;clear y0 y1 y2 y3 y4 y5;obtain⟨eA,hY⟩:∃ V,(((((Z8AC.setCell ⟨gA,0,none⟩ (Iz d0)).setCell ⟨gA,1,none⟩ (Iz d1)).setCell ⟨gA,2,none⟩ (Iz d2)).setCell ⟨gA,3,none⟩ (Iz d3)).setCell ⟨gA,4,none⟩ (Iz d4))=V:=⟨_,rfl⟩
  have qS:Out gA (gA+1) Z8AC eA:=by rw[<-hY];exact(Out.refl _ _ _).zo5 z1 _ _ _ _ _
  replace O:Out 0 0 V6 eA:=by rw[<-hY];exact O.zo5 (.inr bF) _ _ _ _ _
  have fB:eA.heap[gA]? = some (Ez d0 d1 d2 d3 d4 81):=by rw[<-hY];simp[World.setCell,Array.getElem?_modify,fA]
  (try rw[hY]);clear hY fA;refine hK.out _ _ ⟨qS.cell aB.1 (.inl (by have:=aL;omega)),qS.cell aB.2 (.inl (by have:=aL;omega))⟩ fun aB=>?_
  clear qS hK KK;refine tk 12 ?_;refine dn ?_;obtain⟨x0',qK,_,_⟩:=Q5 (O.heap gZ.out z0);obtain⟨y0,y1,y2,y3,y4,_⟩:=W7 fB;obtain⟨w0,w1,w2,w3,w4,_⟩:=W7 (O.heap jP.out z0);have HE:=Q3 (dU.out.trans O);clear O fB aB bF;go_wp2;go_ret;exact⟨rfl,HE.out⟩
theorem j4q (hR:cq w rb 0=some (Pq (s 0))) (a i v:Int) {b0 b1 b2 b3 b4 aN:Int} {ok:Bool} (hB:∀ X,Out 0 0 w X->Kz 123 #[Pq (s 0),Iz a] X fun e w'=>e=.returned (.tuple #[Wz b0 b1 b2 b3 b4,.bool ok])/\Out 0 0 X w') (hs1:-9223372036854775808<=b2) (gU:b2<=9223372036854775807) (bE:J9 b1 b2 i=aN) (dN:ok=true) (h0:aN=6) (v1:-9223372036854775808<=v) (v2:v<=9223372036854775807) {kx nx:Int} (iJ:v % 8+1=kx) (eQ:v / 8=nx) (hv:J2 kx nx=true) {d0 d1 d2 d3 d4:Int} {ok2:Bool} (kG:∀ X,Out 0 0 w X->Kz 123 #[Pq (s 0),Iz nx] X fun e w'=>e=.returned (.tuple #[Wz d0 d1 d2 d3 d4,.bool ok2])/\Out 0 0 X w') (hk:kx=2) (hok2:ok2=true):Kz 68 #[Pq rb,Iz a,Iz i,Iz v] w fun e w'=>e=.returned (.bool (d1 == 11))/\Out 0 0 w w':=by
 subst h0;subst hk;subst hok2;subst dN;have Hv:=Q3 hv;have lB:=Q3 kG;clear hv kG;have lE:((6:Int) == 0)=false:=by decide
 have kD:((6:Int) == 1)=false:=by decide
 have jO:=Q3 (fun W=>F5 v W v1 v2);rw[iJ,eQ] at jO;have Hk:=Q3 (And.intro iJ eQ);clear v1 v2 iJ eQ;have hr5:(5:Int)<6:=by omega
 have HB:=Q3 hB;have HR:=Q3 hR;have Hs:=Q3 (And.intro hs1 gU);have dQ:=Q3 bE;have c9:=hR;clear hB hs1 gU bE hR;go_enter Tryz.func68,Tryz.ntmps68
 go_wp2_with fail;refine(HB.out _ (Out.refl _ _ _)).mono ?_;rintro e X1 ⟨rfl,q1⟩;clear c9;have f2:=heap_alloc_new X1 (Ez b0 b1 b2 b3 b4 81);have o2:=q1.alloc (Ez b0 b1 b2 b3 b4 81);obtain⟨y0,y1,y2,y3,y4,y5⟩:=W7 f2;have gT:=Q3 f2;have aI:=Q3 o2;clear f2 o2 q1;go_wp2_with fail;refine(B6 b1 b2 i _ Hs.out.1 Hs.out.2).mono ?_;rintro e X3 ⟨rfl,q3⟩;rw[dQ.out];obtain⟨gb,bG⟩:∃ g,X1.heap.size=g:=⟨_,rfl⟩
 have bQ:=Q3 (aI.out.trans q3);have gQ:=Q3 (q3.heap gT.out z0);rw[bG] at gQ;(try rw[bG]);clear bG q3 y0 y1 y2 y3 y4 y5 gT aI;go_wp2_with fail;refine(jO.out _).mono ?_;rintro e X5 ⟨rfl,q5⟩;rw[Hv.out,show z0z 2 nx=2 from by unfold z0z;rw[if_pos Hv.out],show z1a 2 nx=nx from by unfold z1a;rw[if_pos Hv.out]];have o5:=W8 q5;have f6:=heap_alloc_new X5 (Dz 2 nx 32);have o6:=o5.alloc (Dz 2 nx 32);have dU:=Q3 (bQ.out.trans o6);have jP:=Q3 (o6.heap gQ.out z0);have gZ:=Q3 f6;obtain⟨x0,x1,x2,x3⟩:=Q5 f6;clear q5 o5 f6 o6 bQ gQ;have c9:=dU.out.cell HR.out z0;go_wp2_with fail;obtain⟨V6,kR⟩:∃ V,X5.alloc (Dz 2 nx 32)=V:=⟨_,rfl⟩
 obtain⟨gx,kU⟩:∃ g,X5.heap.size=g:=⟨_,rfl⟩
 rw[kR] at dU jP gZ x0 x1 c9 ⊢;rw[kU] at gZ x0 x1;(try rw[kU]);clear kR kU x2 x3;have aL:gx<V6.heap.size/\rb<V6.heap.size:=⟨Q8 gZ.out,Y7 c9⟩
 have HB:Hid (∀ X,Out 0 0 V6 X->_):=fun X o=>lB.out X (dU.out.trans o)
 refine wp_region_held_drew (S:=fun w'=>cq w' rb 0=some (Pq (s 0))/\cq w' gx 1=some (Iz nx)) (by kernel_rfl) ?hS103 (fun aB=>?rest103)
 case hS103=>exact⟨c9,x1⟩
 obtain⟨Z8,hZ⟩:∃ Z,V6.drew=Z:=⟨_,rfl⟩
 have O:Out 0 0 V6 Z8:=by rw[<-hZ];exact(Out.refl 0 0 _).drew
 rw[hZ] at aB ⊢;clear hZ;refine tk 0 ?_;refine tk 1 ?_;refine tk 2 ?_;refine tk 3 ?_;refine tk 4 ?_;refine tk 5 ?_;refine rd2 6 10 (fun KK hK=>?_) fun KK hK=>?_
 ·simp only[xa,xb,xc];go_simp;refine(HB.out _ O).mono ?_;rintro e Z8C ⟨rfl,q1⟩;replace O:=O.trans q1;refine hK.out _ _ ⟨q1.cell aB.1 z0,q1.cell aB.2 z0⟩ fun aB=>?_
  clear q1 hK KK;refine tk 7 ?_;refine tk 8 ?_;refine tk 9 ?_;refine rd1 10 fun KK hK=>?_
  simp only[xa,xb,xc];go_simp;obtain⟨gA,aG⟩:∃ g,Z8C.heap.size=g:=⟨_,rfl⟩
  obtain⟨eZ,hY⟩:∃ V,Z8C.alloc (Ez 0 0 0 0 0 81)=V:=⟨_,rfl⟩
  have qA:Out 0 0 Z8C eZ:=by rw[<-hY];exact(Out.refl 0 0 _).alloc _
  have fA:eZ.heap[gA]? = some (Ez 0 0 0 0 0 81):=by rw[<-hY,<-aG];exact heap_alloc_new _ _
  have bF:V6.heap.size<=gA:=by have:=O.size;omega
  (try rw[hY]);(try rw[aG]);clear hY aG;replace O:=O.trans qA;refine hK.out _ _ ⟨qA.cell aB.1 z0,qA.cell aB.2 z0⟩ fun aB=>?_
  clear qA hK KK;refine rd1 11 fun KK hK=>?_
  simp only[xa,xb,xc];obtain⟨y0,y1,y2,y3,y4,y5⟩:=W7 fA;go_simp;clear y0 y1 y2 y3 y4 y5;obtain⟨dZ,hY⟩:∃ V,(((((eZ.setCell ⟨gA,0,none⟩ (Iz d0)).setCell ⟨gA,1,none⟩ (Iz d1)).setCell ⟨gA,2,none⟩ (Iz d2)).setCell ⟨gA,3,none⟩ (Iz d3)).setCell ⟨gA,4,none⟩ (Iz d4))=V:=⟨_,rfl⟩
  have qS:Out gA (gA+1) eZ dZ:=by rw[<-hY];exact(Out.refl _ _ _).zo5 z1 _ _ _ _ _
  replace O:Out 0 0 V6 dZ:=by rw[<-hY];exact O.zo5 (.inr bF) _ _ _ _ _
  have fB:dZ.heap[gA]? = some (Ez d0 d1 d2 d3 d4 81):=by rw[<-hY];simp[World.setCell,Array.getElem?_modify,fA]
  (try rw[hY]);clear hY fA;refine hK.out _ _ ⟨qS.cell aB.1 (.inl (by have:=aL;omega)),qS.cell aB.2 (.inl (by have:=aL;omega))⟩ fun aB=>?_
  clear qS hK KK;refine tk 12 ?_;refine dn ?_;obtain⟨x0',qK,_,_⟩:=Q5 (O.heap gZ.out z0);obtain⟨y0,y1,y2,y3,y4,_⟩:=W7 fB;obtain⟨w0,w1,w2,w3,w4,_⟩:=W7 (O.heap jP.out z0);have HE:=Q3 (dU.out.trans O);clear O fB aB bF;go_wp2;go_ret;exact⟨rfl,HE.out⟩
 ·simp only[xa,xb,xc];go_simp;obtain⟨gA,aG⟩:∃ g,Z8.heap.size=g:=⟨_,rfl⟩
  obtain⟨Z8A,hY⟩:∃ V,Z8.alloc (Ez 0 0 0 0 0 81)=V:=⟨_,rfl⟩
  have qA:Out 0 0 Z8 Z8A:=by rw[<-hY];exact(Out.refl 0 0 _).alloc _
  have fA:Z8A.heap[gA]? = some (Ez 0 0 0 0 0 81):=by rw[<-hY,<-aG];exact heap_alloc_new _ _
  have bF:V6.heap.size<=gA:=by have:=O.size;omega
  (try rw[hY]);(try rw[aG]);clear hY aG;replace O:=O.trans qA;refine hK.out _ _ ⟨qA.cell aB.1 z0,qA.cell aB.2 z0⟩ fun aB=>?_
  clear qA hK KK;refine rd1 6 fun KK hK=>?_
  simp only[xa,xb,xc];go_simp;refine(HB.out _ O).mono ?_;rintro e Z8AC ⟨rfl,q1⟩;replace O:=O.trans q1;replace fA:=q1.heap fA z0;refine hK.out _ _ ⟨q1.cell aB.1 z0,q1.cell aB.2 z0⟩ fun aB=>?_
  clear q1 hK KK;refine tk 7 ?_;refine tk 8 ?_;refine tk 9 ?_;refine rd1 11 fun KK hK=>?_
  simp only[xa,xb,xc];obtain⟨y0,y1,y2,y3,y4,y5⟩:=W7 fA;go_simp;clear y0 y1 y2 y3 y4 y5;obtain⟨eA,hY⟩:∃ V,(((((Z8AC.setCell ⟨gA,0,none⟩ (Iz d0)).setCell ⟨gA,1,none⟩ (Iz d1)).setCell ⟨gA,2,none⟩ (Iz d2)).setCell ⟨gA,3,none⟩ (Iz d3)).setCell ⟨gA,4,none⟩ (Iz d4))=V:=⟨_,rfl⟩
  have qS:Out gA (gA+1) Z8AC eA:=by rw[<-hY];exact(Out.refl _ _ _).zo5 z1 _ _ _ _ _
  replace O:Out 0 0 V6 eA:=by rw[<-hY];exact O.zo5 (.inr bF) _ _ _ _ _
  have fB:eA.heap[gA]? = some (Ez d0 d1 d2 d3 d4 81):=by rw[<-hY];simp[World.setCell,Array.getElem?_modify,fA]
  (try rw[hY]);clear hY fA;refine hK.out _ _ ⟨qS.cell aB.1 (.inl (by have:=aL;omega)),qS.cell aB.2 (.inl (by have:=aL;omega))⟩ fun aB=>?_
  clear qS hK KK;refine tk 12 ?_;refine dn ?_;obtain⟨x0',qK,_,_⟩:=Q5 (O.heap gZ.out z0);obtain⟨y0,y1,y2,y3,y4,_⟩:=W7 fB;obtain⟨w0,w1,w2,w3,w4,_⟩:=W7 (O.heap jP.out z0);have HE:=Q3 (dU.out.trans O);clear O fB aB bF;go_wp2;go_ret;exact⟨rfl,HE.out⟩
theorem j4r (hR:cq w rb 0=some (Pq (s 0))) (a i v:Int) {b0 b1 b2 b3 b4 aN:Int} {ok:Bool} (hB:∀ X,Out 0 0 w X->Kz 123 #[Pq (s 0),Iz a] X fun e w'=>e=.returned (.tuple #[Wz b0 b1 b2 b3 b4,.bool ok])/\Out 0 0 X w') (hs1:-9223372036854775808<=b2) (gU:b2<=9223372036854775807) (bE:J9 b1 b2 i=aN) (dN:ok=true) (h0:aN=7) (v1:-9223372036854775808<=v) (v2:v<=9223372036854775807) {kx nx:Int} (iJ:v % 8+1=kx) (eQ:v / 8=nx) (hv:J2 kx nx=true) {d0 d1 d2 d3 d4:Int} {ok2:Bool} (kG:∀ X,Out 0 0 w X->Kz 123 #[Pq (s 0),Iz nx] X fun e w'=>e=.returned (.tuple #[Wz d0 d1 d2 d3 d4,.bool ok2])/\Out 0 0 X w') (hk:kx=2) (hok2:ok2=true):Kz 68 #[Pq rb,Iz a,Iz i,Iz v] w fun e w'=>e=.returned (.bool (d1 == 6 && d4 == b4))/\Out 0 0 w w':=by
 subst h0;subst hk;subst hok2;subst dN;have Hv:=Q3 hv;have lB:=Q3 kG;clear hv kG;have lE:((7:Int) == 0)=false:=by decide
 have kD:((7:Int) == 1)=false:=by decide
 have jO:=Q3 (fun W=>F5 v W v1 v2);rw[iJ,eQ] at jO;have Hk:=Q3 (And.intro iJ eQ);clear v1 v2 iJ eQ;have hr5:(5:Int)<7:=by omega
 have HB:=Q3 hB;have HR:=Q3 hR;have Hs:=Q3 (And.intro hs1 gU);have dQ:=Q3 bE;have c9:=hR;clear hB hs1 gU bE hR;go_enter Tryz.func68,Tryz.ntmps68
 go_wp2_with fail;refine(HB.out _ (Out.refl _ _ _)).mono ?_;rintro e X1 ⟨rfl,q1⟩;clear c9;have f2:=heap_alloc_new X1 (Ez b0 b1 b2 b3 b4 81);have o2:=q1.alloc (Ez b0 b1 b2 b3 b4 81);obtain⟨y0,y1,y2,y3,y4,y5⟩:=W7 f2;have gT:=Q3 f2;have aI:=Q3 o2;clear f2 o2 q1;go_wp2_with fail;refine(B6 b1 b2 i _ Hs.out.1 Hs.out.2).mono ?_;rintro e X3 ⟨rfl,q3⟩;rw[dQ.out];obtain⟨gb,bG⟩:∃ g,X1.heap.size=g:=⟨_,rfl⟩
 have bQ:=Q3 (aI.out.trans q3);have gQ:=Q3 (q3.heap gT.out z0);rw[bG] at gQ;(try rw[bG]);clear bG q3 y0 y1 y2 y3 y4 y5 gT aI;go_wp2_with fail;refine(jO.out _).mono ?_;rintro e X5 ⟨rfl,q5⟩;rw[Hv.out,show z0z 2 nx=2 from by unfold z0z;rw[if_pos Hv.out],show z1a 2 nx=nx from by unfold z1a;rw[if_pos Hv.out]];have o5:=W8 q5;have f6:=heap_alloc_new X5 (Dz 2 nx 32);have o6:=o5.alloc (Dz 2 nx 32);have dU:=Q3 (bQ.out.trans o6);have jP:=Q3 (o6.heap gQ.out z0);have gZ:=Q3 f6;obtain⟨x0,x1,x2,x3⟩:=Q5 f6;clear q5 o5 f6 o6 bQ gQ;have c9:=dU.out.cell HR.out z0;go_wp2_with fail;obtain⟨V6,kR⟩:∃ V,X5.alloc (Dz 2 nx 32)=V:=⟨_,rfl⟩
 obtain⟨gx,kU⟩:∃ g,X5.heap.size=g:=⟨_,rfl⟩
 rw[kR] at dU jP gZ x0 x1 c9 ⊢;rw[kU] at gZ x0 x1;(try rw[kU]);clear kR kU x2 x3;have aL:gx<V6.heap.size/\rb<V6.heap.size:=⟨Q8 gZ.out,Y7 c9⟩
 have HB:Hid (∀ X,Out 0 0 V6 X->_):=fun X o=>lB.out X (dU.out.trans o)
 refine wp_region_held_drew (S:=fun w'=>cq w' rb 0=some (Pq (s 0))/\cq w' gx 1=some (Iz nx)) (by kernel_rfl) ?hS124 (fun aB=>?rest124)
 case hS124=>exact⟨c9,x1⟩
 obtain⟨Z8,hZ⟩:∃ Z,V6.drew=Z:=⟨_,rfl⟩
 have O:Out 0 0 V6 Z8:=by rw[<-hZ];exact(Out.refl 0 0 _).drew
 rw[hZ] at aB ⊢;clear hZ;refine tk 0 ?_;refine tk 1 ?_;refine tk 2 ?_;refine tk 3 ?_;refine tk 4 ?_;refine tk 5 ?_;refine rd2 6 10 (fun KK hK=>?_) fun KK hK=>?_
 ·simp only[xa,xb,xc];go_simp;refine(HB.out _ O).mono ?_;rintro e Z8C ⟨rfl,q1⟩;replace O:=O.trans q1;refine hK.out _ _ ⟨q1.cell aB.1 z0,q1.cell aB.2 z0⟩ fun aB=>?_
  clear q1 hK KK;refine tk 7 ?_;refine tk 8 ?_;refine tk 9 ?_;refine rd1 10 fun KK hK=>?_
  simp only[xa,xb,xc];go_simp;obtain⟨gA,aG⟩:∃ g,Z8C.heap.size=g:=⟨_,rfl⟩
  obtain⟨eZ,hY⟩:∃ V,Z8C.alloc (Ez 0 0 0 0 0 81)=V:=⟨_,rfl⟩
  have qA:Out 0 0 Z8C eZ:=by rw[<-hY];exact(Out.refl 0 0 _).alloc _
  have fA:eZ.heap[gA]? = some (Ez 0 0 0 0 0 81):=by rw[<-hY,<-aG];exact heap_alloc_new _ _
  have bF:V6.heap.size<=gA:=by have:=O.size;omega
  (try rw[hY]);(try rw[aG]);clear hY aG;replace O:=O.trans qA;refine hK.out _ _ ⟨qA.cell aB.1 z0,qA.cell aB.2 z0⟩ fun aB=>?_
  clear qA hK KK;refine rd1 11 fun KK hK=>?_
  simp only[xa,xb,xc];obtain⟨y0,y1,y2,y3,y4,y5⟩:=W7 fA;go_simp;clear y0 y1 y2 y3 y4 y5;obtain⟨dZ,hY⟩:∃ V,(((((eZ.setCell ⟨gA,0,none⟩ (Iz d0)).setCell ⟨gA,1,none⟩ (Iz d1)).setCell ⟨gA,2,none⟩ (Iz d2)).setCell ⟨gA,3,none⟩ (Iz d3)).setCell ⟨gA,4,none⟩ (Iz d4))=V:=⟨_,rfl⟩
  have qS:Out gA (gA+1) eZ dZ:=by rw[<-hY];exact(Out.refl _ _ _).zo5 z1 _ _ _ _ _
  replace O:Out 0 0 V6 dZ:=by rw[<-hY];exact O.zo5 (.inr bF) _ _ _ _ _
  have fB:dZ.heap[gA]? = some (Ez d0 d1 d2 d3 d4 81):=by rw[<-hY];simp[World.setCell,Array.getElem?_modify,fA]
  (try rw[hY]);clear hY fA;refine hK.out _ _ ⟨qS.cell aB.1 (.inl (by have:=aL;omega)),qS.cell aB.2 (.inl (by have:=aL;omega))⟩ fun aB=>?_
  clear qS hK KK;refine tk 12 ?_;refine dn ?_;obtain⟨x0',qK,_,_⟩:=Q5 (O.heap gZ.out z0);obtain⟨y0,y1,y2,y3,y4,_⟩:=W7 fB;obtain⟨w0,w1,w2,w3,w4,_⟩:=W7 (O.heap jP.out z0);have HE:=Q3 (dU.out.trans O);clear O fB aB bF;cases hq:(d1 == 6)
  ·go_wp2;go_ret;exact⟨by simp[hq],HE.out⟩
  ·go_wp2;go_ret;exact⟨by simp[hq],HE.out⟩
 ·simp only[xa,xb,xc];go_simp;obtain⟨gA,aG⟩:∃ g,Z8.heap.size=g:=⟨_,rfl⟩
  obtain⟨Z8A,hY⟩:∃ V,Z8.alloc (Ez 0 0 0 0 0 81)=V:=⟨_,rfl⟩
  have qA:Out 0 0 Z8 Z8A:=by rw[<-hY];exact(Out.refl 0 0 _).alloc _
  have fA:Z8A.heap[gA]? = some (Ez 0 0 0 0 0 81):=by rw[<-hY,<-aG];exact heap_alloc_new _ _
  have bF:V6.heap.size<=gA:=by have:=O.size;omega
  (try rw[hY]);(try rw[aG]);clear hY aG;replace O:=O.trans qA;refine hK.out _ _ ⟨qA.cell aB.1 z0,qA.cell aB.2 z0⟩ fun aB=>?_
  clear qA hK KK;refine rd1 6 fun KK hK=>?_
  simp only[xa,xb,xc];go_simp;refine(HB.out _ O).mono ?_;rintro e Z8AC ⟨rfl,q1⟩;replace O:=O.trans q1;replace fA:=q1.heap fA z0;refine hK.out _ _ ⟨q1.cell aB.1 z0,q1.cell aB.2 z0⟩ fun aB=>?_
  clear q1 hK KK;refine tk 7 ?_;refine tk 8 ?_;refine tk 9 ?_;refine rd1 11 fun KK hK=>?_
  simp only[xa,xb,xc];obtain⟨y0,y1,y2,y3,y4,y5⟩:=W7 fA;go_simp;clear y0 y1 y2 y3 y4 y5;obtain⟨eA,hY⟩:∃ V,(((((Z8AC.setCell ⟨gA,0,none⟩ (Iz d0)).setCell ⟨gA,1,none⟩ (Iz d1)).setCell ⟨gA,2,none⟩ (Iz d2)).setCell ⟨gA,3,none⟩ (Iz d3)).setCell ⟨gA,4,none⟩ (Iz d4))=V:=⟨_,rfl⟩
  have qS:Out gA (gA+1) Z8AC eA:=by rw[<-hY];exact(Out.refl _ _ _).zo5 z1 _ _ _ _ _
  replace O:Out 0 0 V6 eA:=by rw[<-hY];exact O.zo5 (.inr bF) _ _ _ _ _
  have fB:eA.heap[gA]? = some (Ez d0 d1 d2 d3 d4 81):=by rw[<-hY];simp[World.setCell,Array.getElem?_modify,fA]
  (try rw[hY]);clear hY fA;refine hK.out _ _ ⟨qS.cell aB.1 (.inl (by have:=aL;omega)),qS.cell aB.2 (.inl (by have:=aL;omega))⟩ fun aB=>?_
  clear qS hK KK;refine tk 12 ?_;refine dn ?_;obtain⟨x0',qK,_,_⟩:=Q5 (O.heap gZ.out z0);obtain⟨y0,y1,y2,y3,y4,_⟩:=W7 fB;obtain⟨w0,w1,w2,w3,w4,_⟩:=W7 (O.heap jP.out z0);have HE:=Q3 (dU.out.trans O);clear O fB aB bF;cases hq:(d1 == 6)
  ·go_wp2;go_ret;exact⟨by simp[hq],HE.out⟩
  ·go_wp2;go_ret;exact⟨by simp[hq],HE.out⟩
theorem j4s (hR:cq w rb 0=some (Pq (s 0))) (a i v:Int) {b0 b1 b2 b3 b4 aN:Int} {ok:Bool} (hB:∀ X,Out 0 0 w X->Kz 123 #[Pq (s 0),Iz a] X fun e w'=>e=.returned (.tuple #[Wz b0 b1 b2 b3 b4,.bool ok])/\Out 0 0 X w') (hs1:-9223372036854775808<=b2) (gU:b2<=9223372036854775807) (bE:J9 b1 b2 i=aN) (dN:ok=true) (h0:aN=8) (v1:-9223372036854775808<=v) (v2:v<=9223372036854775807) {kx nx:Int} (iJ:v % 8+1=kx) (eQ:v / 8=nx) (hv:J2 kx nx=true) {d0 d1 d2 d3 d4:Int} {ok2:Bool} (kG:∀ X,Out 0 0 w X->Kz 123 #[Pq (s 0),Iz nx] X fun e w'=>e=.returned (.tuple #[Wz d0 d1 d2 d3 d4,.bool ok2])/\Out 0 0 X w') (hk:kx=2) (hok2:ok2=true):Kz 68 #[Pq rb,Iz a,Iz i,Iz v] w fun e w'=>e=.returned (.bool (d1 == 12 && d4 == b3))/\Out 0 0 w w':=by
 subst h0;subst hk;subst hok2;subst dN;have Hv:=Q3 hv;have lB:=Q3 kG;clear hv kG;have lE:((8:Int) == 0)=false:=by decide
 have kD:((8:Int) == 1)=false:=by decide
 have jO:=Q3 (fun W=>F5 v W v1 v2);rw[iJ,eQ] at jO;have Hk:=Q3 (And.intro iJ eQ);clear v1 v2 iJ eQ;have hr5:(5:Int)<8:=by omega
 have HB:=Q3 hB;have HR:=Q3 hR;have Hs:=Q3 (And.intro hs1 gU);have dQ:=Q3 bE;have c9:=hR;clear hB hs1 gU bE hR;go_enter Tryz.func68,Tryz.ntmps68
 go_wp2_with fail;refine(HB.out _ (Out.refl _ _ _)).mono ?_;rintro e X1 ⟨rfl,q1⟩;clear c9;have f2:=heap_alloc_new X1 (Ez b0 b1 b2 b3 b4 81);have o2:=q1.alloc (Ez b0 b1 b2 b3 b4 81);obtain⟨y0,y1,y2,y3,y4,y5⟩:=W7 f2;have gT:=Q3 f2;have aI:=Q3 o2;clear f2 o2 q1;go_wp2_with fail;refine(B6 b1 b2 i _ Hs.out.1 Hs.out.2).mono ?_;rintro e X3 ⟨rfl,q3⟩;rw[dQ.out];obtain⟨gb,bG⟩:∃ g,X1.heap.size=g:=⟨_,rfl⟩
 have bQ:=Q3 (aI.out.trans q3);have gQ:=Q3 (q3.heap gT.out z0);rw[bG] at gQ;(try rw[bG]);clear bG q3 y0 y1 y2 y3 y4 y5 gT aI;go_wp2_with fail;refine(jO.out _).mono ?_;rintro e X5 ⟨rfl,q5⟩;rw[Hv.out,show z0z 2 nx=2 from by unfold z0z;rw[if_pos Hv.out],show z1a 2 nx=nx from by unfold z1a;rw[if_pos Hv.out]];have o5:=W8 q5;have f6:=heap_alloc_new X5 (Dz 2 nx 32);have o6:=o5.alloc (Dz 2 nx 32);have dU:=Q3 (bQ.out.trans o6);have jP:=Q3 (o6.heap gQ.out z0);have gZ:=Q3 f6;obtain⟨x0,x1,x2,x3⟩:=Q5 f6;clear q5 o5 f6 o6 bQ gQ;have c9:=dU.out.cell HR.out z0;go_wp2_with fail;obtain⟨V6,kR⟩:∃ V,X5.alloc (Dz 2 nx 32)=V:=⟨_,rfl⟩
 obtain⟨gx,kU⟩:∃ g,X5.heap.size=g:=⟨_,rfl⟩
 rw[kR] at dU jP gZ x0 x1 c9 ⊢;rw[kU] at gZ x0 x1;(try rw[kU]);clear kR kU x2 x3;have aL:gx<V6.heap.size/\rb<V6.heap.size:=⟨Q8 gZ.out,Y7 c9⟩
 have HB:Hid (∀ X,Out 0 0 V6 X->_):=fun X o=>lB.out X (dU.out.trans o)
 refine wp_region_held_drew (S:=fun w'=>cq w' rb 0=some (Pq (s 0))/\cq w' gx 1=some (Iz nx)) (by kernel_rfl) ?hS145 (fun aB=>?rest145)
 case hS145=>exact⟨c9,x1⟩
 obtain⟨Z8,hZ⟩:∃ Z,V6.drew=Z:=⟨_,rfl⟩
 have O:Out 0 0 V6 Z8:=by rw[<-hZ];exact(Out.refl 0 0 _).drew
 rw[hZ] at aB ⊢;clear hZ;refine tk 0 ?_;refine tk 1 ?_;refine tk 2 ?_;refine tk 3 ?_;refine tk 4 ?_;refine tk 5 ?_;refine rd2 6 10 (fun KK hK=>?_) fun KK hK=>?_
 ·simp only[xa,xb,xc];go_simp;refine(HB.out _ O).mono ?_;rintro e Z8C ⟨rfl,q1⟩;replace O:=O.trans q1;refine hK.out _ _ ⟨q1.cell aB.1 z0,q1.cell aB.2 z0⟩ fun aB=>?_
  clear q1 hK KK;refine tk 7 ?_;refine tk 8 ?_;refine tk 9 ?_;refine rd1 10 fun KK hK=>?_
  simp only[xa,xb,xc];go_simp;obtain⟨gA,aG⟩:∃ g,Z8C.heap.size=g:=⟨_,rfl⟩
  obtain⟨eZ,hY⟩:∃ V,Z8C.alloc (Ez 0 0 0 0 0 81)=V:=⟨_,rfl⟩
  have qA:Out 0 0 Z8C eZ:=by rw[<-hY];exact(Out.refl 0 0 _).alloc _
  have fA:eZ.heap[gA]? = some (Ez 0 0 0 0 0 81):=by rw[<-hY,<-aG];exact heap_alloc_new _ _
  have bF:V6.heap.size<=gA:=by have:=O.size;omega
  (try rw[hY]);(try rw[aG]);clear hY aG;replace O:=O.trans qA;refine hK.out _ _ ⟨qA.cell aB.1 z0,qA.cell aB.2 z0⟩ fun aB=>?_
  clear qA hK KK;refine rd1 11 fun KK hK=>?_
  simp only[xa,xb,xc];obtain⟨y0,y1,y2,y3,y4,y5⟩:=W7 fA;go_simp;clear y0 y1 y2 y3 y4 y5;obtain⟨dZ,hY⟩:∃ V,(((((eZ.setCell ⟨gA,0,none⟩ (Iz d0)).setCell ⟨gA,1,none⟩ (Iz d1)).setCell ⟨gA,2,none⟩ (Iz d2)).setCell ⟨gA,3,none⟩ (Iz d3)).setCell ⟨gA,4,none⟩ (Iz d4))=V:=⟨_,rfl⟩
  have qS:Out gA (gA+1) eZ dZ:=by rw[<-hY];exact(Out.refl _ _ _).zo5 z1 _ _ _ _ _
  replace O:Out 0 0 V6 dZ:=by rw[<-hY];exact O.zo5 (.inr bF) _ _ _ _ _
  have fB:dZ.heap[gA]? = some (Ez d0 d1 d2 d3 d4 81):=by rw[<-hY];simp[World.setCell,Array.getElem?_modify,fA]
  (try rw[hY]);clear hY fA;refine hK.out _ _ ⟨qS.cell aB.1 (.inl (by have:=aL;omega)),qS.cell aB.2 (.inl (by have:=aL;omega))⟩ fun aB=>?_
  clear qS hK KK;refine tk 12 ?_;refine dn ?_;obtain⟨x0',qK,_,_⟩:=Q5 (O.heap gZ.out z0);obtain⟨y0,y1,y2,y3,y4,_⟩:=W7 fB;obtain⟨w0,w1,w2,w3,w4,_⟩:=W7 (O.heap jP.out z0);have HE:=Q3 (dU.out.trans O);clear O fB aB bF;cases hq:(d1 == 12)
  ·go_wp2;go_ret;exact⟨by simp[hq],HE.out⟩
  ·go_wp2;go_ret;exact⟨by simp[hq],HE.out⟩
 ·simp only[xa,xb,xc];go_simp;obtain⟨gA,aG⟩:∃ g,Z8.heap.size=g:=⟨_,rfl⟩
  obtain⟨Z8A,hY⟩:∃ V,Z8.alloc (Ez 0 0 0 0 0 81)=V:=⟨_,rfl⟩
  have qA:Out 0 0 Z8 Z8A:=by rw[<-hY];exact(Out.refl 0 0 _).alloc _
  have fA:Z8A.heap[gA]? = some (Ez 0 0 0 0 0 81):=by rw[<-hY,<-aG];exact heap_alloc_new _ _
  have bF:V6.heap.size<=gA:=by have:=O.size;omega
  (try rw[hY]);(try rw[aG]);clear hY aG;replace O:=O.trans qA;refine hK.out _ _ ⟨qA.cell aB.1 z0,qA.cell aB.2 z0⟩ fun aB=>?_
  clear qA hK KK;refine rd1 6 fun KK hK=>?_
  simp only[xa,xb,xc];go_simp;refine(HB.out _ O).mono ?_;rintro e Z8AC ⟨rfl,q1⟩;replace O:=O.trans q1;replace fA:=q1.heap fA z0;refine hK.out _ _ ⟨q1.cell aB.1 z0,q1.cell aB.2 z0⟩ fun aB=>?_
  clear q1 hK KK;refine tk 7 ?_;refine tk 8 ?_;refine tk 9 ?_;refine rd1 11 fun KK hK=>?_
  simp only[xa,xb,xc];obtain⟨y0,y1,y2,y3,y4,y5⟩:=W7 fA;go_simp;clear y0 y1 y2 y3 y4 y5;obtain⟨eA,hY⟩:∃ V,(((((Z8AC.setCell ⟨gA,0,none⟩ (Iz d0)).setCell ⟨gA,1,none⟩ (Iz d1)).setCell ⟨gA,2,none⟩ (Iz d2)).setCell ⟨gA,3,none⟩ (Iz d3)).setCell ⟨gA,4,none⟩ (Iz d4))=V:=⟨_,rfl⟩
  have qS:Out gA (gA+1) Z8AC eA:=by rw[<-hY];exact(Out.refl _ _ _).zo5 z1 _ _ _ _ _
  replace O:Out 0 0 V6 eA:=by rw[<-hY];exact O.zo5 (.inr bF) _ _ _ _ _
  have fB:eA.heap[gA]? = some (Ez d0 d1 d2 d3 d4 81):=by rw[<-hY];simp[World.setCell,Array.getElem?_modify,fA]
  (try rw[hY]);clear hY fA;refine hK.out _ _ ⟨qS.cell aB.1 (.inl (by have:=aL;omega)),qS.cell aB.2 (.inl (by have:=aL;omega))⟩ fun aB=>?_
  clear qS hK KK;refine tk 12 ?_;refine dn ?_;obtain⟨x0',qK,_,_⟩:=Q5 (O.heap gZ.out z0);obtain⟨y0,y1,y2,y3,y4,_⟩:=W7 fB;obtain⟨w0,w1,w2,w3,w4,_⟩:=W7 (O.heap jP.out z0);have HE:=Q3 (dU.out.trans O);clear O fB aB bF;cases hq:(d1 == 12)
  ·go_wp2;go_ret;exact⟨by simp[hq],HE.out⟩
  ·go_wp2;go_ret;exact⟨by simp[hq],HE.out⟩
theorem j4t (hR:cq w rb 0=some (Pq (s 0))) (a i v:Int) {b0 b1 b2 b3 b4 aN:Int} {ok:Bool} (hB:∀ X,Out 0 0 w X->Kz 123 #[Pq (s 0),Iz a] X fun e w'=>e=.returned (.tuple #[Wz b0 b1 b2 b3 b4,.bool ok])/\Out 0 0 X w') (hs1:-9223372036854775808<=b2) (gU:b2<=9223372036854775807) (bE:J9 b1 b2 i=aN) (dN:ok=true) (h0:aN=9) (v1:-9223372036854775808<=v) (v2:v<=9223372036854775807) {kx nx:Int} (iJ:v % 8+1=kx) (eQ:v / 8=nx) (hv:J2 kx nx=true) {d0 d1 d2 d3 d4:Int} {ok2:Bool} (kG:∀ X,Out 0 0 w X->Kz 123 #[Pq (s 0),Iz nx] X fun e w'=>e=.returned (.tuple #[Wz d0 d1 d2 d3 d4,.bool ok2])/\Out 0 0 X w') (hk:kx=2) (hok2:ok2=true):Kz 68 #[Pq rb,Iz a,Iz i,Iz v] w fun e w'=>e=.returned (.bool (d1 == 13 && d4 == b4 && (b1 == 12 || decide (a<d0))))/\Out 0 0 w w':=by
 subst h0;subst hk;subst hok2;subst dN;have Hv:=Q3 hv;have lB:=Q3 kG;clear hv kG;have lE:((9:Int) == 0)=false:=by decide
 have kD:((9:Int) == 1)=false:=by decide
 have jO:=Q3 (fun W=>F5 v W v1 v2);rw[iJ,eQ] at jO;have Hk:=Q3 (And.intro iJ eQ);clear v1 v2 iJ eQ;have hr5:(5:Int)<9:=by omega
 have HB:=Q3 hB;have HR:=Q3 hR;have Hs:=Q3 (And.intro hs1 gU);have dQ:=Q3 bE;have c9:=hR;clear hB hs1 gU bE hR;go_enter Tryz.func68,Tryz.ntmps68
 go_wp2_with fail;refine(HB.out _ (Out.refl _ _ _)).mono ?_;rintro e X1 ⟨rfl,q1⟩;clear c9;have f2:=heap_alloc_new X1 (Ez b0 b1 b2 b3 b4 81);have o2:=q1.alloc (Ez b0 b1 b2 b3 b4 81);obtain⟨y0,y1,y2,y3,y4,y5⟩:=W7 f2;have gT:=Q3 f2;have aI:=Q3 o2;clear f2 o2 q1;go_wp2_with fail;refine(B6 b1 b2 i _ Hs.out.1 Hs.out.2).mono ?_;rintro e X3 ⟨rfl,q3⟩;rw[dQ.out];obtain⟨gb,bG⟩:∃ g,X1.heap.size=g:=⟨_,rfl⟩
 have bQ:=Q3 (aI.out.trans q3);have gQ:=Q3 (q3.heap gT.out z0);rw[bG] at gQ;(try rw[bG]);clear bG q3 y0 y1 y2 y3 y4 y5 gT aI;go_wp2_with fail;refine(jO.out _).mono ?_;rintro e X5 ⟨rfl,q5⟩;rw[Hv.out,show z0z 2 nx=2 from by unfold z0z;rw[if_pos Hv.out],show z1a 2 nx=nx from by unfold z1a;rw[if_pos Hv.out]];have o5:=W8 q5;have f6:=heap_alloc_new X5 (Dz 2 nx 32);have o6:=o5.alloc (Dz 2 nx 32);have dU:=Q3 (bQ.out.trans o6);have jP:=Q3 (o6.heap gQ.out z0);have gZ:=Q3 f6;obtain⟨x0,x1,x2,x3⟩:=Q5 f6;clear q5 o5 f6 o6 bQ gQ;have c9:=dU.out.cell HR.out z0;go_wp2_with fail;obtain⟨V6,kR⟩:∃ V,X5.alloc (Dz 2 nx 32)=V:=⟨_,rfl⟩
 obtain⟨gx,kU⟩:∃ g,X5.heap.size=g:=⟨_,rfl⟩
 rw[kR] at dU jP gZ x0 x1 c9 ⊢;rw[kU] at gZ x0 x1;(try rw[kU]);clear kR kU x2 x3;have aL:gx<V6.heap.size/\rb<V6.heap.size:=⟨Q8 gZ.out,Y7 c9⟩
 have HB:Hid (∀ X,Out 0 0 V6 X->_):=fun X o=>lB.out X (dU.out.trans o)
 refine wp_region_held_drew (S:=fun w'=>cq w' rb 0=some (Pq (s 0))/\cq w' gx 1=some (Iz nx)) (by kernel_rfl) ?hS166 (fun aB=>?rest166)
 case hS166=>exact⟨c9,x1⟩
 obtain⟨Z8,hZ⟩:∃ Z,V6.drew=Z:=⟨_,rfl⟩
 have O:Out 0 0 V6 Z8:=by rw[<-hZ];exact(Out.refl 0 0 _).drew
 rw[hZ] at aB ⊢;clear hZ;refine tk 0 ?_;refine tk 1 ?_;refine tk 2 ?_;refine tk 3 ?_;refine tk 4 ?_;refine tk 5 ?_;refine rd2 6 10 (fun KK hK=>?_) fun KK hK=>?_
 ·simp only[xa,xb,xc];go_simp;refine(HB.out _ O).mono ?_;rintro e Z8C ⟨rfl,q1⟩;replace O:=O.trans q1;refine hK.out _ _ ⟨q1.cell aB.1 z0,q1.cell aB.2 z0⟩ fun aB=>?_
  clear q1 hK KK;refine tk 7 ?_;refine tk 8 ?_;refine tk 9 ?_;refine rd1 10 fun KK hK=>?_
  simp only[xa,xb,xc];go_simp;obtain⟨gA,aG⟩:∃ g,Z8C.heap.size=g:=⟨_,rfl⟩
  obtain⟨eZ,hY⟩:∃ V,Z8C.alloc (Ez 0 0 0 0 0 81)=V:=⟨_,rfl⟩
  have qA:Out 0 0 Z8C eZ:=by rw[<-hY];exact(Out.refl 0 0 _).alloc _
  have fA:eZ.heap[gA]? = some (Ez 0 0 0 0 0 81):=by rw[<-hY,<-aG];exact heap_alloc_new _ _
  have bF:V6.heap.size<=gA:=by have:=O.size;omega
  (try rw[hY]);(try rw[aG]);clear hY aG;replace O:=O.trans qA;refine hK.out _ _ ⟨qA.cell aB.1 z0,qA.cell aB.2 z0⟩ fun aB=>?_
  clear qA hK KK;refine rd1 11 fun KK hK=>?_
  simp only[xa,xb,xc];obtain⟨y0,y1,y2,y3,y4,y5⟩:=W7 fA;go_simp;clear y0 y1 y2 y3 y4 y5;obtain⟨dZ,hY⟩:∃ V,(((((eZ.setCell ⟨gA,0,none⟩ (Iz d0)).setCell ⟨gA,1,none⟩ (Iz d1)).setCell ⟨gA,2,none⟩ (Iz d2)).setCell ⟨gA,3,none⟩ (Iz d3)).setCell ⟨gA,4,none⟩ (Iz d4))=V:=⟨_,rfl⟩
  have qS:Out gA (gA+1) eZ dZ:=by rw[<-hY];exact(Out.refl _ _ _).zo5 z1 _ _ _ _ _
  replace O:Out 0 0 V6 dZ:=by rw[<-hY];exact O.zo5 (.inr bF) _ _ _ _ _
  have fB:dZ.heap[gA]? = some (Ez d0 d1 d2 d3 d4 81):=by rw[<-hY];simp[World.setCell,Array.getElem?_modify,fA]
  (try rw[hY]);clear hY fA;refine hK.out _ _ ⟨qS.cell aB.1 (.inl (by have:=aL;omega)),qS.cell aB.2 (.inl (by have:=aL;omega))⟩ fun aB=>?_
  clear qS hK KK;refine tk 12 ?_;refine dn ?_;obtain⟨x0',qK,_,_⟩:=Q5 (O.heap gZ.out z0);obtain⟨y0,y1,y2,y3,y4,_⟩:=W7 fB;obtain⟨w0,w1,w2,w3,w4,_⟩:=W7 (O.heap jP.out z0);have HE:=Q3 (dU.out.trans O);clear O fB aB bF;cases hq:(d1 == 13)
  ·go_wp2;go_ret;exact⟨by simp[hq],HE.out⟩
  ·cases hq2:(d4 == b4)
   ·go_wp2;go_ret;exact⟨by simp[hq,hq2],HE.out⟩
   ·cases hq3:(b1 == 12)
    ·go_wp2;go_ret;exact⟨by simp[hq,hq2,hq3],HE.out⟩
    ·go_wp2;go_ret;exact⟨by simp[hq,hq2,hq3],HE.out⟩
 ·simp only[xa,xb,xc];go_simp;obtain⟨gA,aG⟩:∃ g,Z8.heap.size=g:=⟨_,rfl⟩
  obtain⟨Z8A,hY⟩:∃ V,Z8.alloc (Ez 0 0 0 0 0 81)=V:=⟨_,rfl⟩
  have qA:Out 0 0 Z8 Z8A:=by rw[<-hY];exact(Out.refl 0 0 _).alloc _
  have fA:Z8A.heap[gA]? = some (Ez 0 0 0 0 0 81):=by rw[<-hY,<-aG];exact heap_alloc_new _ _
  have bF:V6.heap.size<=gA:=by have:=O.size;omega
  (try rw[hY]);(try rw[aG]);clear hY aG;replace O:=O.trans qA;refine hK.out _ _ ⟨qA.cell aB.1 z0,qA.cell aB.2 z0⟩ fun aB=>?_
  clear qA hK KK;refine rd1 6 fun KK hK=>?_
  simp only[xa,xb,xc];go_simp;refine(HB.out _ O).mono ?_;rintro e Z8AC ⟨rfl,q1⟩;replace O:=O.trans q1;replace fA:=q1.heap fA z0;refine hK.out _ _ ⟨q1.cell aB.1 z0,q1.cell aB.2 z0⟩ fun aB=>?_
  clear q1 hK KK;refine tk 7 ?_;refine tk 8 ?_;refine tk 9 ?_;refine rd1 11 fun KK hK=>?_
  simp only[xa,xb,xc];obtain⟨y0,y1,y2,y3,y4,y5⟩:=W7 fA;go_simp;clear y0 y1 y2 y3 y4 y5;obtain⟨eA,hY⟩:∃ V,(((((Z8AC.setCell ⟨gA,0,none⟩ (Iz d0)).setCell ⟨gA,1,none⟩ (Iz d1)).setCell ⟨gA,2,none⟩ (Iz d2)).setCell ⟨gA,3,none⟩ (Iz d3)).setCell ⟨gA,4,none⟩ (Iz d4))=V:=⟨_,rfl⟩
  have qS:Out gA (gA+1) Z8AC eA:=by rw[<-hY];exact(Out.refl _ _ _).zo5 z1 _ _ _ _ _
  replace O:Out 0 0 V6 eA:=by rw[<-hY];exact O.zo5 (.inr bF) _ _ _ _ _
  have fB:eA.heap[gA]? = some (Ez d0 d1 d2 d3 d4 81):=by rw[<-hY];simp[World.setCell,Array.getElem?_modify,fA]
  (try rw[hY]);clear hY fA;refine hK.out _ _ ⟨qS.cell aB.1 (.inl (by have:=aL;omega)),qS.cell aB.2 (.inl (by have:=aL;omega))⟩ fun aB=>?_
  clear qS hK KK;refine tk 12 ?_;refine dn ?_;obtain⟨x0',qK,_,_⟩:=Q5 (O.heap gZ.out z0);obtain⟨y0,y1,y2,y3,y4,_⟩:=W7 fB;obtain⟨w0,w1,w2,w3,w4,_⟩:=W7 (O.heap jP.out z0);have HE:=Q3 (dU.out.trans O);clear O fB aB bF;cases hq:(d1 == 13)
  ·go_wp2;go_ret;exact⟨by simp[hq],HE.out⟩
  ·cases hq2:(d4 == b4)
   ·go_wp2;go_ret;exact⟨by simp[hq,hq2],HE.out⟩
   ·cases hq3:(b1 == 12)
    ·go_wp2;go_ret;exact⟨by simp[hq,hq2,hq3],HE.out⟩
    ·go_wp2;go_ret;exact⟨by simp[hq,hq2,hq3],HE.out⟩
end
end Go.Proofs.YtjgnogflgoihfaaGreatDoor
