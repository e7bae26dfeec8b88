import Derived.Test.YtjgnogflgoihfaaGreatDoorP27
set_option linter.unusedSimpArgs false
set_option linter.unusedVariables false
set_option maxHeartbeats 16000000
set_option maxRecDepth 100000
namespace Go.Proofs.YtjgnogflgoihfaaGreatDoor
open Go.RowKit
section
variable {w:World} {rb:Nat} {s:Nat->Nat}
theorem q6o (hR:cq w rb 0=some (Pq (s 0))) (a i v:Int) {b0 b1 b2 b3 b4 aK:Int} {ok:Bool} (hB:∀ X,Out 0 0 w X->Kz 123 #[Pq (s 0),Iz a] X fun e w'=>e=.returned (.tuple #[Wz b0 b1 b2 b3 b4,.bool ok])/\Out 0 0 X w') (hs1:-9223372036854775808<=b2) (eL:b2<=9223372036854775807) (aX:J6 b1 b2 i=aK) (eW:ok=false):Kz 68 #[Pq rb,Iz a,Iz i,Iz v] w fun e w'=>e=.returned (.bool false)/\Out 0 0 w w':=by
 subst eW;have HB:=Q3 hB;have HR:=Q3 hR;have Hs:=Q3 (And.intro hs1 eL);have cG:=Q3 aX;have c9:=hR;clear hB hs1 eL aX hR;go_enter Tryz.func68,Tryz.ntmps68
 go_wp2_with fail;refine(HB.out _ (Out.refl _ _ _)).mono ?_;rintro e X1 ⟨rfl,q1⟩;clear c9;have f2:=heap_alloc_new X1 (Ez b0 b1 b2 b3 b4 81);have o2:=q1.alloc (Ez b0 b1 b2 b3 b4 81);obtain⟨y0,y1,y2,y3,y4,y5⟩:=K7 f2;have eJ:=Q3 f2;have aH:=Q3 o2;clear f2 o2 q1;go_wp2_with fail;refine(U8 b1 b2 i _ Hs.out.1 Hs.out.2).mono ?_;rintro e X3 ⟨rfl,q3⟩;rw[cG.out];obtain⟨gb,bD⟩:∃ g,X1.heap.size=g:=⟨_,rfl⟩
 have bU:=Q3 (aH.out.trans q3);have gL:=Q3 (q3.heap eJ.out z0);rw[bD] at gL;(try rw[bD]);clear bD q3 y0 y1 y2 y3 y4 y5 eJ aH;go_wp2;go_ret;exact⟨rfl,bU.out⟩
theorem q6p (hR:cq w rb 0=some (Pq (s 0))) (a i v:Int) {b0 b1 b2 b3 b4 aK:Int} {ok:Bool} (hB:∀ X,Out 0 0 w X->Kz 123 #[Pq (s 0),Iz a] X fun e w'=>e=.returned (.tuple #[Wz b0 b1 b2 b3 b4,.bool ok])/\Out 0 0 X w') (hs1:-9223372036854775808<=b2) (eL:b2<=9223372036854775807) (aX:J6 b1 b2 i=aK) (eW:ok=true) (h0:aK=0):Kz 68 #[Pq rb,Iz a,Iz i,Iz v] w fun e w'=>e=.returned (.bool false)/\Out 0 0 w w':=by
 subst eW;subst h0;have HB:=Q3 hB;have HR:=Q3 hR;have Hs:=Q3 (And.intro hs1 eL);have cG:=Q3 aX;have c9:=hR;clear hB hs1 eL aX hR;go_enter Tryz.func68,Tryz.ntmps68
 go_wp2_with fail;refine(HB.out _ (Out.refl _ _ _)).mono ?_;rintro e X1 ⟨rfl,q1⟩;clear c9;have f2:=heap_alloc_new X1 (Ez b0 b1 b2 b3 b4 81);have o2:=q1.alloc (Ez b0 b1 b2 b3 b4 81);obtain⟨y0,y1,y2,y3,y4,y5⟩:=K7 f2;have eJ:=Q3 f2;have aH:=Q3 o2;clear f2 o2 q1;go_wp2_with fail;refine(U8 b1 b2 i _ Hs.out.1 Hs.out.2).mono ?_;rintro e X3 ⟨rfl,q3⟩;rw[cG.out];obtain⟨gb,bD⟩:∃ g,X1.heap.size=g:=⟨_,rfl⟩
 have bU:=Q3 (aH.out.trans q3);have gL:=Q3 (q3.heap eJ.out z0);rw[bD] at gL;(try rw[bD]);clear bD q3 y0 y1 y2 y3 y4 y5 eJ aH;go_wp2;go_ret;exact⟨rfl,bU.out⟩
theorem j1d (hR:cq w rb 0=some (Pq (s 0))) (a i v:Int) {b0 b1 b2 b3 b4 aK:Int} {ok:Bool} (hB:∀ X,Out 0 0 w X->Kz 123 #[Pq (s 0),Iz a] X fun e w'=>e=.returned (.tuple #[Wz b0 b1 b2 b3 b4,.bool ok])/\Out 0 0 X w') (hs1:-9223372036854775808<=b2) (eL:b2<=9223372036854775807) (aX:J6 b1 b2 i=aK) (eW:ok=true) (h0:aK=1):Kz 68 #[Pq rb,Iz a,Iz i,Iz v] w fun e w'=>e=.returned (.bool true)/\Out 0 0 w w':=by
 subst eW;subst h0;have HB:=Q3 hB;have HR:=Q3 hR;have Hs:=Q3 (And.intro hs1 eL);have cG:=Q3 aX;have c9:=hR;clear hB hs1 eL aX hR;go_enter Tryz.func68,Tryz.ntmps68
 go_wp2_with fail;refine(HB.out _ (Out.refl _ _ _)).mono ?_;rintro e X1 ⟨rfl,q1⟩;clear c9;have f2:=heap_alloc_new X1 (Ez b0 b1 b2 b3 b4 81);have o2:=q1.alloc (Ez b0 b1 b2 b3 b4 81);obtain⟨y0,y1,y2,y3,y4,y5⟩:=K7 f2;have eJ:=Q3 f2;have aH:=Q3 o2;clear f2 o2 q1;go_wp2_with fail;refine(U8 b1 b2 i _ Hs.out.1 Hs.out.2).mono ?_;rintro e X3 ⟨rfl,q3⟩;rw[cG.out];obtain⟨gb,bD⟩:∃ g,X1.heap.size=g:=⟨_,rfl⟩
 have bU:=Q3 (aH.out.trans q3);have gL:=Q3 (q3.heap eJ.out z0);rw[bD] at gL;(try rw[bD]);clear bD q3 y0 y1 y2 y3 y4 y5 eJ aH;go_wp2;go_ret;exact⟨rfl,bU.out⟩
theorem j1c (hR:cq w rb 0=some (Pq (s 0))) (a i v:Int) {b0 b1 b2 b3 b4 aK:Int} {ok:Bool} (hB:∀ X,Out 0 0 w X->Kz 123 #[Pq (s 0),Iz a] X fun e w'=>e=.returned (.tuple #[Wz b0 b1 b2 b3 b4,.bool ok])/\Out 0 0 X w') (hs1:-9223372036854775808<=b2) (eL:b2<=9223372036854775807) (aX:J6 b1 b2 i=aK) (eW:ok=true) (h0:2<=aK) (v1:-9223372036854775808<=v) (v2:v<=9223372036854775807) {kx nx:Int} (fJ:v % 8+1=kx) (dC:v / 8=nx) (hv:Q8 kx nx=false):Kz 68 #[Pq rb,Iz a,Iz i,Iz v] w fun e w'=>e=.returned (.bool false)/\Out 0 0 w w':=by
 subst eW;have jQ:(aK == 0)=false:=by simp;omega
 have iR:(aK == 1)=false:=by simp;omega
 have hU:=Q3 (fun W=>B8 v W v1 v2);rw[fJ,dC] at hU;have Hk:=Q3 (And.intro fJ dC);clear v1 v2 fJ dC;have HB:=Q3 hB;have HR:=Q3 hR;have Hs:=Q3 (And.intro hs1 eL);have cG:=Q3 aX;have c9:=hR;clear hB hs1 eL aX hR;go_enter Tryz.func68,Tryz.ntmps68
 go_wp2_with fail;refine(HB.out _ (Out.refl _ _ _)).mono ?_;rintro e X1 ⟨rfl,q1⟩;clear c9;have f2:=heap_alloc_new X1 (Ez b0 b1 b2 b3 b4 81);have o2:=q1.alloc (Ez b0 b1 b2 b3 b4 81);obtain⟨y0,y1,y2,y3,y4,y5⟩:=K7 f2;have eJ:=Q3 f2;have aH:=Q3 o2;clear f2 o2 q1;go_wp2_with fail;refine(U8 b1 b2 i _ Hs.out.1 Hs.out.2).mono ?_;rintro e X3 ⟨rfl,q3⟩;rw[cG.out];obtain⟨gb,bD⟩:∃ g,X1.heap.size=g:=⟨_,rfl⟩
 have bU:=Q3 (aH.out.trans q3);have gL:=Q3 (q3.heap eJ.out z0);rw[bD] at gL;(try rw[bD]);clear bD q3 y0 y1 y2 y3 y4 y5 eJ aH;go_wp2_with fail;refine(hU.out _).mono ?_;rintro e X5 ⟨rfl,q5⟩;rw[hv];have bL:=Q3 (bU.out.trans (K8 q5));clear q5;go_wp2;go_ret;exact⟨rfl,bL.out.alloc _⟩
theorem z3v (hR:cq w rb 0=some (Pq (s 0))) (a i v:Int) {b0 b1 b2 b3 b4 aK:Int} {ok:Bool} (hB:∀ X,Out 0 0 w X->Kz 123 #[Pq (s 0),Iz a] X fun e w'=>e=.returned (.tuple #[Wz b0 b1 b2 b3 b4,.bool ok])/\Out 0 0 X w') (hs1:-9223372036854775808<=b2) (eL:b2<=9223372036854775807) (aX:J6 b1 b2 i=aK) (eW:ok=true) (h0:2<=aK) (v1:-9223372036854775808<=v) (v2:v<=9223372036854775807) {kx nx:Int} (fJ:v % 8+1=kx) (dC:v / 8=nx) (hv:Q8 kx nx=true) (h5:aK<=5) {pl:Bool} (hPl:∀ X,Out 0 0 w X->Kz 125 #[Pq rb,Vz kx nx] X fun e w'=>e=.returned (.bool pl)/\Out 0 0 X w'):Kz 68 #[Pq rb,Iz a,Iz i,Iz v] w fun e w'=>e=.returned (.bool pl)/\Out 0 0 w w':=by
 subst eW;have Hv:=Q3 hv;have HPl:=Q3 hPl;clear hPl hv;have jQ:(aK == 0)=false:=by simp;omega
 have iR:(aK == 1)=false:=by simp;omega
 have hU:=Q3 (fun W=>B8 v W v1 v2);rw[fJ,dC] at hU;have Hk:=Q3 (And.intro fJ dC);clear v1 v2 fJ dC;have HB:=Q3 hB;have HR:=Q3 hR;have Hs:=Q3 (And.intro hs1 eL);have cG:=Q3 aX;have c9:=hR;clear hB hs1 eL aX hR;go_enter Tryz.func68,Tryz.ntmps68
 go_wp2_with fail;refine(HB.out _ (Out.refl _ _ _)).mono ?_;rintro e X1 ⟨rfl,q1⟩;clear c9;have f2:=heap_alloc_new X1 (Ez b0 b1 b2 b3 b4 81);have o2:=q1.alloc (Ez b0 b1 b2 b3 b4 81);obtain⟨y0,y1,y2,y3,y4,y5⟩:=K7 f2;have eJ:=Q3 f2;have aH:=Q3 o2;clear f2 o2 q1;go_wp2_with fail;refine(U8 b1 b2 i _ Hs.out.1 Hs.out.2).mono ?_;rintro e X3 ⟨rfl,q3⟩;rw[cG.out];obtain⟨gb,bD⟩:∃ g,X1.heap.size=g:=⟨_,rfl⟩
 have bU:=Q3 (aH.out.trans q3);have gL:=Q3 (q3.heap eJ.out z0);rw[bD] at gL;(try rw[bD]);clear bD q3 y0 y1 y2 y3 y4 y5 eJ aH;go_wp2_with fail;refine(hU.out _).mono ?_;rintro e X5 ⟨rfl,q5⟩;rw[Hv.out,show z0t kx nx=kx from by unfold z0t;rw[if_pos Hv.out],show z0u kx nx=nx from by unfold z0u;rw[if_pos Hv.out]];have o5:=K8 q5;have f6:=heap_alloc_new X5 (Dz kx nx 32);have o6:=o5.alloc (Dz kx nx 32);have cJ:=Q3 (bU.out.trans o6);have iA:=Q3 (o6.heap gL.out z0);have eS:=Q3 f6;obtain⟨x0,x1,x2,x3⟩:=Q5 f6;clear q5 o5 f6 o6 bU gL;go_wp2_with fail;refine(HPl.out _ cJ.out).mono ?_;rintro e X7 ⟨rfl,q7⟩;have HO7:=Q3 (cJ.out.trans q7);clear q7;go_wp2;go_ret;exact⟨rfl,HO7.out⟩
theorem q1r (hR:cq w rb 0=some (Pq (s 0))) (a i v:Int) {b0 b1 b2 b3 b4 aK:Int} {ok:Bool} (hB:∀ X,Out 0 0 w X->Kz 123 #[Pq (s 0),Iz a] X fun e w'=>e=.returned (.tuple #[Wz b0 b1 b2 b3 b4,.bool ok])/\Out 0 0 X w') (hs1:-9223372036854775808<=b2) (eL:b2<=9223372036854775807) (aX:J6 b1 b2 i=aK) (eW:ok=true) (h0:6<=aK) (v1:-9223372036854775808<=v) (v2:v<=9223372036854775807) {kx nx:Int} (fJ:v % 8+1=kx) (dC:v / 8=nx) (hv:Q8 kx nx=true) {d0 d1 d2 d3 d4:Int} {ok2:Bool} (iT:∀ X,Out 0 0 w X->Kz 123 #[Pq (s 0),Iz nx] X fun e w'=>e=.returned (.tuple #[Wz d0 d1 d2 d3 d4,.bool ok2])/\Out 0 0 X w') (hk:kx ≠ 2):Kz 68 #[Pq rb,Iz a,Iz i,Iz v] w fun e w'=>e=.returned (.bool (v == 2))/\Out 0 0 w w':=by
 have k2:(kx != 2)=true:=by simpa using hk
 clear hk;subst eW;have Hv:=Q3 hv;have jN:=Q3 iT;clear hv iT;have jQ:(aK == 0)=false:=by simp;omega
 have iR:(aK == 1)=false:=by simp;omega
 have hU:=Q3 (fun W=>B8 v W v1 v2);rw[fJ,dC] at hU;have Hk:=Q3 (And.intro fJ dC);clear v1 v2 fJ dC;have hr5:(5:Int)<aK:=by omega
 have HB:=Q3 hB;have HR:=Q3 hR;have Hs:=Q3 (And.intro hs1 eL);have cG:=Q3 aX;have c9:=hR;clear hB hs1 eL aX hR;go_enter Tryz.func68,Tryz.ntmps68
 go_wp2_with fail;refine(HB.out _ (Out.refl _ _ _)).mono ?_;rintro e X1 ⟨rfl,q1⟩;clear c9;have f2:=heap_alloc_new X1 (Ez b0 b1 b2 b3 b4 81);have o2:=q1.alloc (Ez b0 b1 b2 b3 b4 81);obtain⟨y0,y1,y2,y3,y4,y5⟩:=K7 f2;have eJ:=Q3 f2;have aH:=Q3 o2;clear f2 o2 q1;go_wp2_with fail;refine(U8 b1 b2 i _ Hs.out.1 Hs.out.2).mono ?_;rintro e X3 ⟨rfl,q3⟩;rw[cG.out];obtain⟨gb,bD⟩:∃ g,X1.heap.size=g:=⟨_,rfl⟩
 have bU:=Q3 (aH.out.trans q3);have gL:=Q3 (q3.heap eJ.out z0);rw[bD] at gL;(try rw[bD]);clear bD q3 y0 y1 y2 y3 y4 y5 eJ aH;go_wp2_with fail;refine(hU.out _).mono ?_;rintro e X5 ⟨rfl,q5⟩;rw[Hv.out,show z0t kx nx=kx from by unfold z0t;rw[if_pos Hv.out],show z0u kx nx=nx from by unfold z0u;rw[if_pos Hv.out]];have o5:=K8 q5;have f6:=heap_alloc_new X5 (Dz kx nx 32);have o6:=o5.alloc (Dz kx nx 32);have cJ:=Q3 (bU.out.trans o6);have iA:=Q3 (o6.heap gL.out z0);have eS:=Q3 f6;obtain⟨x0,x1,x2,x3⟩:=Q5 f6;clear q5 o5 f6 o6 bU gL;have c9:=cJ.out.cell HR.out z0;go_wp2_with fail;obtain⟨V6,jE⟩:∃ V,X5.alloc (Dz kx nx 32)=V:=⟨_,rfl⟩
 obtain⟨gx,jI⟩:∃ g,X5.heap.size=g:=⟨_,rfl⟩
 rw[jE] at cJ iA eS x0 x1 c9 ⊢;rw[jI] at eS x0 x1;(try rw[jI]);clear jE jI x2 x3;have aI:gx<V6.heap.size/\rb<V6.heap.size:=⟨Q7 eS.out,Y4 c9⟩
 have HB:Hid (∀ X,Out 0 0 V6 X->_):=fun X o=>jN.out X (cJ.out.trans o)
 refine wp_region_held_drew (S:=fun w'=>cq w' rb 0=some (Pq (s 0))/\cq w' gx 1=some (Iz nx)) (by kernel_rfl) ?hS61 (fun aB=>?rest61)
 case hS61=>exact⟨c9,x1⟩
 obtain⟨Z8,hZ⟩:∃ Z,V6.drew=Z:=⟨_,rfl⟩
 have O:Out 0 0 V6 Z8:=by rw[<-hZ];exact(Out.refl 0 0 _).drew
 rw[hZ] at aB ⊢;clear hZ;refine tk 0 ?_;refine tk 1 ?_;refine tk 2 ?_;refine tk 3 ?_;refine tk 4 ?_;refine tk 5 ?_;refine rd2 6 10 (fun KK hK=>?_) fun KK hK=>?_
 ·go_simp;refine(HB.out _ O).mono ?_;rintro e Z8C ⟨rfl,q1⟩;replace O:=O.trans q1;refine hK.out _ _ ⟨q1.cell aB.1 z0,q1.cell aB.2 z0⟩ fun aB=>?_
  clear q1 hK KK;refine tk 7 ?_;refine tk 8 ?_;refine tk 9 ?_;refine rd1 10 fun KK hK=>?_
  go_simp;obtain⟨gA,dO,aE,hY,qA,fA⟩:=alz Z8C (Ez 0 0 0 0 0 81)
  have aY:V6.heap.size<=gA:=by have:=O.size;omega
  (try rw[hY]);(try rw[aE]);clear hY aE;replace O:=O.trans qA;refine hK.out _ _ ⟨qA.cell aB.1 z0,qA.cell aB.2 z0⟩ fun aB=>?_
  clear qA hK KK;refine rd1 11 fun KK hK=>?_
  simp only[xa,xb,xc];obtain⟨y0,y1,y2,y3,y4,y5⟩:=K7 fA;go_simp;clear y0 y1 y2 y3 y4 y5;obtain⟨cP,hY,qS⟩:=s5z dO gA d0 d1 d2 d3 d4
  replace O:Out 0 0 V6 cP:=by rw[<-hY];exact O.zo5 (.inr aY) _ _ _ _ _
  have fB:cP.heap[gA]? = some (Ez d0 d1 d2 d3 d4 81):=by rw[<-hY];simp[World.setCell,Array.getElem?_modify,fA]
  (try rw[hY]);clear hY fA;refine hK.out _ _ ⟨qS.cell aB.1 (.inl (by have:=aI;omega)),qS.cell aB.2 (.inl (by have:=aI;omega))⟩ fun aB=>?_
  clear qS hK KK;refine tk 12 ?_;refine dn ?_;obtain⟨x0',oJ,_,_⟩:=Q5 (O.heap eS.out z0);obtain⟨y0,y1,y2,y3,y4,_⟩:=K7 fB;obtain⟨w0,w1,w2,w3,w4,_⟩:=K7 (O.heap iA.out z0);have HE:=Q3 (cJ.out.trans O);clear O fB aB aY;go_wp2;go_ret;exact⟨rfl,HE.out⟩
 ·go_simp;obtain⟨gA,Z8A,aE,hY,qA,fA⟩:=alz Z8 (Ez 0 0 0 0 0 81)
  have aY:V6.heap.size<=gA:=by have:=O.size;omega
  (try rw[hY]);(try rw[aE]);clear hY aE;replace O:=O.trans qA;refine hK.out _ _ ⟨qA.cell aB.1 z0,qA.cell aB.2 z0⟩ fun aB=>?_
  clear qA hK KK;refine rd1 6 fun KK hK=>?_
  go_simp;refine(HB.out _ O).mono ?_;rintro e Z8AC ⟨rfl,q1⟩;replace O:=O.trans q1;replace fA:=q1.heap fA z0;refine hK.out _ _ ⟨q1.cell aB.1 z0,q1.cell aB.2 z0⟩ fun aB=>?_
  clear q1 hK KK;refine tk 7 ?_;refine tk 8 ?_;refine tk 9 ?_;refine rd1 11 fun KK hK=>?_
  simp only[xa,xb,xc];obtain⟨y0,y1,y2,y3,y4,y5⟩:=K7 fA;go_simp;clear y0 y1 y2 y3 y4 y5;obtain⟨cQ,hY,qS⟩:=s5z Z8AC gA d0 d1 d2 d3 d4
  replace O:Out 0 0 V6 cQ:=by rw[<-hY];exact O.zo5 (.inr aY) _ _ _ _ _
  have fB:cQ.heap[gA]? = some (Ez d0 d1 d2 d3 d4 81):=by rw[<-hY];simp[World.setCell,Array.getElem?_modify,fA]
  (try rw[hY]);clear hY fA;refine hK.out _ _ ⟨qS.cell aB.1 (.inl (by have:=aI;omega)),qS.cell aB.2 (.inl (by have:=aI;omega))⟩ fun aB=>?_
  clear qS hK KK;refine tk 12 ?_;refine dn ?_;obtain⟨x0',oJ,_,_⟩:=Q5 (O.heap eS.out z0);obtain⟨y0,y1,y2,y3,y4,_⟩:=K7 fB;obtain⟨w0,w1,w2,w3,w4,_⟩:=K7 (O.heap iA.out z0);have HE:=Q3 (cJ.out.trans O);clear O fB aB aY;go_wp2;go_ret;exact⟨rfl,HE.out⟩
theorem q6n (hR:cq w rb 0=some (Pq (s 0))) (a i v:Int) {b0 b1 b2 b3 b4 aK:Int} {ok:Bool} (hB:∀ X,Out 0 0 w X->Kz 123 #[Pq (s 0),Iz a] X fun e w'=>e=.returned (.tuple #[Wz b0 b1 b2 b3 b4,.bool ok])/\Out 0 0 X w') (hs1:-9223372036854775808<=b2) (eL:b2<=9223372036854775807) (aX:J6 b1 b2 i=aK) (eW:ok=true) (h0:6<=aK) (v1:-9223372036854775808<=v) (v2:v<=9223372036854775807) {kx nx:Int} (fJ:v % 8+1=kx) (dC:v / 8=nx) (hv:Q8 kx nx=true) {d0 d1 d2 d3 d4:Int} {ok2:Bool} (iT:∀ X,Out 0 0 w X->Kz 123 #[Pq (s 0),Iz nx] X fun e w'=>e=.returned (.tuple #[Wz d0 d1 d2 d3 d4,.bool ok2])/\Out 0 0 X w') (hk:kx=2) (hok2:ok2=false):Kz 68 #[Pq rb,Iz a,Iz i,Iz v] w fun e w'=>e=.returned (.bool (v == 2))/\Out 0 0 w w':=by
 subst hk;subst hok2;subst eW;have Hv:=Q3 hv;have jN:=Q3 iT;clear hv iT;have jQ:(aK == 0)=false:=by simp;omega
 have iR:(aK == 1)=false:=by simp;omega
 have hU:=Q3 (fun W=>B8 v W v1 v2);rw[fJ,dC] at hU;have Hk:=Q3 (And.intro fJ dC);clear v1 v2 fJ dC;have hr5:(5:Int)<aK:=by omega
 have HB:=Q3 hB;have HR:=Q3 hR;have Hs:=Q3 (And.intro hs1 eL);have cG:=Q3 aX;have c9:=hR;clear hB hs1 eL aX hR;go_enter Tryz.func68,Tryz.ntmps68
 go_wp2_with fail;refine(HB.out _ (Out.refl _ _ _)).mono ?_;rintro e X1 ⟨rfl,q1⟩;clear c9;have f2:=heap_alloc_new X1 (Ez b0 b1 b2 b3 b4 81);have o2:=q1.alloc (Ez b0 b1 b2 b3 b4 81);obtain⟨y0,y1,y2,y3,y4,y5⟩:=K7 f2;have eJ:=Q3 f2;have aH:=Q3 o2;clear f2 o2 q1;go_wp2_with fail;refine(U8 b1 b2 i _ Hs.out.1 Hs.out.2).mono ?_;rintro e X3 ⟨rfl,q3⟩;rw[cG.out];obtain⟨gb,bD⟩:∃ g,X1.heap.size=g:=⟨_,rfl⟩
 have bU:=Q3 (aH.out.trans q3);have gL:=Q3 (q3.heap eJ.out z0);rw[bD] at gL;(try rw[bD]);clear bD q3 y0 y1 y2 y3 y4 y5 eJ aH;go_wp2_with fail;refine(hU.out _).mono ?_;rintro e X5 ⟨rfl,q5⟩;rw[Hv.out,show z0t 2 nx=2 from by unfold z0t;rw[if_pos Hv.out],show z0u 2 nx=nx from by unfold z0u;rw[if_pos Hv.out]];have o5:=K8 q5;have f6:=heap_alloc_new X5 (Dz 2 nx 32);have o6:=o5.alloc (Dz 2 nx 32);have cJ:=Q3 (bU.out.trans o6);have iA:=Q3 (o6.heap gL.out z0);have eS:=Q3 f6;obtain⟨x0,x1,x2,x3⟩:=Q5 f6;clear q5 o5 f6 o6 bU gL;have c9:=cJ.out.cell HR.out z0;go_wp2_with fail;obtain⟨V6,jE⟩:∃ V,X5.alloc (Dz 2 nx 32)=V:=⟨_,rfl⟩
 obtain⟨gx,jI⟩:∃ g,X5.heap.size=g:=⟨_,rfl⟩
 rw[jE] at cJ iA eS x0 x1 c9 ⊢;rw[jI] at eS x0 x1;(try rw[jI]);clear jE jI x2 x3;have aI:gx<V6.heap.size/\rb<V6.heap.size:=⟨Q7 eS.out,Y4 c9⟩
 have HB:Hid (∀ X,Out 0 0 V6 X->_):=fun X o=>jN.out X (cJ.out.trans o)
 refine wp_region_held_drew (S:=fun w'=>cq w' rb 0=some (Pq (s 0))/\cq w' gx 1=some (Iz nx)) (by kernel_rfl) ?hS82 (fun aB=>?rest82)
 case hS82=>exact⟨c9,x1⟩
 obtain⟨Z8,hZ⟩:∃ Z,V6.drew=Z:=⟨_,rfl⟩
 have O:Out 0 0 V6 Z8:=by rw[<-hZ];exact(Out.refl 0 0 _).drew
 rw[hZ] at aB ⊢;clear hZ;refine tk 0 ?_;refine tk 1 ?_;refine tk 2 ?_;refine tk 3 ?_;refine tk 4 ?_;refine tk 5 ?_;refine rd2 6 10 (fun KK hK=>?_) fun KK hK=>?_
 ·go_simp;refine(HB.out _ O).mono ?_;rintro e Z8C ⟨rfl,q1⟩;replace O:=O.trans q1;refine hK.out _ _ ⟨q1.cell aB.1 z0,q1.cell aB.2 z0⟩ fun aB=>?_
  clear q1 hK KK;refine tk 7 ?_;refine tk 8 ?_;refine tk 9 ?_;refine rd1 10 fun KK hK=>?_
  go_simp;obtain⟨gA,dO,aE,hY,qA,fA⟩:=alz Z8C (Ez 0 0 0 0 0 81)
  have aY:V6.heap.size<=gA:=by have:=O.size;omega
  (try rw[hY]);(try rw[aE]);clear hY aE;replace O:=O.trans qA;refine hK.out _ _ ⟨qA.cell aB.1 z0,qA.cell aB.2 z0⟩ fun aB=>?_
  clear qA hK KK;refine rd1 11 fun KK hK=>?_
  simp only[xa,xb,xc];obtain⟨y0,y1,y2,y3,y4,y5⟩:=K7 fA;go_simp;clear y0 y1 y2 y3 y4 y5;obtain⟨cP,hY,qS⟩:=s5z dO gA d0 d1 d2 d3 d4
  replace O:Out 0 0 V6 cP:=by rw[<-hY];exact O.zo5 (.inr aY) _ _ _ _ _
  have fB:cP.heap[gA]? = some (Ez d0 d1 d2 d3 d4 81):=by rw[<-hY];simp[World.setCell,Array.getElem?_modify,fA]
  (try rw[hY]);clear hY fA;refine hK.out _ _ ⟨qS.cell aB.1 (.inl (by have:=aI;omega)),qS.cell aB.2 (.inl (by have:=aI;omega))⟩ fun aB=>?_
  clear qS hK KK;refine tk 12 ?_;refine dn ?_;obtain⟨x0',oJ,_,_⟩:=Q5 (O.heap eS.out z0);obtain⟨y0,y1,y2,y3,y4,_⟩:=K7 fB;obtain⟨w0,w1,w2,w3,w4,_⟩:=K7 (O.heap iA.out z0);have HE:=Q3 (cJ.out.trans O);clear O fB aB aY;go_wp2;go_ret;exact⟨rfl,HE.out⟩
 ·go_simp;obtain⟨gA,Z8A,aE,hY,qA,fA⟩:=alz Z8 (Ez 0 0 0 0 0 81)
  have aY:V6.heap.size<=gA:=by have:=O.size;omega
  (try rw[hY]);(try rw[aE]);clear hY aE;replace O:=O.trans qA;refine hK.out _ _ ⟨qA.cell aB.1 z0,qA.cell aB.2 z0⟩ fun aB=>?_
  clear qA hK KK;refine rd1 6 fun KK hK=>?_
  go_simp;refine(HB.out _ O).mono ?_;rintro e Z8AC ⟨rfl,q1⟩;replace O:=O.trans q1;replace fA:=q1.heap fA z0;refine hK.out _ _ ⟨q1.cell aB.1 z0,q1.cell aB.2 z0⟩ fun aB=>?_
  clear q1 hK KK;refine tk 7 ?_;refine tk 8 ?_;refine tk 9 ?_;refine rd1 11 fun KK hK=>?_
  simp only[xa,xb,xc];obtain⟨y0,y1,y2,y3,y4,y5⟩:=K7 fA;go_simp;clear y0 y1 y2 y3 y4 y5;obtain⟨cQ,hY,qS⟩:=s5z Z8AC gA d0 d1 d2 d3 d4
  replace O:Out 0 0 V6 cQ:=by rw[<-hY];exact O.zo5 (.inr aY) _ _ _ _ _
  have fB:cQ.heap[gA]? = some (Ez d0 d1 d2 d3 d4 81):=by rw[<-hY];simp[World.setCell,Array.getElem?_modify,fA]
  (try rw[hY]);clear hY fA;refine hK.out _ _ ⟨qS.cell aB.1 (.inl (by have:=aI;omega)),qS.cell aB.2 (.inl (by have:=aI;omega))⟩ fun aB=>?_
  clear qS hK KK;refine tk 12 ?_;refine dn ?_;obtain⟨x0',oJ,_,_⟩:=Q5 (O.heap eS.out z0);obtain⟨y0,y1,y2,y3,y4,_⟩:=K7 fB;obtain⟨w0,w1,w2,w3,w4,_⟩:=K7 (O.heap iA.out z0);have HE:=Q3 (cJ.out.trans O);clear O fB aB aY;go_wp2;go_ret;exact⟨rfl,HE.out⟩
theorem j3w (hR:cq w rb 0=some (Pq (s 0))) (a i v:Int) {b0 b1 b2 b3 b4 aK:Int} {ok:Bool} (hB:∀ X,Out 0 0 w X->Kz 123 #[Pq (s 0),Iz a] X fun e w'=>e=.returned (.tuple #[Wz b0 b1 b2 b3 b4,.bool ok])/\Out 0 0 X w') (hs1:-9223372036854775808<=b2) (eL:b2<=9223372036854775807) (aX:J6 b1 b2 i=aK) (eW:ok=true) (h0:aK=6) (v1:-9223372036854775808<=v) (v2:v<=9223372036854775807) {kx nx:Int} (fJ:v % 8+1=kx) (dC:v / 8=nx) (hv:Q8 kx nx=true) {d0 d1 d2 d3 d4:Int} {ok2:Bool} (iT:∀ X,Out 0 0 w X->Kz 123 #[Pq (s 0),Iz nx] X fun e w'=>e=.returned (.tuple #[Wz d0 d1 d2 d3 d4,.bool ok2])/\Out 0 0 X w') (hk:kx=2) (hok2:ok2=true):Kz 68 #[Pq rb,Iz a,Iz i,Iz v] w fun e w'=>e=.returned (.bool (d1 == 11))/\Out 0 0 w w':=by
 subst h0;subst hk;subst hok2;subst eW;have Hv:=Q3 hv;have jN:=Q3 iT;clear hv iT;have jQ:((6:Int) == 0)=false:=by decide
 have iR:((6:Int) == 1)=false:=by decide
 have hU:=Q3 (fun W=>B8 v W v1 v2);rw[fJ,dC] at hU;have Hk:=Q3 (And.intro fJ dC);clear v1 v2 fJ dC;have hr5:(5:Int)<6:=by omega
 have HB:=Q3 hB;have HR:=Q3 hR;have Hs:=Q3 (And.intro hs1 eL);have cG:=Q3 aX;have c9:=hR;clear hB hs1 eL aX hR;go_enter Tryz.func68,Tryz.ntmps68
 go_wp2_with fail;refine(HB.out _ (Out.refl _ _ _)).mono ?_;rintro e X1 ⟨rfl,q1⟩;clear c9;have f2:=heap_alloc_new X1 (Ez b0 b1 b2 b3 b4 81);have o2:=q1.alloc (Ez b0 b1 b2 b3 b4 81);obtain⟨y0,y1,y2,y3,y4,y5⟩:=K7 f2;have eJ:=Q3 f2;have aH:=Q3 o2;clear f2 o2 q1;go_wp2_with fail;refine(U8 b1 b2 i _ Hs.out.1 Hs.out.2).mono ?_;rintro e X3 ⟨rfl,q3⟩;rw[cG.out];obtain⟨gb,bD⟩:∃ g,X1.heap.size=g:=⟨_,rfl⟩
 have bU:=Q3 (aH.out.trans q3);have gL:=Q3 (q3.heap eJ.out z0);rw[bD] at gL;(try rw[bD]);clear bD q3 y0 y1 y2 y3 y4 y5 eJ aH;go_wp2_with fail;refine(hU.out _).mono ?_;rintro e X5 ⟨rfl,q5⟩;rw[Hv.out,show z0t 2 nx=2 from by unfold z0t;rw[if_pos Hv.out],show z0u 2 nx=nx from by unfold z0u;rw[if_pos Hv.out]];have o5:=K8 q5;have f6:=heap_alloc_new X5 (Dz 2 nx 32);have o6:=o5.alloc (Dz 2 nx 32);have cJ:=Q3 (bU.out.trans o6);have iA:=Q3 (o6.heap gL.out z0);have eS:=Q3 f6;obtain⟨x0,x1,x2,x3⟩:=Q5 f6;clear q5 o5 f6 o6 bU gL;have c9:=cJ.out.cell HR.out z0;go_wp2_with fail;obtain⟨V6,jE⟩:∃ V,X5.alloc (Dz 2 nx 32)=V:=⟨_,rfl⟩
 obtain⟨gx,jI⟩:∃ g,X5.heap.size=g:=⟨_,rfl⟩
 rw[jE] at cJ iA eS x0 x1 c9 ⊢;rw[jI] at eS x0 x1;(try rw[jI]);clear jE jI x2 x3;have aI:gx<V6.heap.size/\rb<V6.heap.size:=⟨Q7 eS.out,Y4 c9⟩
 have HB:Hid (∀ X,Out 0 0 V6 X->_):=fun X o=>jN.out X (cJ.out.trans o)
 refine wp_region_held_drew (S:=fun w'=>cq w' rb 0=some (Pq (s 0))/\cq w' gx 1=some (Iz nx)) (by kernel_rfl) ?hS103 (fun aB=>?rest103)
 case hS103=>exact⟨c9,x1⟩
 obtain⟨Z8,hZ⟩:∃ Z,V6.drew=Z:=⟨_,rfl⟩
 have O:Out 0 0 V6 Z8:=by rw[<-hZ];exact(Out.refl 0 0 _).drew
 rw[hZ] at aB ⊢;clear hZ;refine tk 0 ?_;refine tk 1 ?_;refine tk 2 ?_;refine tk 3 ?_;refine tk 4 ?_;refine tk 5 ?_;refine rd2 6 10 (fun KK hK=>?_) fun KK hK=>?_
 ·go_simp;refine(HB.out _ O).mono ?_;rintro e Z8C ⟨rfl,q1⟩;replace O:=O.trans q1;refine hK.out _ _ ⟨q1.cell aB.1 z0,q1.cell aB.2 z0⟩ fun aB=>?_
  clear q1 hK KK;refine tk 7 ?_;refine tk 8 ?_;refine tk 9 ?_;refine rd1 10 fun KK hK=>?_
  go_simp;obtain⟨gA,dO,aE,hY,qA,fA⟩:=alz Z8C (Ez 0 0 0 0 0 81)
  have aY:V6.heap.size<=gA:=by have:=O.size;omega
  (try rw[hY]);(try rw[aE]);clear hY aE;replace O:=O.trans qA;refine hK.out _ _ ⟨qA.cell aB.1 z0,qA.cell aB.2 z0⟩ fun aB=>?_
  clear qA hK KK;refine rd1 11 fun KK hK=>?_
  simp only[xa,xb,xc];obtain⟨y0,y1,y2,y3,y4,y5⟩:=K7 fA;go_simp;clear y0 y1 y2 y3 y4 y5;obtain⟨cP,hY,qS⟩:=s5z dO gA d0 d1 d2 d3 d4
  replace O:Out 0 0 V6 cP:=by rw[<-hY];exact O.zo5 (.inr aY) _ _ _ _ _
  have fB:cP.heap[gA]? = some (Ez d0 d1 d2 d3 d4 81):=by rw[<-hY];simp[World.setCell,Array.getElem?_modify,fA]
  (try rw[hY]);clear hY fA;refine hK.out _ _ ⟨qS.cell aB.1 (.inl (by have:=aI;omega)),qS.cell aB.2 (.inl (by have:=aI;omega))⟩ fun aB=>?_
  clear qS hK KK;refine tk 12 ?_;refine dn ?_;obtain⟨x0',oJ,_,_⟩:=Q5 (O.heap eS.out z0);obtain⟨y0,y1,y2,y3,y4,_⟩:=K7 fB;obtain⟨w0,w1,w2,w3,w4,_⟩:=K7 (O.heap iA.out z0);have HE:=Q3 (cJ.out.trans O);clear O fB aB aY;go_wp2;go_ret;exact⟨rfl,HE.out⟩
 ·go_simp;obtain⟨gA,Z8A,aE,hY,qA,fA⟩:=alz Z8 (Ez 0 0 0 0 0 81)
  have aY:V6.heap.size<=gA:=by have:=O.size;omega
  (try rw[hY]);(try rw[aE]);clear hY aE;replace O:=O.trans qA;refine hK.out _ _ ⟨qA.cell aB.1 z0,qA.cell aB.2 z0⟩ fun aB=>?_
  clear qA hK KK;refine rd1 6 fun KK hK=>?_
  go_simp;refine(HB.out _ O).mono ?_;rintro e Z8AC ⟨rfl,q1⟩;replace O:=O.trans q1;replace fA:=q1.heap fA z0;refine hK.out _ _ ⟨q1.cell aB.1 z0,q1.cell aB.2 z0⟩ fun aB=>?_
  clear q1 hK KK;refine tk 7 ?_;refine tk 8 ?_;refine tk 9 ?_;refine rd1 11 fun KK hK=>?_
  simp only[xa,xb,xc];obtain⟨y0,y1,y2,y3,y4,y5⟩:=K7 fA;go_simp;clear y0 y1 y2 y3 y4 y5;obtain⟨cQ,hY,qS⟩:=s5z Z8AC gA d0 d1 d2 d3 d4
  replace O:Out 0 0 V6 cQ:=by rw[<-hY];exact O.zo5 (.inr aY) _ _ _ _ _
  have fB:cQ.heap[gA]? = some (Ez d0 d1 d2 d3 d4 81):=by rw[<-hY];simp[World.setCell,Array.getElem?_modify,fA]
  (try rw[hY]);clear hY fA;refine hK.out _ _ ⟨qS.cell aB.1 (.inl (by have:=aI;omega)),qS.cell aB.2 (.inl (by have:=aI;omega))⟩ fun aB=>?_
  clear qS hK KK;refine tk 12 ?_;refine dn ?_;obtain⟨x0',oJ,_,_⟩:=Q5 (O.heap eS.out z0);obtain⟨y0,y1,y2,y3,y4,_⟩:=K7 fB;obtain⟨w0,w1,w2,w3,w4,_⟩:=K7 (O.heap iA.out z0);have HE:=Q3 (cJ.out.trans O);clear O fB aB aY;go_wp2;go_ret;exact⟨rfl,HE.out⟩
theorem j3x (hR:cq w rb 0=some (Pq (s 0))) (a i v:Int) {b0 b1 b2 b3 b4 aK:Int} {ok:Bool} (hB:∀ X,Out 0 0 w X->Kz 123 #[Pq (s 0),Iz a] X fun e w'=>e=.returned (.tuple #[Wz b0 b1 b2 b3 b4,.bool ok])/\Out 0 0 X w') (hs1:-9223372036854775808<=b2) (eL:b2<=9223372036854775807) (aX:J6 b1 b2 i=aK) (eW:ok=true) (h0:aK=7) (v1:-9223372036854775808<=v) (v2:v<=9223372036854775807) {kx nx:Int} (fJ:v % 8+1=kx) (dC:v / 8=nx) (hv:Q8 kx nx=true) {d0 d1 d2 d3 d4:Int} {ok2:Bool} (iT:∀ X,Out 0 0 w X->Kz 123 #[Pq (s 0),Iz nx] X fun e w'=>e=.returned (.tuple #[Wz d0 d1 d2 d3 d4,.bool ok2])/\Out 0 0 X w') (hk:kx=2) (hok2:ok2=true):Kz 68 #[Pq rb,Iz a,Iz i,Iz v] w fun e w'=>e=.returned (.bool (d1 == 6 && d4 == b4))/\Out 0 0 w w':=by
 subst h0;subst hk;subst hok2;subst eW;have Hv:=Q3 hv;have jN:=Q3 iT;clear hv iT;have jQ:((7:Int) == 0)=false:=by decide
 have iR:((7:Int) == 1)=false:=by decide
 have hU:=Q3 (fun W=>B8 v W v1 v2);rw[fJ,dC] at hU;have Hk:=Q3 (And.intro fJ dC);clear v1 v2 fJ dC;have hr5:(5:Int)<7:=by omega
 have HB:=Q3 hB;have HR:=Q3 hR;have Hs:=Q3 (And.intro hs1 eL);have cG:=Q3 aX;have c9:=hR;clear hB hs1 eL aX hR;go_enter Tryz.func68,Tryz.ntmps68
 go_wp2_with fail;refine(HB.out _ (Out.refl _ _ _)).mono ?_;rintro e X1 ⟨rfl,q1⟩;clear c9;have f2:=heap_alloc_new X1 (Ez b0 b1 b2 b3 b4 81);have o2:=q1.alloc (Ez b0 b1 b2 b3 b4 81);obtain⟨y0,y1,y2,y3,y4,y5⟩:=K7 f2;have eJ:=Q3 f2;have aH:=Q3 o2;clear f2 o2 q1;go_wp2_with fail;refine(U8 b1 b2 i _ Hs.out.1 Hs.out.2).mono ?_;rintro e X3 ⟨rfl,q3⟩;rw[cG.out];obtain⟨gb,bD⟩:∃ g,X1.heap.size=g:=⟨_,rfl⟩
 have bU:=Q3 (aH.out.trans q3);have gL:=Q3 (q3.heap eJ.out z0);rw[bD] at gL;(try rw[bD]);clear bD q3 y0 y1 y2 y3 y4 y5 eJ aH;go_wp2_with fail;refine(hU.out _).mono ?_;rintro e X5 ⟨rfl,q5⟩;rw[Hv.out,show z0t 2 nx=2 from by unfold z0t;rw[if_pos Hv.out],show z0u 2 nx=nx from by unfold z0u;rw[if_pos Hv.out]];have o5:=K8 q5;have f6:=heap_alloc_new X5 (Dz 2 nx 32);have o6:=o5.alloc (Dz 2 nx 32);have cJ:=Q3 (bU.out.trans o6);have iA:=Q3 (o6.heap gL.out z0);have eS:=Q3 f6;obtain⟨x0,x1,x2,x3⟩:=Q5 f6;clear q5 o5 f6 o6 bU gL;have c9:=cJ.out.cell HR.out z0;go_wp2_with fail;obtain⟨V6,jE⟩:∃ V,X5.alloc (Dz 2 nx 32)=V:=⟨_,rfl⟩
 obtain⟨gx,jI⟩:∃ g,X5.heap.size=g:=⟨_,rfl⟩
 rw[jE] at cJ iA eS x0 x1 c9 ⊢;rw[jI] at eS x0 x1;(try rw[jI]);clear jE jI x2 x3;have aI:gx<V6.heap.size/\rb<V6.heap.size:=⟨Q7 eS.out,Y4 c9⟩
 have HB:Hid (∀ X,Out 0 0 V6 X->_):=fun X o=>jN.out X (cJ.out.trans o)
 refine wp_region_held_drew (S:=fun w'=>cq w' rb 0=some (Pq (s 0))/\cq w' gx 1=some (Iz nx)) (by kernel_rfl) ?hS124 (fun aB=>?rest124)
 case hS124=>exact⟨c9,x1⟩
 obtain⟨Z8,hZ⟩:∃ Z,V6.drew=Z:=⟨_,rfl⟩
 have O:Out 0 0 V6 Z8:=by rw[<-hZ];exact(Out.refl 0 0 _).drew
 rw[hZ] at aB ⊢;clear hZ;refine tk 0 ?_;refine tk 1 ?_;refine tk 2 ?_;refine tk 3 ?_;refine tk 4 ?_;refine tk 5 ?_;refine rd2 6 10 (fun KK hK=>?_) fun KK hK=>?_
 ·go_simp;refine(HB.out _ O).mono ?_;rintro e Z8C ⟨rfl,q1⟩;replace O:=O.trans q1;refine hK.out _ _ ⟨q1.cell aB.1 z0,q1.cell aB.2 z0⟩ fun aB=>?_
  clear q1 hK KK;refine tk 7 ?_;refine tk 8 ?_;refine tk 9 ?_;refine rd1 10 fun KK hK=>?_
  go_simp;obtain⟨gA,dO,aE,hY,qA,fA⟩:=alz Z8C (Ez 0 0 0 0 0 81)
  have aY:V6.heap.size<=gA:=by have:=O.size;omega
  (try rw[hY]);(try rw[aE]);clear hY aE;replace O:=O.trans qA;refine hK.out _ _ ⟨qA.cell aB.1 z0,qA.cell aB.2 z0⟩ fun aB=>?_
  clear qA hK KK;refine rd1 11 fun KK hK=>?_
  simp only[xa,xb,xc];obtain⟨y0,y1,y2,y3,y4,y5⟩:=K7 fA;go_simp;clear y0 y1 y2 y3 y4 y5;obtain⟨cP,hY,qS⟩:=s5z dO gA d0 d1 d2 d3 d4
  replace O:Out 0 0 V6 cP:=by rw[<-hY];exact O.zo5 (.inr aY) _ _ _ _ _
  have fB:cP.heap[gA]? = some (Ez d0 d1 d2 d3 d4 81):=by rw[<-hY];simp[World.setCell,Array.getElem?_modify,fA]
  (try rw[hY]);clear hY fA;refine hK.out _ _ ⟨qS.cell aB.1 (.inl (by have:=aI;omega)),qS.cell aB.2 (.inl (by have:=aI;omega))⟩ fun aB=>?_
  clear qS hK KK;refine tk 12 ?_;refine dn ?_;obtain⟨x0',oJ,_,_⟩:=Q5 (O.heap eS.out z0);obtain⟨y0,y1,y2,y3,y4,_⟩:=K7 fB;obtain⟨w0,w1,w2,w3,w4,_⟩:=K7 (O.heap iA.out z0);have HE:=Q3 (cJ.out.trans O);clear O fB aB aY;cases hq:(d1 == 6)
  ·go_wp2;go_ret;exact⟨by simp[hq],HE.out⟩
  ·go_wp2;go_ret;exact⟨by simp[hq],HE.out⟩
 ·go_simp;obtain⟨gA,Z8A,aE,hY,qA,fA⟩:=alz Z8 (Ez 0 0 0 0 0 81)
  have aY:V6.heap.size<=gA:=by have:=O.size;omega
  (try rw[hY]);(try rw[aE]);clear hY aE;replace O:=O.trans qA;refine hK.out _ _ ⟨qA.cell aB.1 z0,qA.cell aB.2 z0⟩ fun aB=>?_
  clear qA hK KK;refine rd1 6 fun KK hK=>?_
  go_simp;refine(HB.out _ O).mono ?_;rintro e Z8AC ⟨rfl,q1⟩;replace O:=O.trans q1;replace fA:=q1.heap fA z0;refine hK.out _ _ ⟨q1.cell aB.1 z0,q1.cell aB.2 z0⟩ fun aB=>?_
  clear q1 hK KK;refine tk 7 ?_;refine tk 8 ?_;refine tk 9 ?_;refine rd1 11 fun KK hK=>?_
  simp only[xa,xb,xc];obtain⟨y0,y1,y2,y3,y4,y5⟩:=K7 fA;go_simp;clear y0 y1 y2 y3 y4 y5;obtain⟨cQ,hY,qS⟩:=s5z Z8AC gA d0 d1 d2 d3 d4
  replace O:Out 0 0 V6 cQ:=by rw[<-hY];exact O.zo5 (.inr aY) _ _ _ _ _
  have fB:cQ.heap[gA]? = some (Ez d0 d1 d2 d3 d4 81):=by rw[<-hY];simp[World.setCell,Array.getElem?_modify,fA]
  (try rw[hY]);clear hY fA;refine hK.out _ _ ⟨qS.cell aB.1 (.inl (by have:=aI;omega)),qS.cell aB.2 (.inl (by have:=aI;omega))⟩ fun aB=>?_
  clear qS hK KK;refine tk 12 ?_;refine dn ?_;obtain⟨x0',oJ,_,_⟩:=Q5 (O.heap eS.out z0);obtain⟨y0,y1,y2,y3,y4,_⟩:=K7 fB;obtain⟨w0,w1,w2,w3,w4,_⟩:=K7 (O.heap iA.out z0);have HE:=Q3 (cJ.out.trans O);clear O fB aB aY;cases hq:(d1 == 6)
  ·go_wp2;go_ret;exact⟨by simp[hq],HE.out⟩
  ·go_wp2;go_ret;exact⟨by simp[hq],HE.out⟩
theorem j3y (hR:cq w rb 0=some (Pq (s 0))) (a i v:Int) {b0 b1 b2 b3 b4 aK:Int} {ok:Bool} (hB:∀ X,Out 0 0 w X->Kz 123 #[Pq (s 0),Iz a] X fun e w'=>e=.returned (.tuple #[Wz b0 b1 b2 b3 b4,.bool ok])/\Out 0 0 X w') (hs1:-9223372036854775808<=b2) (eL:b2<=9223372036854775807) (aX:J6 b1 b2 i=aK) (eW:ok=true) (h0:aK=8) (v1:-9223372036854775808<=v) (v2:v<=9223372036854775807) {kx nx:Int} (fJ:v % 8+1=kx) (dC:v / 8=nx) (hv:Q8 kx nx=true) {d0 d1 d2 d3 d4:Int} {ok2:Bool} (iT:∀ X,Out 0 0 w X->Kz 123 #[Pq (s 0),Iz nx] X fun e w'=>e=.returned (.tuple #[Wz d0 d1 d2 d3 d4,.bool ok2])/\Out 0 0 X w') (hk:kx=2) (hok2:ok2=true):Kz 68 #[Pq rb,Iz a,Iz i,Iz v] w fun e w'=>e=.returned (.bool (d1 == 12 && d4 == b3))/\Out 0 0 w w':=by
 subst h0;subst hk;subst hok2;subst eW;have Hv:=Q3 hv;have jN:=Q3 iT;clear hv iT;have jQ:((8:Int) == 0)=false:=by decide
 have iR:((8:Int) == 1)=false:=by decide
 have hU:=Q3 (fun W=>B8 v W v1 v2);rw[fJ,dC] at hU;have Hk:=Q3 (And.intro fJ dC);clear v1 v2 fJ dC;have hr5:(5:Int)<8:=by omega
 have HB:=Q3 hB;have HR:=Q3 hR;have Hs:=Q3 (And.intro hs1 eL);have cG:=Q3 aX;have c9:=hR;clear hB hs1 eL aX hR;go_enter Tryz.func68,Tryz.ntmps68
 go_wp2_with fail;refine(HB.out _ (Out.refl _ _ _)).mono ?_;rintro e X1 ⟨rfl,q1⟩;clear c9;have f2:=heap_alloc_new X1 (Ez b0 b1 b2 b3 b4 81);have o2:=q1.alloc (Ez b0 b1 b2 b3 b4 81);obtain⟨y0,y1,y2,y3,y4,y5⟩:=K7 f2;have eJ:=Q3 f2;have aH:=Q3 o2;clear f2 o2 q1;go_wp2_with fail;refine(U8 b1 b2 i _ Hs.out.1 Hs.out.2).mono ?_;rintro e X3 ⟨rfl,q3⟩;rw[cG.out];obtain⟨gb,bD⟩:∃ g,X1.heap.size=g:=⟨_,rfl⟩
 have bU:=Q3 (aH.out.trans q3);have gL:=Q3 (q3.heap eJ.out z0);rw[bD] at gL;(try rw[bD]);clear bD q3 y0 y1 y2 y3 y4 y5 eJ aH;go_wp2_with fail;refine(hU.out _).mono ?_;rintro e X5 ⟨rfl,q5⟩;rw[Hv.out,show z0t 2 nx=2 from by unfold z0t;rw[if_pos Hv.out],show z0u 2 nx=nx from by unfold z0u;rw[if_pos Hv.out]];have o5:=K8 q5;have f6:=heap_alloc_new X5 (Dz 2 nx 32);have o6:=o5.alloc (Dz 2 nx 32);have cJ:=Q3 (bU.out.trans o6);have iA:=Q3 (o6.heap gL.out z0);have eS:=Q3 f6;obtain⟨x0,x1,x2,x3⟩:=Q5 f6;clear q5 o5 f6 o6 bU gL;have c9:=cJ.out.cell HR.out z0;go_wp2_with fail;obtain⟨V6,jE⟩:∃ V,X5.alloc (Dz 2 nx 32)=V:=⟨_,rfl⟩
 obtain⟨gx,jI⟩:∃ g,X5.heap.size=g:=⟨_,rfl⟩
 rw[jE] at cJ iA eS x0 x1 c9 ⊢;rw[jI] at eS x0 x1;(try rw[jI]);clear jE jI x2 x3;have aI:gx<V6.heap.size/\rb<V6.heap.size:=⟨Q7 eS.out,Y4 c9⟩
 have HB:Hid (∀ X,Out 0 0 V6 X->_):=fun X o=>jN.out X (cJ.out.trans o)
 refine wp_region_held_drew (S:=fun w'=>cq w' rb 0=some (Pq (s 0))/\cq w' gx 1=some (Iz nx)) (by kernel_rfl) ?hS145 (fun aB=>?rest145)
 case hS145=>exact⟨c9,x1⟩
 obtain⟨Z8,hZ⟩:∃ Z,V6.drew=Z:=⟨_,rfl⟩
 have O:Out 0 0 V6 Z8:=by rw[<-hZ];exact(Out.refl 0 0 _).drew
 rw[hZ] at aB ⊢;clear hZ;refine tk 0 ?_;refine tk 1 ?_;refine tk 2 ?_;refine tk 3 ?_;refine tk 4 ?_;refine tk 5 ?_;refine rd2 6 10 (fun KK hK=>?_) fun KK hK=>?_
 ·go_simp;refine(HB.out _ O).mono ?_;rintro e Z8C ⟨rfl,q1⟩;replace O:=O.trans q1;refine hK.out _ _ ⟨q1.cell aB.1 z0,q1.cell aB.2 z0⟩ fun aB=>?_
  clear q1 hK KK;refine tk 7 ?_;refine tk 8 ?_;refine tk 9 ?_;refine rd1 10 fun KK hK=>?_
  go_simp;obtain⟨gA,dO,aE,hY,qA,fA⟩:=alz Z8C (Ez 0 0 0 0 0 81)
  have aY:V6.heap.size<=gA:=by have:=O.size;omega
  (try rw[hY]);(try rw[aE]);clear hY aE;replace O:=O.trans qA;refine hK.out _ _ ⟨qA.cell aB.1 z0,qA.cell aB.2 z0⟩ fun aB=>?_
  clear qA hK KK;refine rd1 11 fun KK hK=>?_
  simp only[xa,xb,xc];obtain⟨y0,y1,y2,y3,y4,y5⟩:=K7 fA;go_simp;clear y0 y1 y2 y3 y4 y5;obtain⟨cP,hY,qS⟩:=s5z dO gA d0 d1 d2 d3 d4
  replace O:Out 0 0 V6 cP:=by rw[<-hY];exact O.zo5 (.inr aY) _ _ _ _ _
  have fB:cP.heap[gA]? = some (Ez d0 d1 d2 d3 d4 81):=by rw[<-hY];simp[World.setCell,Array.getElem?_modify,fA]
  (try rw[hY]);clear hY fA;refine hK.out _ _ ⟨qS.cell aB.1 (.inl (by have:=aI;omega)),qS.cell aB.2 (.inl (by have:=aI;omega))⟩ fun aB=>?_
  clear qS hK KK;refine tk 12 ?_;refine dn ?_;obtain⟨x0',oJ,_,_⟩:=Q5 (O.heap eS.out z0);obtain⟨y0,y1,y2,y3,y4,_⟩:=K7 fB;obtain⟨w0,w1,w2,w3,w4,_⟩:=K7 (O.heap iA.out z0);have HE:=Q3 (cJ.out.trans O);clear O fB aB aY;cases hq:(d1 == 12)
  ·go_wp2;go_ret;exact⟨by simp[hq],HE.out⟩
  ·go_wp2;go_ret;exact⟨by simp[hq],HE.out⟩
 ·go_simp;obtain⟨gA,Z8A,aE,hY,qA,fA⟩:=alz Z8 (Ez 0 0 0 0 0 81)
  have aY:V6.heap.size<=gA:=by have:=O.size;omega
  (try rw[hY]);(try rw[aE]);clear hY aE;replace O:=O.trans qA;refine hK.out _ _ ⟨qA.cell aB.1 z0,qA.cell aB.2 z0⟩ fun aB=>?_
  clear qA hK KK;refine rd1 6 fun KK hK=>?_
  go_simp;refine(HB.out _ O).mono ?_;rintro e Z8AC ⟨rfl,q1⟩;replace O:=O.trans q1;replace fA:=q1.heap fA z0;refine hK.out _ _ ⟨q1.cell aB.1 z0,q1.cell aB.2 z0⟩ fun aB=>?_
  clear q1 hK KK;refine tk 7 ?_;refine tk 8 ?_;refine tk 9 ?_;refine rd1 11 fun KK hK=>?_
  simp only[xa,xb,xc];obtain⟨y0,y1,y2,y3,y4,y5⟩:=K7 fA;go_simp;clear y0 y1 y2 y3 y4 y5;obtain⟨cQ,hY,qS⟩:=s5z Z8AC gA d0 d1 d2 d3 d4
  replace O:Out 0 0 V6 cQ:=by rw[<-hY];exact O.zo5 (.inr aY) _ _ _ _ _
  have fB:cQ.heap[gA]? = some (Ez d0 d1 d2 d3 d4 81):=by rw[<-hY];simp[World.setCell,Array.getElem?_modify,fA]
  (try rw[hY]);clear hY fA;refine hK.out _ _ ⟨qS.cell aB.1 (.inl (by have:=aI;omega)),qS.cell aB.2 (.inl (by have:=aI;omega))⟩ fun aB=>?_
  clear qS hK KK;refine tk 12 ?_;refine dn ?_;obtain⟨x0',oJ,_,_⟩:=Q5 (O.heap eS.out z0);obtain⟨y0,y1,y2,y3,y4,_⟩:=K7 fB;obtain⟨w0,w1,w2,w3,w4,_⟩:=K7 (O.heap iA.out z0);have HE:=Q3 (cJ.out.trans O);clear O fB aB aY;cases hq:(d1 == 12)
  ·go_wp2;go_ret;exact⟨by simp[hq],HE.out⟩
  ·go_wp2;go_ret;exact⟨by simp[hq],HE.out⟩
theorem j3z (hR:cq w rb 0=some (Pq (s 0))) (a i v:Int) {b0 b1 b2 b3 b4 aK:Int} {ok:Bool} (hB:∀ X,Out 0 0 w X->Kz 123 #[Pq (s 0),Iz a] X fun e w'=>e=.returned (.tuple #[Wz b0 b1 b2 b3 b4,.bool ok])/\Out 0 0 X w') (hs1:-9223372036854775808<=b2) (eL:b2<=9223372036854775807) (aX:J6 b1 b2 i=aK) (eW:ok=true) (h0:aK=9) (v1:-9223372036854775808<=v) (v2:v<=9223372036854775807) {kx nx:Int} (fJ:v % 8+1=kx) (dC:v / 8=nx) (hv:Q8 kx nx=true) {d0 d1 d2 d3 d4:Int} {ok2:Bool} (iT:∀ X,Out 0 0 w X->Kz 123 #[Pq (s 0),Iz nx] X fun e w'=>e=.returned (.tuple #[Wz d0 d1 d2 d3 d4,.bool ok2])/\Out 0 0 X w') (hk:kx=2) (hok2:ok2=true):Kz 68 #[Pq rb,Iz a,Iz i,Iz v] w fun e w'=>e=.returned (.bool (d1 == 13 && d4 == b4 && (b1 == 12 || decide (a<d0))))/\Out 0 0 w w':=by
 subst h0;subst hk;subst hok2;subst eW;have Hv:=Q3 hv;have jN:=Q3 iT;clear hv iT;have jQ:((9:Int) == 0)=false:=by decide
 have iR:((9:Int) == 1)=false:=by decide
 have hU:=Q3 (fun W=>B8 v W v1 v2);rw[fJ,dC] at hU;have Hk:=Q3 (And.intro fJ dC);clear v1 v2 fJ dC;have hr5:(5:Int)<9:=by omega
 have HB:=Q3 hB;have HR:=Q3 hR;have Hs:=Q3 (And.intro hs1 eL);have cG:=Q3 aX;have c9:=hR;clear hB hs1 eL aX hR;go_enter Tryz.func68,Tryz.ntmps68
 go_wp2_with fail;refine(HB.out _ (Out.refl _ _ _)).mono ?_;rintro e X1 ⟨rfl,q1⟩;clear c9;have f2:=heap_alloc_new X1 (Ez b0 b1 b2 b3 b4 81);have o2:=q1.alloc (Ez b0 b1 b2 b3 b4 81);obtain⟨y0,y1,y2,y3,y4,y5⟩:=K7 f2;have eJ:=Q3 f2;have aH:=Q3 o2;clear f2 o2 q1;go_wp2_with fail;refine(U8 b1 b2 i _ Hs.out.1 Hs.out.2).mono ?_;rintro e X3 ⟨rfl,q3⟩;rw[cG.out];obtain⟨gb,bD⟩:∃ g,X1.heap.size=g:=⟨_,rfl⟩
 have bU:=Q3 (aH.out.trans q3);have gL:=Q3 (q3.heap eJ.out z0);rw[bD] at gL;(try rw[bD]);clear bD q3 y0 y1 y2 y3 y4 y5 eJ aH;go_wp2_with fail;refine(hU.out _).mono ?_;rintro e X5 ⟨rfl,q5⟩;rw[Hv.out,show z0t 2 nx=2 from by unfold z0t;rw[if_pos Hv.out],show z0u 2 nx=nx from by unfold z0u;rw[if_pos Hv.out]];have o5:=K8 q5;have f6:=heap_alloc_new X5 (Dz 2 nx 32);have o6:=o5.alloc (Dz 2 nx 32);have cJ:=Q3 (bU.out.trans o6);have iA:=Q3 (o6.heap gL.out z0);have eS:=Q3 f6;obtain⟨x0,x1,x2,x3⟩:=Q5 f6;clear q5 o5 f6 o6 bU gL;have c9:=cJ.out.cell HR.out z0;go_wp2_with fail;obtain⟨V6,jE⟩:∃ V,X5.alloc (Dz 2 nx 32)=V:=⟨_,rfl⟩
 obtain⟨gx,jI⟩:∃ g,X5.heap.size=g:=⟨_,rfl⟩
 rw[jE] at cJ iA eS x0 x1 c9 ⊢;rw[jI] at eS x0 x1;(try rw[jI]);clear jE jI x2 x3;have aI:gx<V6.heap.size/\rb<V6.heap.size:=⟨Q7 eS.out,Y4 c9⟩
 have HB:Hid (∀ X,Out 0 0 V6 X->_):=fun X o=>jN.out X (cJ.out.trans o)
 refine wp_region_held_drew (S:=fun w'=>cq w' rb 0=some (Pq (s 0))/\cq w' gx 1=some (Iz nx)) (by kernel_rfl) ?hS166 (fun aB=>?rest166)
 case hS166=>exact⟨c9,x1⟩
 obtain⟨Z8,hZ⟩:∃ Z,V6.drew=Z:=⟨_,rfl⟩
 have O:Out 0 0 V6 Z8:=by rw[<-hZ];exact(Out.refl 0 0 _).drew
 rw[hZ] at aB ⊢;clear hZ;refine tk 0 ?_;refine tk 1 ?_;refine tk 2 ?_;refine tk 3 ?_;refine tk 4 ?_;refine tk 5 ?_;refine rd2 6 10 (fun KK hK=>?_) fun KK hK=>?_
 ·go_simp;refine(HB.out _ O).mono ?_;rintro e Z8C ⟨rfl,q1⟩;replace O:=O.trans q1;refine hK.out _ _ ⟨q1.cell aB.1 z0,q1.cell aB.2 z0⟩ fun aB=>?_
  clear q1 hK KK;refine tk 7 ?_;refine tk 8 ?_;refine tk 9 ?_;refine rd1 10 fun KK hK=>?_
  go_simp;obtain⟨gA,dO,aE,hY,qA,fA⟩:=alz Z8C (Ez 0 0 0 0 0 81)
  have aY:V6.heap.size<=gA:=by have:=O.size;omega
  (try rw[hY]);(try rw[aE]);clear hY aE;replace O:=O.trans qA;refine hK.out _ _ ⟨qA.cell aB.1 z0,qA.cell aB.2 z0⟩ fun aB=>?_
  clear qA hK KK;refine rd1 11 fun KK hK=>?_
  simp only[xa,xb,xc];obtain⟨y0,y1,y2,y3,y4,y5⟩:=K7 fA;go_simp;clear y0 y1 y2 y3 y4 y5;obtain⟨cP,hY,qS⟩:=s5z dO gA d0 d1 d2 d3 d4
  replace O:Out 0 0 V6 cP:=by rw[<-hY];exact O.zo5 (.inr aY) _ _ _ _ _
  have fB:cP.heap[gA]? = some (Ez d0 d1 d2 d3 d4 81):=by rw[<-hY];simp[World.setCell,Array.getElem?_modify,fA]
  (try rw[hY]);clear hY fA;refine hK.out _ _ ⟨qS.cell aB.1 (.inl (by have:=aI;omega)),qS.cell aB.2 (.inl (by have:=aI;omega))⟩ fun aB=>?_
  clear qS hK KK;refine tk 12 ?_;refine dn ?_;obtain⟨x0',oJ,_,_⟩:=Q5 (O.heap eS.out z0);obtain⟨y0,y1,y2,y3,y4,_⟩:=K7 fB;obtain⟨w0,w1,w2,w3,w4,_⟩:=K7 (O.heap iA.out z0);have HE:=Q3 (cJ.out.trans O);clear O fB aB aY;cases hq:(d1 == 13)
  ·go_wp2;go_ret;exact⟨by simp[hq],HE.out⟩
  ·cases hq2:(d4 == b4)
   ·go_wp2;go_ret;exact⟨by simp[hq,hq2],HE.out⟩
   ·cases hq3:(b1 == 12)
    ·go_wp2;go_ret;exact⟨by simp[hq,hq2,hq3],HE.out⟩
    ·go_wp2;go_ret;exact⟨by simp[hq,hq2,hq3],HE.out⟩
 ·go_simp;obtain⟨gA,Z8A,aE,hY,qA,fA⟩:=alz Z8 (Ez 0 0 0 0 0 81)
  have aY:V6.heap.size<=gA:=by have:=O.size;omega
  (try rw[hY]);(try rw[aE]);clear hY aE;replace O:=O.trans qA;refine hK.out _ _ ⟨qA.cell aB.1 z0,qA.cell aB.2 z0⟩ fun aB=>?_
  clear qA hK KK;refine rd1 6 fun KK hK=>?_
  go_simp;refine(HB.out _ O).mono ?_;rintro e Z8AC ⟨rfl,q1⟩;replace O:=O.trans q1;replace fA:=q1.heap fA z0;refine hK.out _ _ ⟨q1.cell aB.1 z0,q1.cell aB.2 z0⟩ fun aB=>?_
  clear q1 hK KK;refine tk 7 ?_;refine tk 8 ?_;refine tk 9 ?_;refine rd1 11 fun KK hK=>?_
  simp only[xa,xb,xc];obtain⟨y0,y1,y2,y3,y4,y5⟩:=K7 fA;go_simp;clear y0 y1 y2 y3 y4 y5;obtain⟨cQ,hY,qS⟩:=s5z Z8AC gA d0 d1 d2 d3 d4
  replace O:Out 0 0 V6 cQ:=by rw[<-hY];exact O.zo5 (.inr aY) _ _ _ _ _
  have fB:cQ.heap[gA]? = some (Ez d0 d1 d2 d3 d4 81):=by rw[<-hY];simp[World.setCell,Array.getElem?_modify,fA]
  (try rw[hY]);clear hY fA;refine hK.out _ _ ⟨qS.cell aB.1 (.inl (by have:=aI;omega)),qS.cell aB.2 (.inl (by have:=aI;omega))⟩ fun aB=>?_
  clear qS hK KK;refine tk 12 ?_;refine dn ?_;obtain⟨x0',oJ,_,_⟩:=Q5 (O.heap eS.out z0);obtain⟨y0,y1,y2,y3,y4,_⟩:=K7 fB;obtain⟨w0,w1,w2,w3,w4,_⟩:=K7 (O.heap iA.out z0);have HE:=Q3 (cJ.out.trans O);clear O fB aB aY;cases hq:(d1 == 13)
  ·go_wp2;go_ret;exact⟨by simp[hq],HE.out⟩
  ·cases hq2:(d4 == b4)
   ·go_wp2;go_ret;exact⟨by simp[hq,hq2],HE.out⟩
   ·cases hq3:(b1 == 12)
    ·go_wp2;go_ret;exact⟨by simp[hq,hq2,hq3],HE.out⟩
    ·go_wp2;go_ret;exact⟨by simp[hq,hq2,hq3],HE.out⟩
end
end Go.Proofs.YtjgnogflgoihfaaGreatDoor
