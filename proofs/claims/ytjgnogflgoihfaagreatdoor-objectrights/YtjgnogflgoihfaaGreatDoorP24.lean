import Derived.Test.YtjgnogflgoihfaaGreatDoorP23
namespace Go.Proofs.YtjgnogflgoihfaaGreatDoor
open Go.RowKit
set_option linter.unusedVariables false
set_option maxRecDepth 100000
set_option maxHeartbeats 16000000
set_option linter.unusedSimpArgs false
theorem z7s (k:Int) (w:World):Kz 172 #[Iz k] w fun e w'=>e=.returned (.bool (x8c k))/\Out 0 0 w w':=by
 have h:(1<=k/\k<=10)\/k<1\/10<k:=by omega
 rcases h with ⟨h1,h2⟩ | h1 | h1
 all_goals
  go_enter Tryz.func172,Tryz.ntmps172
  go_wp2
  all_goals go_ret
  all_goals refine⟨B7 ?_,Out.refl _ _ _⟩
  all_goals (unfold x8c;simp;try omega)
section
variable {w:World} {rb:Nat} {s:Nat->Nat}
theorem q4j (hR:cq w rb 0=some (Pq (s 0))) (k m:Int) (hv:J2 k m=true) {c0 c1 c2 c3 c4:Int} {ok:Bool} (hB:∀ X,Out 0 0 w X->Kz 123 #[Pq (s 0),Iz m] X fun e w'=>e=.returned (.tuple #[Wz c0 c1 c2 c3 c4,.bool ok])/\Out 0 0 X w') (hk:k ≠ 2):Kz 125 #[Pq rb,Vz k m] w fun e w'=>e=.returned (.bool true)/\Out 0 0 w w':=by
 have k2:(k != 2)=true:=by simpa using hk
 clear hk;have fV:=Q3 (heap_alloc_new w (Dz k m 32));have aI:=Q3 ((Out.refl 0 0 w).alloc (Dz k m 32));obtain⟨gv,aR⟩:∃ g,w.heap.size=g:=⟨_,rfl⟩
 have bD:=Q3 aR;obtain⟨V2,aS⟩:∃ V,w.alloc (Dz k m 32)=V:=⟨_,rfl⟩
 rw[aS,aR] at fV;rw[aS] at aI;have gO:=aI.out.cell hR z0;obtain⟨u0,u1,u2,u3⟩:=Q5 fV.out;have aL:gv<V2.heap.size/\rb<V2.heap.size:=⟨Q8 fV.out,Y7 gO⟩
 have HB:Hid (∀ X,Out 0 0 V2 X->_):=fun X o=>hB X (aI.out.trans o)
 have Hv:=Q3 hv;clear hR hB hv;go_enter Tryz.func125,Tryz.ntmps125
 go_wp2_with fail;(try rw[aS]);(try rw[aR]);clear aS aR;refine wp_region_held_drew (S:=fun w'=>cq w' rb 0=some (Pq (s 0))/\cq w' gv 1=some (Iz m)) (by kernel_rfl) ?hS61 (fun aB=>?rest61)
 case hS61=>exact⟨gO,u1⟩
 obtain⟨Z1,hZ⟩:∃ Z,V2.drew=Z:=⟨_,rfl⟩
 have O:Out 0 0 V2 Z1:=by rw[<-hZ];exact(Out.refl 0 0 _).drew
 rw[hZ] at aB ⊢;clear hZ;refine tk 0 ?_;refine tk 1 ?_;refine tk 2 ?_;refine tk 3 ?_;refine tk 4 ?_;refine tk 5 ?_;refine rd2 6 10 (fun KK hK=>?_) fun KK hK=>?_
 ·simp only[xa,xb,xc];go_simp;refine(HB.out _ O).mono ?_;rintro e Z1C ⟨rfl,q1⟩;replace O:=O.trans q1;refine hK.out _ _ ⟨q1.cell aB.1 z0,q1.cell aB.2 z0⟩ fun aB=>?_
  clear q1 hK KK;refine tk 7 ?_;refine tk 8 ?_;refine tk 9 ?_;refine rd1 10 fun KK hK=>?_
  simp only[xa,xb,xc];go_simp;obtain⟨gA,aG⟩:∃ g,Z1C.heap.size=g:=⟨_,rfl⟩
  obtain⟨bX,hY⟩:∃ V,Z1C.alloc (Ez 0 0 0 0 0 81)=V:=⟨_,rfl⟩
  have qA:Out 0 0 Z1C bX:=by rw[<-hY];exact(Out.refl 0 0 _).alloc _
  have fA:bX.heap[gA]? = some (Ez 0 0 0 0 0 81):=by rw[<-hY,<-aG];exact heap_alloc_new _ _
  have bF:V2.heap.size<=gA:=by have:=O.size;omega
  (try rw[hY]);(try rw[aG]);clear hY aG;replace O:=O.trans qA;refine hK.out _ _ ⟨qA.cell aB.1 z0,qA.cell aB.2 z0⟩ fun aB=>?_
  clear qA hK KK;refine rd1 11 fun KK hK=>?_
  simp only[xa,xb,xc];obtain⟨y0,y1,y2,y3,y4,y5⟩:=W7 fA;go_simp;clear y0 y1 y2 y3 y4 y5;obtain⟨bL,hY⟩:∃ V,(((((bX.setCell ⟨gA,0,none⟩ (Iz c0)).setCell ⟨gA,1,none⟩ (Iz c1)).setCell ⟨gA,2,none⟩ (Iz c2)).setCell ⟨gA,3,none⟩ (Iz c3)).setCell ⟨gA,4,none⟩ (Iz c4))=V:=⟨_,rfl⟩
  have qS:Out gA (gA+1) bX bL:=by rw[<-hY];exact(Out.refl _ _ _).zo5 z1 _ _ _ _ _
  replace O:Out 0 0 V2 bL:=by rw[<-hY];exact O.zo5 (.inr bF) _ _ _ _ _
  have fB:bL.heap[gA]? = some (Ez c0 c1 c2 c3 c4 81):=by rw[<-hY];simp[World.setCell,Array.getElem?_modify,fA]
  (try rw[hY]);clear hY fA;refine hK.out _ _ ⟨qS.cell aB.1 (.inl (by have:=aL;omega)),qS.cell aB.2 (.inl (by have:=aL;omega))⟩ fun aB=>?_
  clear qS hK KK;refine tk 12 ?_;refine dn ?_;obtain⟨x0,x1,x2,x3⟩:=Q5 (O.heap fV.out z0);obtain⟨y0,y1,y2,y3,y4,y5⟩:=W7 fB;have HE:=Q3 O;have nF:=Q3 fB;clear O fB aB bF;go_wp2_with fail;refine(B4 k m _).mono ?_;rintro e X5 ⟨rfl,q5⟩;rw[Hv.out];have o5:=W8 q5;obtain⟨x0',qK,_,_⟩:=Q5 ((HE.out.trans o5).heap fV.out z0);obtain⟨_,y1',_,_,_,_⟩:=W7 (o5.heap nF.out z0);have jU:=Q3 (aI.out.trans (HE.out.trans o5));clear q5 o5 x0 x1 x2 x3 y0 y1 y2 y3 y4 y5;go_wp2;go_ret;exact⟨rfl,jU.out⟩
 ·simp only[xa,xb,xc];go_simp;obtain⟨gA,aG⟩:∃ g,Z1.heap.size=g:=⟨_,rfl⟩
  obtain⟨kS,hY⟩:∃ V,Z1.alloc (Ez 0 0 0 0 0 81)=V:=⟨_,rfl⟩
  have qA:Out 0 0 Z1 kS:=by rw[<-hY];exact(Out.refl 0 0 _).alloc _
  have fA:kS.heap[gA]? = some (Ez 0 0 0 0 0 81):=by rw[<-hY,<-aG];exact heap_alloc_new _ _
  have bF:V2.heap.size<=gA:=by have:=O.size;omega
  (try rw[hY]);(try rw[aG]);clear hY aG;replace O:=O.trans qA;refine hK.out _ _ ⟨qA.cell aB.1 z0,qA.cell aB.2 z0⟩ fun aB=>?_
  clear qA hK KK;refine rd1 6 fun KK hK=>?_
  simp only[xa,xb,xc];go_simp;refine(HB.out _ O).mono ?_;rintro e Z1AC ⟨rfl,q1⟩;replace O:=O.trans q1;replace fA:=q1.heap fA z0;refine hK.out _ _ ⟨q1.cell aB.1 z0,q1.cell aB.2 z0⟩ fun aB=>?_
  clear q1 hK KK;refine tk 7 ?_;refine tk 8 ?_;refine tk 9 ?_;refine rd1 11 fun KK hK=>?_
  simp only[xa,xb,xc];obtain⟨y0,y1,y2,y3,y4,y5⟩:=W7 fA;go_simp;clear y0 y1 y2 y3 y4 y5;obtain⟨bM,hY⟩:∃ V,(((((Z1AC.setCell ⟨gA,0,none⟩ (Iz c0)).setCell ⟨gA,1,none⟩ (Iz c1)).setCell ⟨gA,2,none⟩ (Iz c2)).setCell ⟨gA,3,none⟩ (Iz c3)).setCell ⟨gA,4,none⟩ (Iz c4))=V:=⟨_,rfl⟩
  have qS:Out gA (gA+1) Z1AC bM:=by rw[<-hY];exact(Out.refl _ _ _).zo5 z1 _ _ _ _ _
  replace O:Out 0 0 V2 bM:=by rw[<-hY];exact O.zo5 (.inr bF) _ _ _ _ _
  have fB:bM.heap[gA]? = some (Ez c0 c1 c2 c3 c4 81):=by rw[<-hY];simp[World.setCell,Array.getElem?_modify,fA]
  (try rw[hY]);clear hY fA;refine hK.out _ _ ⟨qS.cell aB.1 (.inl (by have:=aL;omega)),qS.cell aB.2 (.inl (by have:=aL;omega))⟩ fun aB=>?_
  clear qS hK KK;refine tk 12 ?_;refine dn ?_;obtain⟨x0,x1,x2,x3⟩:=Q5 (O.heap fV.out z0);obtain⟨y0,y1,y2,y3,y4,y5⟩:=W7 fB;have HE:=Q3 O;have nF:=Q3 fB;clear O fB aB bF;go_wp2_with fail;refine(B4 k m _).mono ?_;rintro e X5 ⟨rfl,q5⟩;rw[Hv.out];have o5:=W8 q5;obtain⟨x0',qK,_,_⟩:=Q5 ((HE.out.trans o5).heap fV.out z0);obtain⟨_,y1',_,_,_,_⟩:=W7 (o5.heap nF.out z0);have jU:=Q3 (aI.out.trans (HE.out.trans o5));clear q5 o5 x0 x1 x2 x3 y0 y1 y2 y3 y4 y5;go_wp2;go_ret;exact⟨rfl,jU.out⟩
theorem q4k (hR:cq w rb 0=some (Pq (s 0))) (k m:Int) (hv:J2 k m=true) {c0 c1 c2 c3 c4:Int} {ok:Bool} (hB:∀ X,Out 0 0 w X->Kz 123 #[Pq (s 0),Iz m] X fun e w'=>e=.returned (.tuple #[Wz c0 c1 c2 c3 c4,.bool ok])/\Out 0 0 X w') (hk:k=2) (dN:ok=true):Kz 125 #[Pq rb,Vz k m] w fun e w'=>e=.returned (.bool (x8c c1))/\Out 0 0 w w':=by
 subst hk;subst dN;have fV:=Q3 (heap_alloc_new w (Dz 2 m 32));have aI:=Q3 ((Out.refl 0 0 w).alloc (Dz 2 m 32));obtain⟨gv,aR⟩:∃ g,w.heap.size=g:=⟨_,rfl⟩
 have bD:=Q3 aR;obtain⟨V2,aS⟩:∃ V,w.alloc (Dz 2 m 32)=V:=⟨_,rfl⟩
 rw[aS,aR] at fV;rw[aS] at aI;have gO:=aI.out.cell hR z0;obtain⟨u0,u1,u2,u3⟩:=Q5 fV.out;have aL:gv<V2.heap.size/\rb<V2.heap.size:=⟨Q8 fV.out,Y7 gO⟩
 have HB:Hid (∀ X,Out 0 0 V2 X->_):=fun X o=>hB X (aI.out.trans o)
 have Hv:=Q3 hv;clear hR hB hv;go_enter Tryz.func125,Tryz.ntmps125
 go_wp2_with fail;(try rw[aS]);(try rw[aR]);clear aS aR;refine wp_region_held_drew (S:=fun w'=>cq w' rb 0=some (Pq (s 0))/\cq w' gv 1=some (Iz m)) (by kernel_rfl) ?hS82 (fun aB=>?rest82)
 case hS82=>exact⟨gO,u1⟩
 obtain⟨Z1,hZ⟩:∃ Z,V2.drew=Z:=⟨_,rfl⟩
 have O:Out 0 0 V2 Z1:=by rw[<-hZ];exact(Out.refl 0 0 _).drew
 rw[hZ] at aB ⊢;clear hZ;refine tk 0 ?_;refine tk 1 ?_;refine tk 2 ?_;refine tk 3 ?_;refine tk 4 ?_;refine tk 5 ?_;refine rd2 6 10 (fun KK hK=>?_) fun KK hK=>?_
 ·simp only[xa,xb,xc];go_simp;refine(HB.out _ O).mono ?_;rintro e Z1C ⟨rfl,q1⟩;replace O:=O.trans q1;refine hK.out _ _ ⟨q1.cell aB.1 z0,q1.cell aB.2 z0⟩ fun aB=>?_
  clear q1 hK KK;refine tk 7 ?_;refine tk 8 ?_;refine tk 9 ?_;refine rd1 10 fun KK hK=>?_
  simp only[xa,xb,xc];go_simp;obtain⟨gA,aG⟩:∃ g,Z1C.heap.size=g:=⟨_,rfl⟩
  obtain⟨bX,hY⟩:∃ V,Z1C.alloc (Ez 0 0 0 0 0 81)=V:=⟨_,rfl⟩
  have qA:Out 0 0 Z1C bX:=by rw[<-hY];exact(Out.refl 0 0 _).alloc _
  have fA:bX.heap[gA]? = some (Ez 0 0 0 0 0 81):=by rw[<-hY,<-aG];exact heap_alloc_new _ _
  have bF:V2.heap.size<=gA:=by have:=O.size;omega
  (try rw[hY]);(try rw[aG]);clear hY aG;replace O:=O.trans qA;refine hK.out _ _ ⟨qA.cell aB.1 z0,qA.cell aB.2 z0⟩ fun aB=>?_
  clear qA hK KK;refine rd1 11 fun KK hK=>?_
  simp only[xa,xb,xc];obtain⟨y0,y1,y2,y3,y4,y5⟩:=W7 fA;go_simp;clear y0 y1 y2 y3 y4 y5;obtain⟨bL,hY⟩:∃ V,(((((bX.setCell ⟨gA,0,none⟩ (Iz c0)).setCell ⟨gA,1,none⟩ (Iz c1)).setCell ⟨gA,2,none⟩ (Iz c2)).setCell ⟨gA,3,none⟩ (Iz c3)).setCell ⟨gA,4,none⟩ (Iz c4))=V:=⟨_,rfl⟩
  have qS:Out gA (gA+1) bX bL:=by rw[<-hY];exact(Out.refl _ _ _).zo5 z1 _ _ _ _ _
  replace O:Out 0 0 V2 bL:=by rw[<-hY];exact O.zo5 (.inr bF) _ _ _ _ _
  have fB:bL.heap[gA]? = some (Ez c0 c1 c2 c3 c4 81):=by rw[<-hY];simp[World.setCell,Array.getElem?_modify,fA]
  (try rw[hY]);clear hY fA;refine hK.out _ _ ⟨qS.cell aB.1 (.inl (by have:=aL;omega)),qS.cell aB.2 (.inl (by have:=aL;omega))⟩ fun aB=>?_
  clear qS hK KK;refine tk 12 ?_;refine dn ?_;obtain⟨x0,x1,x2,x3⟩:=Q5 (O.heap fV.out z0);obtain⟨y0,y1,y2,y3,y4,y5⟩:=W7 fB;have HE:=Q3 O;have nF:=Q3 fB;clear O fB aB bF;go_wp2_with fail;refine(B4 2 m _).mono ?_;rintro e X5 ⟨rfl,q5⟩;rw[Hv.out];have o5:=W8 q5;obtain⟨x0',qK,_,_⟩:=Q5 ((HE.out.trans o5).heap fV.out z0);obtain⟨_,y1',_,_,_,_⟩:=W7 (o5.heap nF.out z0);have jU:=Q3 (aI.out.trans (HE.out.trans o5));clear q5 o5 x0 x1 x2 x3 y0 y1 y2 y3 y4 y5;go_wp2_with fail;refine(z7s c1 _).mono ?_;rintro e X6 ⟨rfl,q6⟩;have HE6:=Q3 (jU.out.trans q6);clear q6;go_wp2;go_ret;exact⟨rfl,HE6.out⟩
 ·simp only[xa,xb,xc];go_simp;obtain⟨gA,aG⟩:∃ g,Z1.heap.size=g:=⟨_,rfl⟩
  obtain⟨kS,hY⟩:∃ V,Z1.alloc (Ez 0 0 0 0 0 81)=V:=⟨_,rfl⟩
  have qA:Out 0 0 Z1 kS:=by rw[<-hY];exact(Out.refl 0 0 _).alloc _
  have fA:kS.heap[gA]? = some (Ez 0 0 0 0 0 81):=by rw[<-hY,<-aG];exact heap_alloc_new _ _
  have bF:V2.heap.size<=gA:=by have:=O.size;omega
  (try rw[hY]);(try rw[aG]);clear hY aG;replace O:=O.trans qA;refine hK.out _ _ ⟨qA.cell aB.1 z0,qA.cell aB.2 z0⟩ fun aB=>?_
  clear qA hK KK;refine rd1 6 fun KK hK=>?_
  simp only[xa,xb,xc];go_simp;refine(HB.out _ O).mono ?_;rintro e Z1AC ⟨rfl,q1⟩;replace O:=O.trans q1;replace fA:=q1.heap fA z0;refine hK.out _ _ ⟨q1.cell aB.1 z0,q1.cell aB.2 z0⟩ fun aB=>?_
  clear q1 hK KK;refine tk 7 ?_;refine tk 8 ?_;refine tk 9 ?_;refine rd1 11 fun KK hK=>?_
  simp only[xa,xb,xc];obtain⟨y0,y1,y2,y3,y4,y5⟩:=W7 fA;go_simp;clear y0 y1 y2 y3 y4 y5;obtain⟨bM,hY⟩:∃ V,(((((Z1AC.setCell ⟨gA,0,none⟩ (Iz c0)).setCell ⟨gA,1,none⟩ (Iz c1)).setCell ⟨gA,2,none⟩ (Iz c2)).setCell ⟨gA,3,none⟩ (Iz c3)).setCell ⟨gA,4,none⟩ (Iz c4))=V:=⟨_,rfl⟩
  have qS:Out gA (gA+1) Z1AC bM:=by rw[<-hY];exact(Out.refl _ _ _).zo5 z1 _ _ _ _ _
  replace O:Out 0 0 V2 bM:=by rw[<-hY];exact O.zo5 (.inr bF) _ _ _ _ _
  have fB:bM.heap[gA]? = some (Ez c0 c1 c2 c3 c4 81):=by rw[<-hY];simp[World.setCell,Array.getElem?_modify,fA]
  (try rw[hY]);clear hY fA;refine hK.out _ _ ⟨qS.cell aB.1 (.inl (by have:=aL;omega)),qS.cell aB.2 (.inl (by have:=aL;omega))⟩ fun aB=>?_
  clear qS hK KK;refine tk 12 ?_;refine dn ?_;obtain⟨x0,x1,x2,x3⟩:=Q5 (O.heap fV.out z0);obtain⟨y0,y1,y2,y3,y4,y5⟩:=W7 fB;have HE:=Q3 O;have nF:=Q3 fB;clear O fB aB bF;go_wp2_with fail;refine(B4 2 m _).mono ?_;rintro e X5 ⟨rfl,q5⟩;rw[Hv.out];have o5:=W8 q5;obtain⟨x0',qK,_,_⟩:=Q5 ((HE.out.trans o5).heap fV.out z0);obtain⟨_,y1',_,_,_,_⟩:=W7 (o5.heap nF.out z0);have jU:=Q3 (aI.out.trans (HE.out.trans o5));clear q5 o5 x0 x1 x2 x3 y0 y1 y2 y3 y4 y5;go_wp2_with fail;refine(z7s c1 _).mono ?_;rintro e X6 ⟨rfl,q6⟩;have HE6:=Q3 (jU.out.trans q6);clear q6;go_wp2;go_ret;exact⟨rfl,HE6.out⟩
theorem q7k (hR:cq w rb 0=some (Pq (s 0))) (k m:Int) (hv:J2 k m=true) {c0 c1 c2 c3 c4:Int} {ok:Bool} (hB:∀ X,Out 0 0 w X->Kz 123 #[Pq (s 0),Iz m] X fun e w'=>e=.returned (.tuple #[Wz c0 c1 c2 c3 c4,.bool ok])/\Out 0 0 X w') (hk:k=2) (dN:ok=false):Kz 125 #[Pq rb,Vz k m] w fun e w'=>e=.returned (.bool false)/\Out 0 0 w w':=by
 subst hk;subst dN;have fV:=Q3 (heap_alloc_new w (Dz 2 m 32));have aI:=Q3 ((Out.refl 0 0 w).alloc (Dz 2 m 32));obtain⟨gv,aR⟩:∃ g,w.heap.size=g:=⟨_,rfl⟩
 have bD:=Q3 aR;obtain⟨V2,aS⟩:∃ V,w.alloc (Dz 2 m 32)=V:=⟨_,rfl⟩
 rw[aS,aR] at fV;rw[aS] at aI;have gO:=aI.out.cell hR z0;obtain⟨u0,u1,u2,u3⟩:=Q5 fV.out;have aL:gv<V2.heap.size/\rb<V2.heap.size:=⟨Q8 fV.out,Y7 gO⟩
 have HB:Hid (∀ X,Out 0 0 V2 X->_):=fun X o=>hB X (aI.out.trans o)
 have Hv:=Q3 hv;clear hR hB hv;go_enter Tryz.func125,Tryz.ntmps125
 go_wp2_with fail;(try rw[aS]);(try rw[aR]);clear aS aR;refine wp_region_held_drew (S:=fun w'=>cq w' rb 0=some (Pq (s 0))/\cq w' gv 1=some (Iz m)) (by kernel_rfl) ?hS103 (fun aB=>?rest103)
 case hS103=>exact⟨gO,u1⟩
 obtain⟨Z1,hZ⟩:∃ Z,V2.drew=Z:=⟨_,rfl⟩
 have O:Out 0 0 V2 Z1:=by rw[<-hZ];exact(Out.refl 0 0 _).drew
 rw[hZ] at aB ⊢;clear hZ;refine tk 0 ?_;refine tk 1 ?_;refine tk 2 ?_;refine tk 3 ?_;refine tk 4 ?_;refine tk 5 ?_;refine rd2 6 10 (fun KK hK=>?_) fun KK hK=>?_
 ·simp only[xa,xb,xc];go_simp;refine(HB.out _ O).mono ?_;rintro e Z1C ⟨rfl,q1⟩;replace O:=O.trans q1;refine hK.out _ _ ⟨q1.cell aB.1 z0,q1.cell aB.2 z0⟩ fun aB=>?_
  clear q1 hK KK;refine tk 7 ?_;refine tk 8 ?_;refine tk 9 ?_;refine rd1 10 fun KK hK=>?_
  simp only[xa,xb,xc];go_simp;obtain⟨gA,aG⟩:∃ g,Z1C.heap.size=g:=⟨_,rfl⟩
  obtain⟨bX,hY⟩:∃ V,Z1C.alloc (Ez 0 0 0 0 0 81)=V:=⟨_,rfl⟩
  have qA:Out 0 0 Z1C bX:=by rw[<-hY];exact(Out.refl 0 0 _).alloc _
  have fA:bX.heap[gA]? = some (Ez 0 0 0 0 0 81):=by rw[<-hY,<-aG];exact heap_alloc_new _ _
  have bF:V2.heap.size<=gA:=by have:=O.size;omega
  (try rw[hY]);(try rw[aG]);clear hY aG;replace O:=O.trans qA;refine hK.out _ _ ⟨qA.cell aB.1 z0,qA.cell aB.2 z0⟩ fun aB=>?_
  clear qA hK KK;refine rd1 11 fun KK hK=>?_
  simp only[xa,xb,xc];obtain⟨y0,y1,y2,y3,y4,y5⟩:=W7 fA;go_simp;clear y0 y1 y2 y3 y4 y5;obtain⟨bL,hY⟩:∃ V,(((((bX.setCell ⟨gA,0,none⟩ (Iz c0)).setCell ⟨gA,1,none⟩ (Iz c1)).setCell ⟨gA,2,none⟩ (Iz c2)).setCell ⟨gA,3,none⟩ (Iz c3)).setCell ⟨gA,4,none⟩ (Iz c4))=V:=⟨_,rfl⟩
  have qS:Out gA (gA+1) bX bL:=by rw[<-hY];exact(Out.refl _ _ _).zo5 z1 _ _ _ _ _
  replace O:Out 0 0 V2 bL:=by rw[<-hY];exact O.zo5 (.inr bF) _ _ _ _ _
  have fB:bL.heap[gA]? = some (Ez c0 c1 c2 c3 c4 81):=by rw[<-hY];simp[World.setCell,Array.getElem?_modify,fA]
  (try rw[hY]);clear hY fA;refine hK.out _ _ ⟨qS.cell aB.1 (.inl (by have:=aL;omega)),qS.cell aB.2 (.inl (by have:=aL;omega))⟩ fun aB=>?_
  clear qS hK KK;refine tk 12 ?_;refine dn ?_;obtain⟨x0,x1,x2,x3⟩:=Q5 (O.heap fV.out z0);obtain⟨y0,y1,y2,y3,y4,y5⟩:=W7 fB;have HE:=Q3 O;have nF:=Q3 fB;clear O fB aB bF;go_wp2_with fail;refine(B4 2 m _).mono ?_;rintro e X5 ⟨rfl,q5⟩;rw[Hv.out];have o5:=W8 q5;obtain⟨x0',qK,_,_⟩:=Q5 ((HE.out.trans o5).heap fV.out z0);obtain⟨_,y1',_,_,_,_⟩:=W7 (o5.heap nF.out z0);have jU:=Q3 (aI.out.trans (HE.out.trans o5));clear q5 o5 x0 x1 x2 x3 y0 y1 y2 y3 y4 y5;go_wp2;go_ret;exact⟨rfl,jU.out⟩
 ·simp only[xa,xb,xc];go_simp;obtain⟨gA,aG⟩:∃ g,Z1.heap.size=g:=⟨_,rfl⟩
  obtain⟨kS,hY⟩:∃ V,Z1.alloc (Ez 0 0 0 0 0 81)=V:=⟨_,rfl⟩
  have qA:Out 0 0 Z1 kS:=by rw[<-hY];exact(Out.refl 0 0 _).alloc _
  have fA:kS.heap[gA]? = some (Ez 0 0 0 0 0 81):=by rw[<-hY,<-aG];exact heap_alloc_new _ _
  have bF:V2.heap.size<=gA:=by have:=O.size;omega
  (try rw[hY]);(try rw[aG]);clear hY aG;replace O:=O.trans qA;refine hK.out _ _ ⟨qA.cell aB.1 z0,qA.cell aB.2 z0⟩ fun aB=>?_
  clear qA hK KK;refine rd1 6 fun KK hK=>?_
  simp only[xa,xb,xc];go_simp;refine(HB.out _ O).mono ?_;rintro e Z1AC ⟨rfl,q1⟩;replace O:=O.trans q1;replace fA:=q1.heap fA z0;refine hK.out _ _ ⟨q1.cell aB.1 z0,q1.cell aB.2 z0⟩ fun aB=>?_
  clear q1 hK KK;refine tk 7 ?_;refine tk 8 ?_;refine tk 9 ?_;refine rd1 11 fun KK hK=>?_
  simp only[xa,xb,xc];obtain⟨y0,y1,y2,y3,y4,y5⟩:=W7 fA;go_simp;clear y0 y1 y2 y3 y4 y5;obtain⟨bM,hY⟩:∃ V,(((((Z1AC.setCell ⟨gA,0,none⟩ (Iz c0)).setCell ⟨gA,1,none⟩ (Iz c1)).setCell ⟨gA,2,none⟩ (Iz c2)).setCell ⟨gA,3,none⟩ (Iz c3)).setCell ⟨gA,4,none⟩ (Iz c4))=V:=⟨_,rfl⟩
  have qS:Out gA (gA+1) Z1AC bM:=by rw[<-hY];exact(Out.refl _ _ _).zo5 z1 _ _ _ _ _
  replace O:Out 0 0 V2 bM:=by rw[<-hY];exact O.zo5 (.inr bF) _ _ _ _ _
  have fB:bM.heap[gA]? = some (Ez c0 c1 c2 c3 c4 81):=by rw[<-hY];simp[World.setCell,Array.getElem?_modify,fA]
  (try rw[hY]);clear hY fA;refine hK.out _ _ ⟨qS.cell aB.1 (.inl (by have:=aL;omega)),qS.cell aB.2 (.inl (by have:=aL;omega))⟩ fun aB=>?_
  clear qS hK KK;refine tk 12 ?_;refine dn ?_;obtain⟨x0,x1,x2,x3⟩:=Q5 (O.heap fV.out z0);obtain⟨y0,y1,y2,y3,y4,y5⟩:=W7 fB;have HE:=Q3 O;have nF:=Q3 fB;clear O fB aB bF;go_wp2_with fail;refine(B4 2 m _).mono ?_;rintro e X5 ⟨rfl,q5⟩;rw[Hv.out];have o5:=W8 q5;obtain⟨x0',qK,_,_⟩:=Q5 ((HE.out.trans o5).heap fV.out z0);obtain⟨_,y1',_,_,_,_⟩:=W7 (o5.heap nF.out z0);have jU:=Q3 (aI.out.trans (HE.out.trans o5));clear q5 o5 x0 x1 x2 x3 y0 y1 y2 y3 y4 y5;go_wp2;go_ret;exact⟨rfl,jU.out⟩
end
end Go.Proofs.YtjgnogflgoihfaaGreatDoor
