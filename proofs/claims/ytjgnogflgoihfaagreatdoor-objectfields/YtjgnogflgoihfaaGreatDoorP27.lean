import Derived.Test.YtjgnogflgoihfaaGreatDoorP26
set_option linter.unusedSimpArgs false
set_option linter.unusedVariables false
set_option maxHeartbeats 16000000
set_option maxRecDepth 100000
namespace Go.Proofs.YtjgnogflgoihfaaGreatDoor
open Go.RowKit
theorem z7c (k:Int) (w:World):Kz 172 #[Iz k] w fun e w'=>e=.returned (.bool (x7u k))/\Out 0 0 w w':=by
 have h:(1<=k/\k<=10)\/k<1\/10<k:=by omega
 rcases h with ⟨h1,h2⟩ | h1 | h1
 all_goals
  go_enter Tryz.func172,Tryz.ntmps172
  go_wp2
  all_goals go_ret
  all_goals refine⟨U9 ?_,Out.refl _ _ _⟩
  all_goals (unfold x7u;simp;try omega)
section
variable {w:World} {rb:Nat} {s:Nat->Nat}
theorem q3h (hR:cq w rb 0=some (Pq (s 0))) (k m:Int) (hv:Q8 k m=true) {c0 c1 c2 c3 c4:Int} {ok:Bool} (hB:∀ X,Out 0 0 w X->Kz 123 #[Pq (s 0),Iz m] X fun e w'=>e=.returned (.tuple #[Wz c0 c1 c2 c3 c4,.bool ok])/\Out 0 0 X w') (hk:k ≠ 2):Kz 125 #[Pq rb,Vz k m] w fun e w'=>e=.returned (.bool true)/\Out 0 0 w w':=by
 have k2:(k != 2)=true:=by simpa using hk
 clear hk;have fV:=Q3 (heap_alloc_new w (Dz k m 32));have aH:=Q3 ((Out.refl 0 0 w).alloc (Dz k m 32));obtain⟨gv,aN⟩:∃ g,w.heap.size=g:=⟨_,rfl⟩
 have aW:=Q3 aN;obtain⟨V2,aQ⟩:∃ V,w.alloc (Dz k m 32)=V:=⟨_,rfl⟩
 rw[aQ,aN] at fV;rw[aQ] at aH;have eI:=aH.out.cell hR z0;obtain⟨u0,u1,u2,u3⟩:=Q5 fV.out;have aI:gv<V2.heap.size/\rb<V2.heap.size:=⟨Q7 fV.out,Y4 eI⟩
 have HB:Hid (∀ X,Out 0 0 V2 X->_):=fun X o=>hB X (aH.out.trans o)
 have Hv:=Q3 hv;clear hR hB hv;go_enter Tryz.func125,Tryz.ntmps125
 go_wp2_with fail;(try rw[aQ]);(try rw[aN]);clear aQ aN;refine wp_region_held_drew (S:=fun w'=>cq w' rb 0=some (Pq (s 0))/\cq w' gv 1=some (Iz m)) (by kernel_rfl) ?hS61 (fun aB=>?rest61)
 case hS61=>exact⟨eI,u1⟩
 obtain⟨Z1,hZ⟩:∃ Z,V2.drew=Z:=⟨_,rfl⟩
 have O:Out 0 0 V2 Z1:=by rw[<-hZ];exact(Out.refl 0 0 _).drew
 rw[hZ] at aB ⊢;clear hZ;refine tk 0 ?_;refine tk 1 ?_;refine tk 2 ?_;refine tk 3 ?_;refine tk 4 ?_;refine tk 5 ?_;refine rd2 6 10 (fun KK hK=>?_) fun KK hK=>?_
 ·go_simp;refine(HB.out _ O).mono ?_;rintro e Z1C ⟨rfl,q1⟩;replace O:=O.trans q1;refine hK.out _ _ ⟨q1.cell aB.1 z0,q1.cell aB.2 z0⟩ fun aB=>?_
  clear q1 hK KK;refine tk 7 ?_;refine tk 8 ?_;refine tk 9 ?_;refine rd1 10 fun KK hK=>?_
  go_simp;obtain⟨gA,bR,aE,hY,qA,fA⟩:=alz Z1C (Ez 0 0 0 0 0 81)
  have aY:V2.heap.size<=gA:=by have:=O.size;omega
  (try rw[hY]);(try rw[aE]);clear hY aE;replace O:=O.trans qA;refine hK.out _ _ ⟨qA.cell aB.1 z0,qA.cell aB.2 z0⟩ fun aB=>?_
  clear qA hK KK;refine rd1 11 fun KK hK=>?_
  simp only[xa,xb,xc];obtain⟨y0,y1,y2,y3,y4,y5⟩:=K7 fA;go_simp;clear y0 y1 y2 y3 y4 y5;obtain⟨bE,hY,qS⟩:=s5z bR gA c0 c1 c2 c3 c4
  replace O:Out 0 0 V2 bE:=by rw[<-hY];exact O.zo5 (.inr aY) _ _ _ _ _
  have fB:bE.heap[gA]? = some (Ez c0 c1 c2 c3 c4 81):=by rw[<-hY];simp[World.setCell,Array.getElem?_modify,fA]
  (try rw[hY]);clear hY fA;refine hK.out _ _ ⟨qS.cell aB.1 (.inl (by have:=aI;omega)),qS.cell aB.2 (.inl (by have:=aI;omega))⟩ fun aB=>?_
  clear qS hK KK;refine tk 12 ?_;refine dn ?_;obtain⟨x0,x1,x2,x3⟩:=Q5 (O.heap fV.out z0);obtain⟨y0,y1,y2,y3,y4,y5⟩:=K7 fB;have HE:=Q3 O;have lR:=Q3 fB;clear O fB aB aY;go_wp2_with fail;refine(U6 k m _).mono ?_;rintro e X5 ⟨rfl,q5⟩;rw[Hv.out];have o5:=K8 q5;obtain⟨x0',oJ,_,_⟩:=Q5 ((HE.out.trans o5).heap fV.out z0);obtain⟨_,y1',_,_,_,_⟩:=K7 (o5.heap lR.out z0);have iG:=Q3 (aH.out.trans (HE.out.trans o5));clear q5 o5 x0 x1 x2 x3 y0 y1 y2 y3 y4 y5;go_wp2;go_ret;exact⟨rfl,iG.out⟩
 ·go_simp;obtain⟨gA,jF,aE,hY,qA,fA⟩:=alz Z1 (Ez 0 0 0 0 0 81)
  have aY:V2.heap.size<=gA:=by have:=O.size;omega
  (try rw[hY]);(try rw[aE]);clear hY aE;replace O:=O.trans qA;refine hK.out _ _ ⟨qA.cell aB.1 z0,qA.cell aB.2 z0⟩ fun aB=>?_
  clear qA hK KK;refine rd1 6 fun KK hK=>?_
  go_simp;refine(HB.out _ O).mono ?_;rintro e Z1AC ⟨rfl,q1⟩;replace O:=O.trans q1;replace fA:=q1.heap fA z0;refine hK.out _ _ ⟨q1.cell aB.1 z0,q1.cell aB.2 z0⟩ fun aB=>?_
  clear q1 hK KK;refine tk 7 ?_;refine tk 8 ?_;refine tk 9 ?_;refine rd1 11 fun KK hK=>?_
  simp only[xa,xb,xc];obtain⟨y0,y1,y2,y3,y4,y5⟩:=K7 fA;go_simp;clear y0 y1 y2 y3 y4 y5;obtain⟨bF,hY,qS⟩:=s5z Z1AC gA c0 c1 c2 c3 c4
  replace O:Out 0 0 V2 bF:=by rw[<-hY];exact O.zo5 (.inr aY) _ _ _ _ _
  have fB:bF.heap[gA]? = some (Ez c0 c1 c2 c3 c4 81):=by rw[<-hY];simp[World.setCell,Array.getElem?_modify,fA]
  (try rw[hY]);clear hY fA;refine hK.out _ _ ⟨qS.cell aB.1 (.inl (by have:=aI;omega)),qS.cell aB.2 (.inl (by have:=aI;omega))⟩ fun aB=>?_
  clear qS hK KK;refine tk 12 ?_;refine dn ?_;obtain⟨x0,x1,x2,x3⟩:=Q5 (O.heap fV.out z0);obtain⟨y0,y1,y2,y3,y4,y5⟩:=K7 fB;have HE:=Q3 O;have lR:=Q3 fB;clear O fB aB aY;go_wp2_with fail;refine(U6 k m _).mono ?_;rintro e X5 ⟨rfl,q5⟩;rw[Hv.out];have o5:=K8 q5;obtain⟨x0',oJ,_,_⟩:=Q5 ((HE.out.trans o5).heap fV.out z0);obtain⟨_,y1',_,_,_,_⟩:=K7 (o5.heap lR.out z0);have iG:=Q3 (aH.out.trans (HE.out.trans o5));clear q5 o5 x0 x1 x2 x3 y0 y1 y2 y3 y4 y5;go_wp2;go_ret;exact⟨rfl,iG.out⟩
theorem q3i (hR:cq w rb 0=some (Pq (s 0))) (k m:Int) (hv:Q8 k m=true) {c0 c1 c2 c3 c4:Int} {ok:Bool} (hB:∀ X,Out 0 0 w X->Kz 123 #[Pq (s 0),Iz m] X fun e w'=>e=.returned (.tuple #[Wz c0 c1 c2 c3 c4,.bool ok])/\Out 0 0 X w') (hk:k=2) (eW:ok=true):Kz 125 #[Pq rb,Vz k m] w fun e w'=>e=.returned (.bool (x7u c1))/\Out 0 0 w w':=by
 subst hk;subst eW;have fV:=Q3 (heap_alloc_new w (Dz 2 m 32));have aH:=Q3 ((Out.refl 0 0 w).alloc (Dz 2 m 32));obtain⟨gv,aN⟩:∃ g,w.heap.size=g:=⟨_,rfl⟩
 have aW:=Q3 aN;obtain⟨V2,aQ⟩:∃ V,w.alloc (Dz 2 m 32)=V:=⟨_,rfl⟩
 rw[aQ,aN] at fV;rw[aQ] at aH;have eI:=aH.out.cell hR z0;obtain⟨u0,u1,u2,u3⟩:=Q5 fV.out;have aI:gv<V2.heap.size/\rb<V2.heap.size:=⟨Q7 fV.out,Y4 eI⟩
 have HB:Hid (∀ X,Out 0 0 V2 X->_):=fun X o=>hB X (aH.out.trans o)
 have Hv:=Q3 hv;clear hR hB hv;go_enter Tryz.func125,Tryz.ntmps125
 go_wp2_with fail;(try rw[aQ]);(try rw[aN]);clear aQ aN;refine wp_region_held_drew (S:=fun w'=>cq w' rb 0=some (Pq (s 0))/\cq w' gv 1=some (Iz m)) (by kernel_rfl) ?hS82 (fun aB=>?rest82)
 case hS82=>exact⟨eI,u1⟩
 obtain⟨Z1,hZ⟩:∃ Z,V2.drew=Z:=⟨_,rfl⟩
 have O:Out 0 0 V2 Z1:=by rw[<-hZ];exact(Out.refl 0 0 _).drew
 rw[hZ] at aB ⊢;clear hZ;refine tk 0 ?_;refine tk 1 ?_;refine tk 2 ?_;refine tk 3 ?_;refine tk 4 ?_;refine tk 5 ?_;refine rd2 6 10 (fun KK hK=>?_) fun KK hK=>?_
 ·go_simp;refine(HB.out _ O).mono ?_;rintro e Z1C ⟨rfl,q1⟩;replace O:=O.trans q1;refine hK.out _ _ ⟨q1.cell aB.1 z0,q1.cell aB.2 z0⟩ fun aB=>?_
  clear q1 hK KK;refine tk 7 ?_;refine tk 8 ?_;refine tk 9 ?_;refine rd1 10 fun KK hK=>?_
  go_simp;obtain⟨gA,bR,aE,hY,qA,fA⟩:=alz Z1C (Ez 0 0 0 0 0 81)
  have aY:V2.heap.size<=gA:=by have:=O.size;omega
  (try rw[hY]);(try rw[aE]);clear hY aE;replace O:=O.trans qA;refine hK.out _ _ ⟨qA.cell aB.1 z0,qA.cell aB.2 z0⟩ fun aB=>?_
  clear qA hK KK;refine rd1 11 fun KK hK=>?_
  simp only[xa,xb,xc];obtain⟨y0,y1,y2,y3,y4,y5⟩:=K7 fA;go_simp;clear y0 y1 y2 y3 y4 y5;obtain⟨bE,hY,qS⟩:=s5z bR gA c0 c1 c2 c3 c4
  replace O:Out 0 0 V2 bE:=by rw[<-hY];exact O.zo5 (.inr aY) _ _ _ _ _
  have fB:bE.heap[gA]? = some (Ez c0 c1 c2 c3 c4 81):=by rw[<-hY];simp[World.setCell,Array.getElem?_modify,fA]
  (try rw[hY]);clear hY fA;refine hK.out _ _ ⟨qS.cell aB.1 (.inl (by have:=aI;omega)),qS.cell aB.2 (.inl (by have:=aI;omega))⟩ fun aB=>?_
  clear qS hK KK;refine tk 12 ?_;refine dn ?_;obtain⟨x0,x1,x2,x3⟩:=Q5 (O.heap fV.out z0);obtain⟨y0,y1,y2,y3,y4,y5⟩:=K7 fB;have HE:=Q3 O;have lR:=Q3 fB;clear O fB aB aY;go_wp2_with fail;refine(U6 2 m _).mono ?_;rintro e X5 ⟨rfl,q5⟩;rw[Hv.out];have o5:=K8 q5;obtain⟨x0',oJ,_,_⟩:=Q5 ((HE.out.trans o5).heap fV.out z0);obtain⟨_,y1',_,_,_,_⟩:=K7 (o5.heap lR.out z0);have iG:=Q3 (aH.out.trans (HE.out.trans o5));clear q5 o5 x0 x1 x2 x3 y0 y1 y2 y3 y4 y5;go_wp2_with fail;refine(z7c c1 _).mono ?_;rintro e X6 ⟨rfl,q6⟩;have HE6:=Q3 (iG.out.trans q6);clear q6;go_wp2;go_ret;exact⟨rfl,HE6.out⟩
 ·go_simp;obtain⟨gA,jF,aE,hY,qA,fA⟩:=alz Z1 (Ez 0 0 0 0 0 81)
  have aY:V2.heap.size<=gA:=by have:=O.size;omega
  (try rw[hY]);(try rw[aE]);clear hY aE;replace O:=O.trans qA;refine hK.out _ _ ⟨qA.cell aB.1 z0,qA.cell aB.2 z0⟩ fun aB=>?_
  clear qA hK KK;refine rd1 6 fun KK hK=>?_
  go_simp;refine(HB.out _ O).mono ?_;rintro e Z1AC ⟨rfl,q1⟩;replace O:=O.trans q1;replace fA:=q1.heap fA z0;refine hK.out _ _ ⟨q1.cell aB.1 z0,q1.cell aB.2 z0⟩ fun aB=>?_
  clear q1 hK KK;refine tk 7 ?_;refine tk 8 ?_;refine tk 9 ?_;refine rd1 11 fun KK hK=>?_
  simp only[xa,xb,xc];obtain⟨y0,y1,y2,y3,y4,y5⟩:=K7 fA;go_simp;clear y0 y1 y2 y3 y4 y5;obtain⟨bF,hY,qS⟩:=s5z Z1AC gA c0 c1 c2 c3 c4
  replace O:Out 0 0 V2 bF:=by rw[<-hY];exact O.zo5 (.inr aY) _ _ _ _ _
  have fB:bF.heap[gA]? = some (Ez c0 c1 c2 c3 c4 81):=by rw[<-hY];simp[World.setCell,Array.getElem?_modify,fA]
  (try rw[hY]);clear hY fA;refine hK.out _ _ ⟨qS.cell aB.1 (.inl (by have:=aI;omega)),qS.cell aB.2 (.inl (by have:=aI;omega))⟩ fun aB=>?_
  clear qS hK KK;refine tk 12 ?_;refine dn ?_;obtain⟨x0,x1,x2,x3⟩:=Q5 (O.heap fV.out z0);obtain⟨y0,y1,y2,y3,y4,y5⟩:=K7 fB;have HE:=Q3 O;have lR:=Q3 fB;clear O fB aB aY;go_wp2_with fail;refine(U6 2 m _).mono ?_;rintro e X5 ⟨rfl,q5⟩;rw[Hv.out];have o5:=K8 q5;obtain⟨x0',oJ,_,_⟩:=Q5 ((HE.out.trans o5).heap fV.out z0);obtain⟨_,y1',_,_,_,_⟩:=K7 (o5.heap lR.out z0);have iG:=Q3 (aH.out.trans (HE.out.trans o5));clear q5 o5 x0 x1 x2 x3 y0 y1 y2 y3 y4 y5;go_wp2_with fail;refine(z7c c1 _).mono ?_;rintro e X6 ⟨rfl,q6⟩;have HE6:=Q3 (iG.out.trans q6);clear q6;go_wp2;go_ret;exact⟨rfl,HE6.out⟩
theorem q6m (hR:cq w rb 0=some (Pq (s 0))) (k m:Int) (hv:Q8 k m=true) {c0 c1 c2 c3 c4:Int} {ok:Bool} (hB:∀ X,Out 0 0 w X->Kz 123 #[Pq (s 0),Iz m] X fun e w'=>e=.returned (.tuple #[Wz c0 c1 c2 c3 c4,.bool ok])/\Out 0 0 X w') (hk:k=2) (eW:ok=false):Kz 125 #[Pq rb,Vz k m] w fun e w'=>e=.returned (.bool false)/\Out 0 0 w w':=by
 subst hk;subst eW;have fV:=Q3 (heap_alloc_new w (Dz 2 m 32));have aH:=Q3 ((Out.refl 0 0 w).alloc (Dz 2 m 32));obtain⟨gv,aN⟩:∃ g,w.heap.size=g:=⟨_,rfl⟩
 have aW:=Q3 aN;obtain⟨V2,aQ⟩:∃ V,w.alloc (Dz 2 m 32)=V:=⟨_,rfl⟩
 rw[aQ,aN] at fV;rw[aQ] at aH;have eI:=aH.out.cell hR z0;obtain⟨u0,u1,u2,u3⟩:=Q5 fV.out;have aI:gv<V2.heap.size/\rb<V2.heap.size:=⟨Q7 fV.out,Y4 eI⟩
 have HB:Hid (∀ X,Out 0 0 V2 X->_):=fun X o=>hB X (aH.out.trans o)
 have Hv:=Q3 hv;clear hR hB hv;go_enter Tryz.func125,Tryz.ntmps125
 go_wp2_with fail;(try rw[aQ]);(try rw[aN]);clear aQ aN;refine wp_region_held_drew (S:=fun w'=>cq w' rb 0=some (Pq (s 0))/\cq w' gv 1=some (Iz m)) (by kernel_rfl) ?hS103 (fun aB=>?rest103)
 case hS103=>exact⟨eI,u1⟩
 obtain⟨Z1,hZ⟩:∃ Z,V2.drew=Z:=⟨_,rfl⟩
 have O:Out 0 0 V2 Z1:=by rw[<-hZ];exact(Out.refl 0 0 _).drew
 rw[hZ] at aB ⊢;clear hZ;refine tk 0 ?_;refine tk 1 ?_;refine tk 2 ?_;refine tk 3 ?_;refine tk 4 ?_;refine tk 5 ?_;refine rd2 6 10 (fun KK hK=>?_) fun KK hK=>?_
 ·go_simp;refine(HB.out _ O).mono ?_;rintro e Z1C ⟨rfl,q1⟩;replace O:=O.trans q1;refine hK.out _ _ ⟨q1.cell aB.1 z0,q1.cell aB.2 z0⟩ fun aB=>?_
  clear q1 hK KK;refine tk 7 ?_;refine tk 8 ?_;refine tk 9 ?_;refine rd1 10 fun KK hK=>?_
  go_simp;obtain⟨gA,bR,aE,hY,qA,fA⟩:=alz Z1C (Ez 0 0 0 0 0 81)
  have aY:V2.heap.size<=gA:=by have:=O.size;omega
  (try rw[hY]);(try rw[aE]);clear hY aE;replace O:=O.trans qA;refine hK.out _ _ ⟨qA.cell aB.1 z0,qA.cell aB.2 z0⟩ fun aB=>?_
  clear qA hK KK;refine rd1 11 fun KK hK=>?_
  simp only[xa,xb,xc];obtain⟨y0,y1,y2,y3,y4,y5⟩:=K7 fA;go_simp;clear y0 y1 y2 y3 y4 y5;obtain⟨bE,hY,qS⟩:=s5z bR gA c0 c1 c2 c3 c4
  replace O:Out 0 0 V2 bE:=by rw[<-hY];exact O.zo5 (.inr aY) _ _ _ _ _
  have fB:bE.heap[gA]? = some (Ez c0 c1 c2 c3 c4 81):=by rw[<-hY];simp[World.setCell,Array.getElem?_modify,fA]
  (try rw[hY]);clear hY fA;refine hK.out _ _ ⟨qS.cell aB.1 (.inl (by have:=aI;omega)),qS.cell aB.2 (.inl (by have:=aI;omega))⟩ fun aB=>?_
  clear qS hK KK;refine tk 12 ?_;refine dn ?_;obtain⟨x0,x1,x2,x3⟩:=Q5 (O.heap fV.out z0);obtain⟨y0,y1,y2,y3,y4,y5⟩:=K7 fB;have HE:=Q3 O;have lR:=Q3 fB;clear O fB aB aY;go_wp2_with fail;refine(U6 2 m _).mono ?_;rintro e X5 ⟨rfl,q5⟩;rw[Hv.out];have o5:=K8 q5;obtain⟨x0',oJ,_,_⟩:=Q5 ((HE.out.trans o5).heap fV.out z0);obtain⟨_,y1',_,_,_,_⟩:=K7 (o5.heap lR.out z0);have iG:=Q3 (aH.out.trans (HE.out.trans o5));clear q5 o5 x0 x1 x2 x3 y0 y1 y2 y3 y4 y5;go_wp2;go_ret;exact⟨rfl,iG.out⟩
 ·go_simp;obtain⟨gA,jF,aE,hY,qA,fA⟩:=alz Z1 (Ez 0 0 0 0 0 81)
  have aY:V2.heap.size<=gA:=by have:=O.size;omega
  (try rw[hY]);(try rw[aE]);clear hY aE;replace O:=O.trans qA;refine hK.out _ _ ⟨qA.cell aB.1 z0,qA.cell aB.2 z0⟩ fun aB=>?_
  clear qA hK KK;refine rd1 6 fun KK hK=>?_
  go_simp;refine(HB.out _ O).mono ?_;rintro e Z1AC ⟨rfl,q1⟩;replace O:=O.trans q1;replace fA:=q1.heap fA z0;refine hK.out _ _ ⟨q1.cell aB.1 z0,q1.cell aB.2 z0⟩ fun aB=>?_
  clear q1 hK KK;refine tk 7 ?_;refine tk 8 ?_;refine tk 9 ?_;refine rd1 11 fun KK hK=>?_
  simp only[xa,xb,xc];obtain⟨y0,y1,y2,y3,y4,y5⟩:=K7 fA;go_simp;clear y0 y1 y2 y3 y4 y5;obtain⟨bF,hY,qS⟩:=s5z Z1AC gA c0 c1 c2 c3 c4
  replace O:Out 0 0 V2 bF:=by rw[<-hY];exact O.zo5 (.inr aY) _ _ _ _ _
  have fB:bF.heap[gA]? = some (Ez c0 c1 c2 c3 c4 81):=by rw[<-hY];simp[World.setCell,Array.getElem?_modify,fA]
  (try rw[hY]);clear hY fA;refine hK.out _ _ ⟨qS.cell aB.1 (.inl (by have:=aI;omega)),qS.cell aB.2 (.inl (by have:=aI;omega))⟩ fun aB=>?_
  clear qS hK KK;refine tk 12 ?_;refine dn ?_;obtain⟨x0,x1,x2,x3⟩:=Q5 (O.heap fV.out z0);obtain⟨y0,y1,y2,y3,y4,y5⟩:=K7 fB;have HE:=Q3 O;have lR:=Q3 fB;clear O fB aB aY;go_wp2_with fail;refine(U6 2 m _).mono ?_;rintro e X5 ⟨rfl,q5⟩;rw[Hv.out];have o5:=K8 q5;obtain⟨x0',oJ,_,_⟩:=Q5 ((HE.out.trans o5).heap fV.out z0);obtain⟨_,y1',_,_,_,_⟩:=K7 (o5.heap lR.out z0);have iG:=Q3 (aH.out.trans (HE.out.trans o5));clear q5 o5 x0 x1 x2 x3 y0 y1 y2 y3 y4 y5;go_wp2;go_ret;exact⟨rfl,iG.out⟩
end
end Go.Proofs.YtjgnogflgoihfaaGreatDoor
