import Derived.Test.YtjgnogflgoihfaaGreatDoorP16
namespace Go.Proofs.YtjgnogflgoihfaaGreatDoor
open Go.RowKit
set_option linter.unusedVariables false
set_option maxRecDepth 100000
set_option maxHeartbeats 16000000
set_option linter.unusedSimpArgs false
theorem x2f {K:Go.Act->World->Prop} {F:Nat->World->Prop} {act:Nat->Go.Act} {G:Prop} (h1:(∀ g V,F g V->K (act g) V)->G) (h2:∀ g V,F g V->K (act g) V):G:=h1 h2
theorem G5 (e:Int) (w:World):Kz 59 #[Iz e] w fun x w'=>x=.returned (Vz e 0)/\Out 0 0 w w':=by
 have f1:=heap_alloc_new w (Dz e 0 46);have o1:=(Out.refl 0 0 w).alloc (Dz e 0 46);have H:=Q3 (And.intro f1 o1);clear f1 o1;go_enter Tryz.func59,Tryz.ntmps59
 go_wp2;exact bodyPost_ret (W6 Tryz.results59 rfl (J8 H.out.1)) rfl ⟨rfl,H.out.2⟩
theorem z0k (e a:Int) (w:World):Kz 61 #[Vz e a] w fun x w'=>x=.returned (Vz e a)/\Out 0 0 w w':=by
 have f1:=J7 (w:=w) (o:=Dz e a 111) (o2:=Dz e a 46);have o1:=((Out.refl 0 0 w).alloc (Dz e a 111)).alloc (Dz e a 46);have H:=Q3 (And.intro f1 o1);clear f1 o1;go_enter Tryz.func61,Tryz.ntmps61
 go_wp2;exact bodyPost_ret (W6 Tryz.results61 rfl (J8 H.out.1)) rfl ⟨rfl,H.out.2⟩
theorem z2g {w:World} {lo hi cw co n:Nat} {s:Nat->Nat} {st:Sp} (h:RfAt w lo hi s n cw co st) (hI:Inv n st) {m t1 t2 t3 t4:Int} (hM:(J0 n st).M m=some (t1,t2,t3,t4)):Calls Tryz.prog 123 #[.pointer (some ⟨s 0,0,none⟩),.int .i64 m] w fun e w'=>e=.returned (.tuple #[.agg #[.int .i64 m,.int .i64 t1,.int .i64 t2,.int .i64 t3,.int .i64 t4],.bool true])/\Out 0 0 w w':=by
 obtain⟨j,rfl,hj⟩:=x6v hI m _ hM;obtain⟨e,hh⟩:=x7g hM;exact z3r h hj hh e.symm
theorem z5o {w:World} {lo hi cw co n:Nat} {s:Nat->Nat} {st:Sp} (h:RfAt w lo hi s n cw co st) {m:Int} (hM:(J0 n st).M m=none):Calls Tryz.prog 123 #[.pointer (some ⟨s 0,0,none⟩),.int .i64 m] w fun e w'=>e=.returned (.tuple #[.agg #[.int .i64 0,.int .i64 0,.int .i64 0,.int .i64 0,.int .i64 0],.bool false])/\Out 0 0 w w':=by
 refine z3q h fun k hk kP=>?_
 subst hk;cases hh:Y9 (st.O k)
 ·rfl
 ·rw[x2x hh] at hM;cases hM
section
variable {w:World} {lo hi rb cw co n:Nat} {s:Nat->Nat} {st:Sp}
theorem j1y (h:RfAt w lo hi s n cw co st) (hI:Inv n st) (hR:cq w rb 0=some (Pq (s 0))) (k m:Int) (hM:(J0 n st).M m=none):Kz 72 #[Pq rb,Vz k m] w fun e w'=>e=.returned (.tuple #[Wz 0 0 0 0 0,Vz 30 0])/\Out 0 0 w w':=by
 have fV:=Q3 (V5 (w:=w) (o:=Dz k m 32) (o2:=Ez 0 0 0 0 0 81) (o3:=Dz 0 0 46));have fR:=Q3 (X0 (w:=w) (o:=Dz k m 32) (o2:=Ez 0 0 0 0 0 81) (o3:=Dz 0 0 46));have fF:=Q3 (K4 (w:=w) (o:=Dz k m 32) (o2:=Ez 0 0 0 0 0 81) (o3:=Dz 0 0 46));have aI:=Q3 ((((Out.refl 0 0 w).alloc (Dz k m 32)).alloc (Ez 0 0 0 0 0 81)).alloc (Dz 0 0 46));have Hh:=Q3 h;have HI:=Q3 hI;obtain⟨gv,aR⟩:∃ g,w.heap.size=g:=⟨_,rfl⟩
 have bD:=Q3 aR;obtain⟨V2,aS⟩:∃ V,((w.alloc (Dz k m 32)).alloc (Ez 0 0 0 0 0 81)).alloc (Dz 0 0 46)=V:=⟨_,rfl⟩
 rw[aS,aR] at fV fR fF;rw[aS] at aI;have gO:=aI.out.cell hR z0;obtain⟨u0,u1,u2,u3⟩:=Q5 fV.out;have aL:gv+2<V2.heap.size/\rb<V2.heap.size:=⟨Q8 fF.out,Y7 gO⟩
 clear h hI hR;have HM:=Q3 hM;clear hM;have HB:Hid (∀ X,Out 0 0 V2 X->Kz 123 #[Pq (s 0),Iz m] X fun e w'=>e=.returned (.tuple #[Wz 0 0 0 0 0,.bool false])/\Out 0 0 X w'):=fun X o=>z5o (Hh.out.quiet (aI.out.trans o)) HM.out
 go_enter Tryz.func72,Tryz.ntmps72
 go_wp2_with fail;(try rw[aS]);(try rw[aR]);clear aS aR;rename_i K hKo
 apply x2f (K:=K) (F:=fun gA V=>Out 0 0 V2 V/\(fun w'=>cq w' rb 0=some (Pq (s 0))/\cq w' gv 1=some (Iz m)) V/\V.heap[gA]? = some (Ez 0 0 0 0 0 81)/\V2.heap.size<=gA)
 case h1=>
  intro HKc;refine wp_region_held_drew (S:=fun w'=>cq w' rb 0=some (Pq (s 0))/\cq w' gv 1=some (Iz m)) (by kernel_rfl) ?hS61 (fun aB=>?rest61)
  case hS61=>exact⟨gO,u1⟩
  obtain⟨Z1,hZ⟩:∃ Z,V2.drew=Z:=⟨_,rfl⟩
  have O:Out 0 0 V2 Z1:=by rw[<-hZ];exact(Out.refl 0 0 _).drew
  rw[hZ] at aB ⊢;clear hZ;refine tk 0 ?_;refine tk 1 ?_;refine tk 2 ?_;refine tk 3 ?_;refine tk 4 ?_;refine tk 5 ?_;refine rd2 6 10 (fun KK hK=>?_) fun KK hK=>?_
  ·simp only[xa,xb,xc];go_simp;refine(HB.out _ O).mono ?_;rintro e Z1C ⟨rfl,q1⟩;replace O:=O.trans q1;refine hK.out _ _ ⟨q1.cell aB.1 z0,q1.cell aB.2 z0⟩ fun aB=>?_
   clear q1 hK KK;refine tk 7 ?_;refine tk 8 ?_;refine tk 9 ?_;refine rd1 10 fun KK hK=>?_
   simp only[xa,xb,xc];go_simp;obtain⟨gA,aG⟩:∃ g,Z1C.heap.size=g:=⟨_,rfl⟩
   obtain⟨bX,hY⟩:∃ V,Z1C.alloc (Ez 0 0 0 0 0 81)=V:=⟨_,rfl⟩
   have qA:Out 0 0 Z1C bX:=by rw[<-hY];exact(Out.refl 0 0 _).alloc _
   have fA:bX.heap[gA]? = some (Ez 0 0 0 0 0 81):=by rw[<-hY,<-aG];exact heap_alloc_new _ _
   have bF:V2.heap.size<=gA:=by have:=O.size;omega
   (try rw[hY]);(try rw[aG]);clear hY aG;replace O:=O.trans qA;refine hK.out _ _ ⟨qA.cell aB.1 z0,qA.cell aB.2 z0⟩ fun aB=>?_
   clear qA hK KK;refine rd1 11 fun KK hK=>?_
   simp only[xa,xb,xc];obtain⟨y0,y1,y2,y3,y4,y5⟩:=W7 fA;go_simp;clear y0 y1 y2 y3 y4 y5;obtain⟨bL,hY⟩:∃ V,(((((bX.setCell ⟨gA,0,none⟩ (Iz 0)).setCell ⟨gA,1,none⟩ (Iz 0)).setCell ⟨gA,2,none⟩ (Iz 0)).setCell ⟨gA,3,none⟩ (Iz 0)).setCell ⟨gA,4,none⟩ (Iz 0))=V:=⟨_,rfl⟩
   have qS:Out gA (gA+1) bX bL:=by rw[<-hY];exact(Out.refl _ _ _).zo5 z1 _ _ _ _ _
   replace O:Out 0 0 V2 bL:=by rw[<-hY];exact O.zo5 (.inr bF) _ _ _ _ _
   have fB:bL.heap[gA]? = some (Ez 0 0 0 0 0 81):=by rw[<-hY];simp[World.setCell,Array.getElem?_modify,fA]
   (try rw[hY]);clear hY fA;refine hK.out _ _ ⟨qS.cell aB.1 (.inl (by have:=aL;omega)),qS.cell aB.2 (.inl (by have:=aL;omega))⟩ fun aB=>?_
   clear qS hK KK;refine tk 12 ?_;refine dn ?_;exact HKc gA _ ⟨O,aB,fB,bF⟩
  ·simp only[xa,xb,xc];go_simp;obtain⟨gA,aG⟩:∃ g,Z1.heap.size=g:=⟨_,rfl⟩
   obtain⟨kS,hY⟩:∃ V,Z1.alloc (Ez 0 0 0 0 0 81)=V:=⟨_,rfl⟩
   have qA:Out 0 0 Z1 kS:=by rw[<-hY];exact(Out.refl 0 0 _).alloc _
   have fA:kS.heap[gA]? = some (Ez 0 0 0 0 0 81):=by rw[<-hY,<-aG];exact heap_alloc_new _ _
   have bF:V2.heap.size<=gA:=by have:=O.size;omega
   (try rw[hY]);(try rw[aG]);clear hY aG;replace O:=O.trans qA;refine hK.out _ _ ⟨qA.cell aB.1 z0,qA.cell aB.2 z0⟩ fun aB=>?_
   clear qA hK KK;refine rd1 6 fun KK hK=>?_
   simp only[xa,xb,xc];go_simp;refine(HB.out _ O).mono ?_;rintro e Z1AC ⟨rfl,q1⟩;replace O:=O.trans q1;replace fA:=q1.heap fA z0;refine hK.out _ _ ⟨q1.cell aB.1 z0,q1.cell aB.2 z0⟩ fun aB=>?_
   clear q1 hK KK;refine tk 7 ?_;refine tk 8 ?_;refine tk 9 ?_;refine rd1 11 fun KK hK=>?_
   simp only[xa,xb,xc];obtain⟨y0,y1,y2,y3,y4,y5⟩:=W7 fA;go_simp;clear y0 y1 y2 y3 y4 y5;obtain⟨bM,hY⟩:∃ V,(((((Z1AC.setCell ⟨gA,0,none⟩ (Iz 0)).setCell ⟨gA,1,none⟩ (Iz 0)).setCell ⟨gA,2,none⟩ (Iz 0)).setCell ⟨gA,3,none⟩ (Iz 0)).setCell ⟨gA,4,none⟩ (Iz 0))=V:=⟨_,rfl⟩
   have qS:Out gA (gA+1) Z1AC bM:=by rw[<-hY];exact(Out.refl _ _ _).zo5 z1 _ _ _ _ _
   replace O:Out 0 0 V2 bM:=by rw[<-hY];exact O.zo5 (.inr bF) _ _ _ _ _
   have fB:bM.heap[gA]? = some (Ez 0 0 0 0 0 81):=by rw[<-hY];simp[World.setCell,Array.getElem?_modify,fA]
   (try rw[hY]);clear hY fA;refine hK.out _ _ ⟨qS.cell aB.1 (.inl (by have:=aL;omega)),qS.cell aB.2 (.inl (by have:=aL;omega))⟩ fun aB=>?_
   clear qS hK KK;refine tk 12 ?_;refine dn ?_;exact HKc gA _ ⟨O,aB,fB,bF⟩
 case h2=>
  intro gA Z1X hF;obtain⟨O,aB,fB,bF⟩:=hF;apply hKo;clear hKo K;by_cases kP:k=2
  ·subst kP;obtain⟨x0,x1,x2,x3⟩:=Q5 (O.heap fV.out z0);have HE:=Q3 O;clear O fB aB bF;go_wp2_with fail;refine(G5 30 _).mono ?_;rintro e X5 ⟨rfl,q5⟩;have jU:=Q3 (HE.out.trans q5);have lJ:=jU.out.heap fR.out z0;have iL:=jU.out.heap fF.out z0;obtain⟨v0,v1,v2,v3,v4,v5⟩:=W7 lJ;obtain⟨c0,c1,c2,c3⟩:=flt_facts iL;have e1:=G6 (x1:=0) (x2:=0) (x3:=0) (x4:=0) (x5:=0) lJ;have o1:=(Out.refl (gv+1) (gv+2) X5).set5 (g:=gv+1) z1 (Iz 0) (Iz 0) (Iz 0) (Iz 0) (Iz 0);have f1:=o1.heap iL (.inr (Nat.le_refl _));have f2:=J5 (x':=30) (y':=0) f1;have o2:=(Out.refl (gv+2) (gv+3) (((((X5.setCell ⟨gv+1,0,none⟩ (Iz 0)).setCell ⟨gv+1,1,none⟩ (Iz 0)).setCell ⟨gv+1,2,none⟩ (Iz 0)).setCell ⟨gv+1,3,none⟩ (Iz 0)).setCell ⟨gv+1,4,none⟩ (Iz 0))).set2 (b:=gv+2) (o:=0) (o':=1) z1 (Iz 30) (Iz 0);have e2:=o2.heap e1 (.inl (Nat.lt_succ_self _));have Q9:=((aI.out.trans jU.out).then o1 (by have:=bD.out;omega)).then o2 (by have:=bD.out;omega);have kN:=Q3 (And.intro e2 (And.intro f2 Q9));clear e1 o1 f1 f2 o2 e2 Q9 lJ iL;go_wp2;exact bodyPost_ret (J4 Tryz.results72 rfl rfl (G0 kN.out.1) (J8 kN.out.2.1)) rfl ⟨rfl,kN.out.2.2⟩
  ·have k2:(k != 2)=true:=by simpa using kP
   obtain⟨x0,x1,x2,x3⟩:=Q5 (O.heap fV.out z0);have HE:=Q3 O;clear O fB aB bF;go_wp2_with fail;refine(G5 30 _).mono ?_;rintro e X5 ⟨rfl,q5⟩;have jU:=Q3 (HE.out.trans q5);have lJ:=jU.out.heap fR.out z0;have iL:=jU.out.heap fF.out z0;obtain⟨v0,v1,v2,v3,v4,v5⟩:=W7 lJ;obtain⟨c0,c1,c2,c3⟩:=flt_facts iL;have e1:=G6 (x1:=0) (x2:=0) (x3:=0) (x4:=0) (x5:=0) lJ;have o1:=(Out.refl (gv+1) (gv+2) X5).set5 (g:=gv+1) z1 (Iz 0) (Iz 0) (Iz 0) (Iz 0) (Iz 0);have f1:=o1.heap iL (.inr (Nat.le_refl _));have f2:=J5 (x':=30) (y':=0) f1;have o2:=(Out.refl (gv+2) (gv+3) (((((X5.setCell ⟨gv+1,0,none⟩ (Iz 0)).setCell ⟨gv+1,1,none⟩ (Iz 0)).setCell ⟨gv+1,2,none⟩ (Iz 0)).setCell ⟨gv+1,3,none⟩ (Iz 0)).setCell ⟨gv+1,4,none⟩ (Iz 0))).set2 (b:=gv+2) (o:=0) (o':=1) z1 (Iz 30) (Iz 0);have e2:=o2.heap e1 (.inl (Nat.lt_succ_self _));have Q9:=((aI.out.trans jU.out).then o1 (by have:=bD.out;omega)).then o2 (by have:=bD.out;omega);have kN:=Q3 (And.intro e2 (And.intro f2 Q9));clear e1 o1 f1 f2 o2 e2 Q9 lJ iL;go_wp2;exact bodyPost_ret (J4 Tryz.results72 rfl rfl (G0 kN.out.1) (J8 kN.out.2.1)) rfl ⟨rfl,kN.out.2.2⟩
theorem j1x (h:RfAt w lo hi s n cw co st) (hI:Inv n st) (hR:cq w rb 0=some (Pq (s 0))) (k m:Int) {t1 t2 t3 t4:Int} (hM:(J0 n st).M m=some (t1,t2,t3,t4)) (hk:k ≠ 2):Kz 72 #[Pq rb,Vz k m] w fun e w'=>e=.returned (.tuple #[Wz 0 0 0 0 0,Vz 30 0])/\Out 0 0 w w':=by
 have fV:=Q3 (V5 (w:=w) (o:=Dz k m 32) (o2:=Ez 0 0 0 0 0 81) (o3:=Dz 0 0 46));have fR:=Q3 (X0 (w:=w) (o:=Dz k m 32) (o2:=Ez 0 0 0 0 0 81) (o3:=Dz 0 0 46));have fF:=Q3 (K4 (w:=w) (o:=Dz k m 32) (o2:=Ez 0 0 0 0 0 81) (o3:=Dz 0 0 46));have aI:=Q3 ((((Out.refl 0 0 w).alloc (Dz k m 32)).alloc (Ez 0 0 0 0 0 81)).alloc (Dz 0 0 46));have Hh:=Q3 h;have HI:=Q3 hI;obtain⟨gv,aR⟩:∃ g,w.heap.size=g:=⟨_,rfl⟩
 have bD:=Q3 aR;obtain⟨V2,aS⟩:∃ V,((w.alloc (Dz k m 32)).alloc (Ez 0 0 0 0 0 81)).alloc (Dz 0 0 46)=V:=⟨_,rfl⟩
 rw[aS,aR] at fV fR fF;rw[aS] at aI;have gO:=aI.out.cell hR z0;obtain⟨u0,u1,u2,u3⟩:=Q5 fV.out;have aL:gv+2<V2.heap.size/\rb<V2.heap.size:=⟨Q8 fF.out,Y7 gO⟩
 clear h hI hR;have HM:=Q3 hM;have k2:(k != 2)=true:=by simpa using hk
 clear hM hk;have HB:Hid (∀ X,Out 0 0 V2 X->Kz 123 #[Pq (s 0),Iz m] X fun e w'=>e=.returned (.tuple #[Wz m t1 t2 t3 t4,.bool true])/\Out 0 0 X w'):=fun X o=>z2g (Hh.out.quiet (aI.out.trans o)) HI.out HM.out
 go_enter Tryz.func72,Tryz.ntmps72
 go_wp2_with fail;(try rw[aS]);(try rw[aR]);clear aS aR;rename_i K hKo
 apply x2f (K:=K) (F:=fun gA V=>Out 0 0 V2 V/\(fun w'=>cq w' rb 0=some (Pq (s 0))/\cq w' gv 1=some (Iz m)) V/\V.heap[gA]? = some (Ez m t1 t2 t3 t4 81)/\V2.heap.size<=gA)
 case h1=>
  intro HKc;refine wp_region_held_drew (S:=fun w'=>cq w' rb 0=some (Pq (s 0))/\cq w' gv 1=some (Iz m)) (by kernel_rfl) ?hS82 (fun aB=>?rest82)
  case hS82=>exact⟨gO,u1⟩
  obtain⟨Z1,hZ⟩:∃ Z,V2.drew=Z:=⟨_,rfl⟩
  have O:Out 0 0 V2 Z1:=by rw[<-hZ];exact(Out.refl 0 0 _).drew
  rw[hZ] at aB ⊢;clear hZ;refine tk 0 ?_;refine tk 1 ?_;refine tk 2 ?_;refine tk 3 ?_;refine tk 4 ?_;refine tk 5 ?_;refine rd2 6 10 (fun KK hK=>?_) fun KK hK=>?_
  ·simp only[xa,xb,xc];go_simp;refine(HB.out _ O).mono ?_;rintro e Z1C ⟨rfl,q1⟩;replace O:=O.trans q1;refine hK.out _ _ ⟨q1.cell aB.1 z0,q1.cell aB.2 z0⟩ fun aB=>?_
   clear q1 hK KK;refine tk 7 ?_;refine tk 8 ?_;refine tk 9 ?_;refine rd1 10 fun KK hK=>?_
   simp only[xa,xb,xc];go_simp;obtain⟨gA,aG⟩:∃ g,Z1C.heap.size=g:=⟨_,rfl⟩
   obtain⟨bX,hY⟩:∃ V,Z1C.alloc (Ez 0 0 0 0 0 81)=V:=⟨_,rfl⟩
   have qA:Out 0 0 Z1C bX:=by rw[<-hY];exact(Out.refl 0 0 _).alloc _
   have fA:bX.heap[gA]? = some (Ez 0 0 0 0 0 81):=by rw[<-hY,<-aG];exact heap_alloc_new _ _
   have bF:V2.heap.size<=gA:=by have:=O.size;omega
   (try rw[hY]);(try rw[aG]);clear hY aG;replace O:=O.trans qA;refine hK.out _ _ ⟨qA.cell aB.1 z0,qA.cell aB.2 z0⟩ fun aB=>?_
   clear qA hK KK;refine rd1 11 fun KK hK=>?_
   simp only[xa,xb,xc];obtain⟨y0,y1,y2,y3,y4,y5⟩:=W7 fA;go_simp;clear y0 y1 y2 y3 y4 y5;obtain⟨bL,hY⟩:∃ V,(((((bX.setCell ⟨gA,0,none⟩ (Iz m)).setCell ⟨gA,1,none⟩ (Iz t1)).setCell ⟨gA,2,none⟩ (Iz t2)).setCell ⟨gA,3,none⟩ (Iz t3)).setCell ⟨gA,4,none⟩ (Iz t4))=V:=⟨_,rfl⟩
   have qS:Out gA (gA+1) bX bL:=by rw[<-hY];exact(Out.refl _ _ _).zo5 z1 _ _ _ _ _
   replace O:Out 0 0 V2 bL:=by rw[<-hY];exact O.zo5 (.inr bF) _ _ _ _ _
   have fB:bL.heap[gA]? = some (Ez m t1 t2 t3 t4 81):=by rw[<-hY];simp[World.setCell,Array.getElem?_modify,fA]
   (try rw[hY]);clear hY fA;refine hK.out _ _ ⟨qS.cell aB.1 (.inl (by have:=aL;omega)),qS.cell aB.2 (.inl (by have:=aL;omega))⟩ fun aB=>?_
   clear qS hK KK;refine tk 12 ?_;refine dn ?_;exact HKc gA _ ⟨O,aB,fB,bF⟩
  ·simp only[xa,xb,xc];go_simp;obtain⟨gA,aG⟩:∃ g,Z1.heap.size=g:=⟨_,rfl⟩
   obtain⟨kS,hY⟩:∃ V,Z1.alloc (Ez 0 0 0 0 0 81)=V:=⟨_,rfl⟩
   have qA:Out 0 0 Z1 kS:=by rw[<-hY];exact(Out.refl 0 0 _).alloc _
   have fA:kS.heap[gA]? = some (Ez 0 0 0 0 0 81):=by rw[<-hY,<-aG];exact heap_alloc_new _ _
   have bF:V2.heap.size<=gA:=by have:=O.size;omega
   (try rw[hY]);(try rw[aG]);clear hY aG;replace O:=O.trans qA;refine hK.out _ _ ⟨qA.cell aB.1 z0,qA.cell aB.2 z0⟩ fun aB=>?_
   clear qA hK KK;refine rd1 6 fun KK hK=>?_
   simp only[xa,xb,xc];go_simp;refine(HB.out _ O).mono ?_;rintro e Z1AC ⟨rfl,q1⟩;replace O:=O.trans q1;replace fA:=q1.heap fA z0;refine hK.out _ _ ⟨q1.cell aB.1 z0,q1.cell aB.2 z0⟩ fun aB=>?_
   clear q1 hK KK;refine tk 7 ?_;refine tk 8 ?_;refine tk 9 ?_;refine rd1 11 fun KK hK=>?_
   simp only[xa,xb,xc];obtain⟨y0,y1,y2,y3,y4,y5⟩:=W7 fA;go_simp;clear y0 y1 y2 y3 y4 y5;obtain⟨bM,hY⟩:∃ V,(((((Z1AC.setCell ⟨gA,0,none⟩ (Iz m)).setCell ⟨gA,1,none⟩ (Iz t1)).setCell ⟨gA,2,none⟩ (Iz t2)).setCell ⟨gA,3,none⟩ (Iz t3)).setCell ⟨gA,4,none⟩ (Iz t4))=V:=⟨_,rfl⟩
   have qS:Out gA (gA+1) Z1AC bM:=by rw[<-hY];exact(Out.refl _ _ _).zo5 z1 _ _ _ _ _
   replace O:Out 0 0 V2 bM:=by rw[<-hY];exact O.zo5 (.inr bF) _ _ _ _ _
   have fB:bM.heap[gA]? = some (Ez m t1 t2 t3 t4 81):=by rw[<-hY];simp[World.setCell,Array.getElem?_modify,fA]
   (try rw[hY]);clear hY fA;refine hK.out _ _ ⟨qS.cell aB.1 (.inl (by have:=aL;omega)),qS.cell aB.2 (.inl (by have:=aL;omega))⟩ fun aB=>?_
   clear qS hK KK;refine tk 12 ?_;refine dn ?_;exact HKc gA _ ⟨O,aB,fB,bF⟩
 case h2=>
  intro gA Z1X hF;obtain⟨O,aB,fB,bF⟩:=hF;apply hKo;clear hKo K;obtain⟨x0,x1,x2,x3⟩:=Q5 (O.heap fV.out z0);have HE:=Q3 O;clear O fB aB bF;go_wp2_with fail;refine(G5 30 _).mono ?_;rintro e X5 ⟨rfl,q5⟩;have jU:=Q3 (HE.out.trans q5);have lJ:=jU.out.heap fR.out z0;have iL:=jU.out.heap fF.out z0;obtain⟨v0,v1,v2,v3,v4,v5⟩:=W7 lJ;obtain⟨c0,c1,c2,c3⟩:=flt_facts iL;have e1:=G6 (x1:=0) (x2:=0) (x3:=0) (x4:=0) (x5:=0) lJ;have o1:=(Out.refl (gv+1) (gv+2) X5).set5 (g:=gv+1) z1 (Iz 0) (Iz 0) (Iz 0) (Iz 0) (Iz 0);have f1:=o1.heap iL (.inr (Nat.le_refl _));have f2:=J5 (x':=30) (y':=0) f1;have o2:=(Out.refl (gv+2) (gv+3) (((((X5.setCell ⟨gv+1,0,none⟩ (Iz 0)).setCell ⟨gv+1,1,none⟩ (Iz 0)).setCell ⟨gv+1,2,none⟩ (Iz 0)).setCell ⟨gv+1,3,none⟩ (Iz 0)).setCell ⟨gv+1,4,none⟩ (Iz 0))).set2 (b:=gv+2) (o:=0) (o':=1) z1 (Iz 30) (Iz 0);have e2:=o2.heap e1 (.inl (Nat.lt_succ_self _));have Q9:=((aI.out.trans jU.out).then o1 (by have:=bD.out;omega)).then o2 (by have:=bD.out;omega);have kN:=Q3 (And.intro e2 (And.intro f2 Q9));clear e1 o1 f1 f2 o2 e2 Q9 lJ iL;go_wp2;exact bodyPost_ret (J4 Tryz.results72 rfl rfl (G0 kN.out.1) (J8 kN.out.2.1)) rfl ⟨rfl,kN.out.2.2⟩
theorem j9j (h:RfAt w lo hi s n cw co st) (hI:Inv n st) (hR:cq w rb 0=some (Pq (s 0))) (k m:Int) {t1 t2 t3 t4 a0:Int} (hM:(J0 n st).M m=some (t1,t2,t3,t4)) (hk:k=2) (hc:z6u (J0 n st) m=0) (hca:z5m (J0 n st) m=a0):Kz 72 #[Pq rb,Vz k m] w fun e w'=>e=.returned (.tuple #[Wz m t1 t2 t3 t4,Vz 0 a0])/\Out 0 0 w w':=by
 subst hk;have Hc:=Q3 (And.intro hc hca);clear hc hca;have fV:=Q3 (V5 (w:=w) (o:=Dz 2 m 32) (o2:=Ez 0 0 0 0 0 81) (o3:=Dz 0 0 46));have fR:=Q3 (X0 (w:=w) (o:=Dz 2 m 32) (o2:=Ez 0 0 0 0 0 81) (o3:=Dz 0 0 46));have fF:=Q3 (K4 (w:=w) (o:=Dz 2 m 32) (o2:=Ez 0 0 0 0 0 81) (o3:=Dz 0 0 46));have aI:=Q3 ((((Out.refl 0 0 w).alloc (Dz 2 m 32)).alloc (Ez 0 0 0 0 0 81)).alloc (Dz 0 0 46));have Hh:=Q3 h;have HI:=Q3 hI;obtain⟨gv,aR⟩:∃ g,w.heap.size=g:=⟨_,rfl⟩
 have bD:=Q3 aR;obtain⟨V2,aS⟩:∃ V,((w.alloc (Dz 2 m 32)).alloc (Ez 0 0 0 0 0 81)).alloc (Dz 0 0 46)=V:=⟨_,rfl⟩
 rw[aS,aR] at fV fR fF;rw[aS] at aI;have gO:=aI.out.cell hR Oz;obtain⟨u0,u1,u2,u3⟩:=Q5 fV.out;have aL:gv+2<V2.heap.size/\rb<V2.heap.size:=⟨Q8 fF.out,Y7 gO⟩
 clear h hI hR;have HM:=Q3 hM;clear hM;have HB:Hid (∀ X,Out 0 0 V2 X->Kz 123 #[Pq (s 0),Iz m] X fun e w'=>e=.returned (.tuple #[Wz m t1 t2 t3 t4,.bool true])/\Out 0 0 X w'):=fun X o=>z2g (Hh.out.quiet (aI.out.trans o)) HI.out HM.out
 have HC:Hid (∀ X,Out 0 0 V2 X->Kz 127 #[Pq (s 0),Iz m] X fun e w'=>e=.returned (Vz 0 a0)/\Out 0 0 X w'):=fun X o=>by
  have q:=z4t (Hh.out.quiet (aI.out.trans o)) HI.out m;rw[Hc.out.1,Hc.out.2] at q;exact q
 go_enter Tryz.func72,Tryz.ntmps72
 go_wp2_with fail;(try rw[aS]);(try rw[aR]);clear aS aR;rename_i K hKo
 apply x2f (K:=K) (F:=fun gA V=>Out 0 0 V2 V/\(fun w'=>cq w' rb 0=some (Pq (s 0))/\cq w' gv 1=some (Iz m)) V/\V.heap[gA]? = some (Ez m t1 t2 t3 t4 81)/\V2.heap.size<=gA)
 case h1=>
  intro HKc;refine wp_region_held_drew (S:=fun w'=>cq w' rb 0=some (Pq (s 0))/\cq w' gv 1=some (Iz m)) (by kernel_rfl) ?hS103 (fun aB=>?rest103)
  case hS103=>exact⟨gO,u1⟩
  obtain⟨Z1,hZ⟩:∃ Z,V2.drew=Z:=⟨_,rfl⟩
  have O:Out 0 0 V2 Z1:=by rw[<-hZ];exact(Out.refl 0 0 _).drew
  rw[hZ] at aB ⊢;clear hZ;refine tk 0 ?_;refine tk 1 ?_;refine tk 2 ?_;refine tk 3 ?_;refine tk 4 ?_;refine tk 5 ?_;refine rd2 6 10 (fun KK hK=>?_) fun KK hK=>?_
  ·simp only[xa,xb,xc];go_simp;refine(HB.out _ O).mono ?_;rintro e Z1C ⟨rfl,q1⟩;replace O:=O.trans q1;refine hK.out _ _ ⟨q1.cell aB.1 Oz,q1.cell aB.2 Oz⟩ fun aB=>?_
   clear q1 hK KK;refine tk 7 ?_;refine tk 8 ?_;refine tk 9 ?_;refine rd1 10 fun KK hK=>?_
   simp only[xa,xb,xc];go_simp;obtain⟨gA,aG⟩:∃ g,Z1C.heap.size=g:=⟨_,rfl⟩
   obtain⟨bX,hY⟩:∃ V,Z1C.alloc (Ez 0 0 0 0 0 81)=V:=⟨_,rfl⟩
   have qA:Out 0 0 Z1C bX:=by rw[<-hY];exact(Out.refl 0 0 _).alloc _
   have fA:bX.heap[gA]? = some (Ez 0 0 0 0 0 81):=by rw[<-hY,<-aG];exact heap_alloc_new _ _
   have bF:V2.heap.size<=gA:=by have:=O.size;omega
   (try rw[hY]);(try rw[aG]);clear hY aG;replace O:=O.trans qA;refine hK.out _ _ ⟨qA.cell aB.1 Oz,qA.cell aB.2 Oz⟩ fun aB=>?_
   clear qA hK KK;refine rd1 11 fun KK hK=>?_
   simp only[xa,xb,xc];obtain⟨y0,y1,y2,y3,y4,y5⟩:=W7 fA;go_simp;clear y0 y1 y2 y3 y4 y5;obtain⟨bL,hY⟩:∃ V,(((((bX.setCell ⟨gA,0,none⟩ (Iz m)).setCell ⟨gA,1,none⟩ (Iz t1)).setCell ⟨gA,2,none⟩ (Iz t2)).setCell ⟨gA,3,none⟩ (Iz t3)).setCell ⟨gA,4,none⟩ (Iz t4))=V:=⟨_,rfl⟩
   have qS:Out gA (gA+1) bX bL:=by rw[<-hY];exact(Out.refl _ _ _).zo5 Lz _ _ _ _ _
   replace O:Out 0 0 V2 bL:=by rw[<-hY];exact O.zo5 (.inr bF) _ _ _ _ _
   have fB:bL.heap[gA]? = some (Ez m t1 t2 t3 t4 81):=by rw[<-hY];simp[World.setCell,Array.getElem?_modify,fA]
   (try rw[hY]);clear hY fA;refine hK.out _ _ ⟨qS.cell aB.1 (.inl (by have:=aL;omega)),qS.cell aB.2 (.inl (by have:=aL;omega))⟩ fun aB=>?_
   clear qS hK KK;refine tk 12 ?_;refine dn ?_;exact HKc gA _ ⟨O,aB,fB,bF⟩
  ·simp only[xa,xb,xc];go_simp;obtain⟨gA,aG⟩:∃ g,Z1.heap.size=g:=⟨_,rfl⟩
   obtain⟨kS,hY⟩:∃ V,Z1.alloc (Ez 0 0 0 0 0 81)=V:=⟨_,rfl⟩
   have qA:Out 0 0 Z1 kS:=by rw[<-hY];exact(Out.refl 0 0 _).alloc _
   have fA:kS.heap[gA]? = some (Ez 0 0 0 0 0 81):=by rw[<-hY,<-aG];exact heap_alloc_new _ _
   have bF:V2.heap.size<=gA:=by have:=O.size;omega
   (try rw[hY]);(try rw[aG]);clear hY aG;replace O:=O.trans qA;refine hK.out _ _ ⟨qA.cell aB.1 Oz,qA.cell aB.2 Oz⟩ fun aB=>?_
   clear qA hK KK;refine rd1 6 fun KK hK=>?_
   simp only[xa,xb,xc];go_simp;refine(HB.out _ O).mono ?_;rintro e Z1AC ⟨rfl,q1⟩;replace O:=O.trans q1;replace fA:=q1.heap fA Oz;refine hK.out _ _ ⟨q1.cell aB.1 Oz,q1.cell aB.2 Oz⟩ fun aB=>?_
   clear q1 hK KK;refine tk 7 ?_;refine tk 8 ?_;refine tk 9 ?_;refine rd1 11 fun KK hK=>?_
   simp only[xa,xb,xc];obtain⟨y0,y1,y2,y3,y4,y5⟩:=W7 fA;go_simp;clear y0 y1 y2 y3 y4 y5;obtain⟨bM,hY⟩:∃ V,(((((Z1AC.setCell ⟨gA,0,none⟩ (Iz m)).setCell ⟨gA,1,none⟩ (Iz t1)).setCell ⟨gA,2,none⟩ (Iz t2)).setCell ⟨gA,3,none⟩ (Iz t3)).setCell ⟨gA,4,none⟩ (Iz t4))=V:=⟨_,rfl⟩
   have qS:Out gA (gA+1) Z1AC bM:=by rw[<-hY];exact(Out.refl _ _ _).zo5 Lz _ _ _ _ _
   replace O:Out 0 0 V2 bM:=by rw[<-hY];exact O.zo5 (.inr bF) _ _ _ _ _
   have fB:bM.heap[gA]? = some (Ez m t1 t2 t3 t4 81):=by rw[<-hY];simp[World.setCell,Array.getElem?_modify,fA]
   (try rw[hY]);clear hY fA;refine hK.out _ _ ⟨qS.cell aB.1 (.inl (by have:=aL;omega)),qS.cell aB.2 (.inl (by have:=aL;omega))⟩ fun aB=>?_
   clear qS hK KK;refine tk 12 ?_;refine dn ?_;exact HKc gA _ ⟨O,aB,fB,bF⟩
 case h2=>
  intro gA Z1X hF;obtain⟨O,aB,fB,bF⟩:=hF;apply hKo;clear hKo K;obtain⟨x0,x1,x2,x3⟩:=Q5 (O.heap fV.out Oz);have HE:=Q3 O;have nF:=Q3 fB;obtain⟨y0,y1,y2,y3,y4,y5⟩:=W7 fB;have hH9:=HE.out.cell gO Oz;clear O fB aB;go_wp2_with fail;clear x0 x1 x2 x3 y1 y2 y3 y4 y5;refine wp_region_held_drew (S:=fun w'=>cq w' rb 0=some (Pq (s 0))/\cq w' gA 0=some (Iz m)) (by kernel_rfl) ?hS124 (fun aB=>?rest124)
  case hS124=>exact⟨hH9,y0⟩
  obtain⟨Y,hZ⟩:∃ Z,Z1X.drew=Z:=⟨_,rfl⟩
  have O:Out 0 0 V2 Y:=by rw[<-hZ];exact HE.out.drew
  have bY:Hid (Y.heap[gA]? = some (Ez m t1 t2 t3 t4 81)):=by rw[<-hZ];exact nF.out
  rw[hZ] at aB ⊢;clear hZ;refine tk 0 ?_;refine tk 1 ?_;refine tk 2 ?_;refine tk 3 ?_;refine tk 4 ?_;refine tk 5 ?_;refine rd2 6 8 (fun KK hK=>?_) fun KK hK=>?_
  ·simp only[xa,xb,xc];go_simp;refine(HC.out _ O).mono ?_;rintro e YC ⟨rfl,q1⟩;replace O:=O.trans q1;replace bY:=Q3 (q1.heap bY.out Oz);refine hK.out _ _ ⟨q1.cell aB.1 Oz,q1.cell aB.2 Oz⟩ fun aB=>?_
   clear q1 hK KK;refine rd2 7 8 (fun KK hK=>?_) fun KK hK=>?_
   ·simp only[xa,xb,xc];go_simp;refine(z0k _ _ _).mono ?_;rintro e YCT ⟨rfl,q1⟩;replace O:=O.trans q1;replace bY:=Q3 (q1.heap bY.out Oz);refine hK.out _ _ ⟨q1.cell aB.1 Oz,q1.cell aB.2 Oz⟩ fun aB=>?_
    clear q1 hK KK;refine rd1 8 fun KK hK=>?_
    simp only[xa,xb,xc];go_simp;obtain⟨gE,aG⟩:∃ g,YCT.heap.size=g:=⟨_,rfl⟩
    obtain⟨qZ,hY⟩:∃ V,YCT.alloc (Dz 0 0 46)=V:=⟨_,rfl⟩
    have qA:Out 0 0 YCT qZ:=by rw[<-hY];exact(Out.refl 0 0 _).alloc _
    have fE:qZ.heap[gE]? = some (Dz 0 0 46):=by rw[<-hY,<-aG];exact heap_alloc_new _ _
    have cY:V2.heap.size<=gE/\gA<gE:=⟨by have:=O.size;omega,by have:=O.size;have:=Y7 aB.2;omega⟩
    (try rw[hY]);(try rw[aG]);clear hY aG;replace O:=O.trans qA;replace bY:=Q3 (qA.heap bY.out Oz);refine hK.out _ _ ⟨qA.cell aB.1 Oz,qA.cell aB.2 Oz⟩ fun aB=>?_
    clear qA hK KK;refine rd1 9 fun KK hK=>?_
    simp only[xa,xb,xc];obtain⟨y0,y1,y2,y3⟩:=flt_facts fE;go_simp;clear y0 y1 y2 y3;obtain⟨jL,hY⟩:∃ V,((qZ.setCell ⟨gE,0,none⟩ (Iz 0)).setCell ⟨gE,1,none⟩ (Iz a0))=V:=⟨_,rfl⟩
    have qS:Out gE (gE+1) qZ jL:=by rw[<-hY];exact(Out.refl _ _ _).set2 Lz _ _
    replace O:Out 0 0 V2 jL:=by rw[<-hY];exact O.set2 (.inr cY.1) _ _
    have fE2:jL.heap[gE]? = some (Dz 0 a0 46):=by rw[<-hY];exact J5 fE
    replace bY:=Q3 (qS.heap bY.out (.inl cY.2));(try rw[hY]);clear hY fE;refine hK.out _ _ ⟨qS.cell aB.1 (.inl (by have h1:=aL;have h2:=cY;omega)),qS.cell aB.2 (.inl (by have h1:=aL;have h2:=cY;omega))⟩ fun aB=>?_
    clear qS hK KK;refine dn ?_;have fB2:jL.heap[gA]? = some (Ez m t1 t2 t3 t4 81):=bY.out;obtain⟨b0,b1,b2,b3,b4,_⟩:=W7 fB2;clear fB2 bY;have bN:=Q3 (aI.out.trans O);have lJ:=O.heap fR.out Oz;have iL:=O.heap fF.out Oz;have fM:=Q3 lJ;have iN:=Q3 iL;obtain⟨z0,z1,_,_⟩:=flt_facts fE2;clear aB lJ iL O;go_wp2_with fail;refine wp_region_held_drew (S:=fun w'=>cq w' gA 0=some (Iz m)/\cq w' gA 1=some (Iz t1)/\cq w' gA 2=some (Iz t2)/\cq w' gA 3=some (Iz t3)/\cq w' gA 4=some (Iz t4)/\cq w' gE 0=some (Iz 0)/\cq w' gE 1=some (Iz a0)) (by kernel_rfl) ?hS135 (fun aB=>?rest135)
    case hS135=>exact⟨b0,b1,b2,b3,b4,z0,z1⟩
    obtain⟨Q0,hZ⟩:∃ Z,jL.drew=Z:=⟨_,rfl⟩
    have OQ:Out 0 0 jL Q0:=by rw[<-hZ];exact(Out.refl 0 0 _).drew
    rw[hZ] at aB ⊢;clear hZ;have gY:=Q3 (OQ.heap fM.out Oz);have iE:=Q3 (OQ.heap iN.out Oz);have bJ:=Q3 (bN.out.trans OQ);clear OQ;refine tk 0 ?_;refine tk 1 ?_;refine rd1 2 fun KK hK=>?_
    simp only[xa,xb,xc];obtain⟨v0,v1,v2,v3,v4,v5⟩:=W7 gY.out;go_simp;clear v0 v1 v2 v3 v4 v5;have e1:=G6 (x1:=m) (x2:=t1) (x3:=t2) (x4:=t3) (x5:=t4) gY.out;obtain⟨Q1,hY⟩:∃ V,(((((Q0.setCell ⟨gv+1,0,none⟩ (Iz m)).setCell ⟨gv+1,1,none⟩ (Iz t1)).setCell ⟨gv+1,2,none⟩ (Iz t2)).setCell ⟨gv+1,3,none⟩ (Iz t3)).setCell ⟨gv+1,4,none⟩ (Iz t4))=V:=⟨_,rfl⟩
    have q8:Out (gv+1) (gv+2) Q0 Q1:=by rw[<-hY];exact(Out.refl _ _ _).set5 Lz _ _ _ _ _
    rw[hY] at e1 ⊢;clear hY;have jB:=Q3 e1;have eI:=Q3 (q8.heap iE.out (.inr (Nat.le_refl _)));have iH:=Q3 (bJ.out.then q8 (by have:=bD.out;omega));clear e1;refine hK.out _ _ ⟨q8.cell aB.1 (.inr (by have h1:=cY;have h2:=bF;have h3:=aL;omega)),q8.cell aB.2.1 (.inr (by have h1:=cY;have h2:=bF;have h3:=aL;omega)),q8.cell aB.2.2.1 (.inr (by have h1:=cY;have h2:=bF;have h3:=aL;omega)),q8.cell aB.2.2.2.1 (.inr (by have h1:=cY;have h2:=bF;have h3:=aL;omega)),q8.cell aB.2.2.2.2.1 (.inr (by have h1:=cY;have h2:=bF;have h3:=aL;omega)),q8.cell aB.2.2.2.2.2.1 (.inr (by have h1:=cY;have h2:=bF;have h3:=aL;omega)),q8.cell aB.2.2.2.2.2.2 (.inr (by have h1:=cY;have h2:=bF;have h3:=aL;omega))⟩ fun aB=>?_
    clear q8 hK KK;refine rd1 3 fun KK hK=>?_
    simp only[xa,xb,xc];obtain⟨c0,c1,c2,c3⟩:=flt_facts eI.out;go_simp;clear c0 c1 c2 c3;have f2:=J5 (x':=0) (y':=a0) eI.out;obtain⟨Q2,hY⟩:∃ V,(Q1.setCell ⟨gv+2,0,none⟩ (Iz 0)).setCell ⟨gv+2,1,none⟩ (Iz a0)=V:=⟨_,rfl⟩
    have q9:Out (gv+2) (gv+3) Q1 Q2:=by rw[<-hY];exact(Out.refl _ _ _).set2 Lz _ _
    rw[hY] at f2 ⊢;clear hY;have iI:=Q3 f2;have oL:=Q3 (q9.heap jB.out (.inl (Nat.lt_succ_self _)));have kM:=Q3 (iH.out.then q9 (by have:=bD.out;omega));clear f2;refine hK.out _ _ ⟨q9.cell aB.1 (.inr (by have h1:=cY;have h2:=bF;have h3:=aL;omega)),q9.cell aB.2.1 (.inr (by have h1:=cY;have h2:=bF;have h3:=aL;omega)),q9.cell aB.2.2.1 (.inr (by have h1:=cY;have h2:=bF;have h3:=aL;omega)),q9.cell aB.2.2.2.1 (.inr (by have h1:=cY;have h2:=bF;have h3:=aL;omega)),q9.cell aB.2.2.2.2.1 (.inr (by have h1:=cY;have h2:=bF;have h3:=aL;omega)),q9.cell aB.2.2.2.2.2.1 (.inr (by have h1:=cY;have h2:=bF;have h3:=aL;omega)),q9.cell aB.2.2.2.2.2.2 (.inr (by have h1:=cY;have h2:=bF;have h3:=aL;omega))⟩ fun aB=>?_
    clear q9 hK KK;refine dn ?_;clear aB;go_wp2;exact bodyPost_ret (J4 Tryz.results72 rfl rfl (G0 oL.out) (J8 iI.out)) rfl ⟨rfl,kM.out⟩
   ·simp only[xa,xb,xc];go_simp;obtain⟨gE,aG⟩:∃ g,YC.heap.size=g:=⟨_,rfl⟩
    obtain⟨YCA,hY⟩:∃ V,YC.alloc (Dz 0 0 46)=V:=⟨_,rfl⟩
    have qA:Out 0 0 YC YCA:=by rw[<-hY];exact(Out.refl 0 0 _).alloc _
    have fE:YCA.heap[gE]? = some (Dz 0 0 46):=by rw[<-hY,<-aG];exact heap_alloc_new _ _
    have cY:V2.heap.size<=gE/\gA<gE:=⟨by have:=O.size;omega,by have:=O.size;have:=Y7 aB.2;omega⟩
    (try rw[hY]);(try rw[aG]);clear hY aG;replace O:=O.trans qA;replace bY:=Q3 (qA.heap bY.out Oz);refine hK.out _ _ ⟨qA.cell aB.1 Oz,qA.cell aB.2 Oz⟩ fun aB=>?_
    clear qA hK KK;refine rd1 7 fun KK hK=>?_
    simp only[xa,xb,xc];go_simp;refine(z0k _ _ _).mono ?_;rintro e YCAT ⟨rfl,q1⟩;replace O:=O.trans q1;replace bY:=Q3 (q1.heap bY.out Oz);replace fE:=q1.heap fE Oz;refine hK.out _ _ ⟨q1.cell aB.1 Oz,q1.cell aB.2 Oz⟩ fun aB=>?_
    clear q1 hK KK;refine rd1 9 fun KK hK=>?_
    simp only[xa,xb,xc];obtain⟨y0,y1,y2,y3⟩:=flt_facts fE;go_simp;clear y0 y1 y2 y3;obtain⟨jM,hY⟩:∃ V,((YCAT.setCell ⟨gE,0,none⟩ (Iz 0)).setCell ⟨gE,1,none⟩ (Iz a0))=V:=⟨_,rfl⟩
    have qS:Out gE (gE+1) YCAT jM:=by rw[<-hY];exact(Out.refl _ _ _).set2 Lz _ _
    replace O:Out 0 0 V2 jM:=by rw[<-hY];exact O.set2 (.inr cY.1) _ _
    have fE2:jM.heap[gE]? = some (Dz 0 a0 46):=by rw[<-hY];exact J5 fE
    replace bY:=Q3 (qS.heap bY.out (.inl cY.2));(try rw[hY]);clear hY fE;refine hK.out _ _ ⟨qS.cell aB.1 (.inl (by have h1:=aL;have h2:=cY;omega)),qS.cell aB.2 (.inl (by have h1:=aL;have h2:=cY;omega))⟩ fun aB=>?_
    clear qS hK KK;refine dn ?_;have fB2:jM.heap[gA]? = some (Ez m t1 t2 t3 t4 81):=bY.out;obtain⟨b0,b1,b2,b3,b4,_⟩:=W7 fB2;clear fB2 bY;have bN:=Q3 (aI.out.trans O);have lJ:=O.heap fR.out Oz;have iL:=O.heap fF.out Oz;have fM:=Q3 lJ;have iN:=Q3 iL;obtain⟨z0,z1,_,_⟩:=flt_facts fE2;clear aB lJ iL O;go_wp2_with fail;refine wp_region_held_drew (S:=fun w'=>cq w' gA 0=some (Iz m)/\cq w' gA 1=some (Iz t1)/\cq w' gA 2=some (Iz t2)/\cq w' gA 3=some (Iz t3)/\cq w' gA 4=some (Iz t4)/\cq w' gE 0=some (Iz 0)/\cq w' gE 1=some (Iz a0)) (by kernel_rfl) ?hS143 (fun aB=>?rest143)
    case hS143=>exact⟨b0,b1,b2,b3,b4,z0,z1⟩
    obtain⟨Q0,hZ⟩:∃ Z,jM.drew=Z:=⟨_,rfl⟩
    have OQ:Out 0 0 jM Q0:=by rw[<-hZ];exact(Out.refl 0 0 _).drew
    rw[hZ] at aB ⊢;clear hZ;have gY:=Q3 (OQ.heap fM.out Oz);have iE:=Q3 (OQ.heap iN.out Oz);have bJ:=Q3 (bN.out.trans OQ);clear OQ;refine tk 0 ?_;refine tk 1 ?_;refine rd1 2 fun KK hK=>?_
    simp only[xa,xb,xc];obtain⟨v0,v1,v2,v3,v4,v5⟩:=W7 gY.out;go_simp;clear v0 v1 v2 v3 v4 v5;have e1:=G6 (x1:=m) (x2:=t1) (x3:=t2) (x4:=t3) (x5:=t4) gY.out;obtain⟨Q1,hY⟩:∃ V,(((((Q0.setCell ⟨gv+1,0,none⟩ (Iz m)).setCell ⟨gv+1,1,none⟩ (Iz t1)).setCell ⟨gv+1,2,none⟩ (Iz t2)).setCell ⟨gv+1,3,none⟩ (Iz t3)).setCell ⟨gv+1,4,none⟩ (Iz t4))=V:=⟨_,rfl⟩
    have q8:Out (gv+1) (gv+2) Q0 Q1:=by rw[<-hY];exact(Out.refl _ _ _).set5 Lz _ _ _ _ _
    rw[hY] at e1 ⊢;clear hY;have jB:=Q3 e1;have eI:=Q3 (q8.heap iE.out (.inr (Nat.le_refl _)));have iH:=Q3 (bJ.out.then q8 (by have:=bD.out;omega));clear e1;refine hK.out _ _ ⟨q8.cell aB.1 (.inr (by have h1:=cY;have h2:=bF;have h3:=aL;omega)),q8.cell aB.2.1 (.inr (by have h1:=cY;have h2:=bF;have h3:=aL;omega)),q8.cell aB.2.2.1 (.inr (by have h1:=cY;have h2:=bF;have h3:=aL;omega)),q8.cell aB.2.2.2.1 (.inr (by have h1:=cY;have h2:=bF;have h3:=aL;omega)),q8.cell aB.2.2.2.2.1 (.inr (by have h1:=cY;have h2:=bF;have h3:=aL;omega)),q8.cell aB.2.2.2.2.2.1 (.inr (by have h1:=cY;have h2:=bF;have h3:=aL;omega)),q8.cell aB.2.2.2.2.2.2 (.inr (by have h1:=cY;have h2:=bF;have h3:=aL;omega))⟩ fun aB=>?_
    clear q8 hK KK;refine rd1 3 fun KK hK=>?_
    simp only[xa,xb,xc];obtain⟨c0,c1,c2,c3⟩:=flt_facts eI.out;go_simp;clear c0 c1 c2 c3;have f2:=J5 (x':=0) (y':=a0) eI.out;obtain⟨Q2,hY⟩:∃ V,(Q1.setCell ⟨gv+2,0,none⟩ (Iz 0)).setCell ⟨gv+2,1,none⟩ (Iz a0)=V:=⟨_,rfl⟩
    have q9:Out (gv+2) (gv+3) Q1 Q2:=by rw[<-hY];exact(Out.refl _ _ _).set2 Lz _ _
    rw[hY] at f2 ⊢;clear hY;have iI:=Q3 f2;have oL:=Q3 (q9.heap jB.out (.inl (Nat.lt_succ_self _)));have kM:=Q3 (iH.out.then q9 (by have:=bD.out;omega));clear f2;refine hK.out _ _ ⟨q9.cell aB.1 (.inr (by have h1:=cY;have h2:=bF;have h3:=aL;omega)),q9.cell aB.2.1 (.inr (by have h1:=cY;have h2:=bF;have h3:=aL;omega)),q9.cell aB.2.2.1 (.inr (by have h1:=cY;have h2:=bF;have h3:=aL;omega)),q9.cell aB.2.2.2.1 (.inr (by have h1:=cY;have h2:=bF;have h3:=aL;omega)),q9.cell aB.2.2.2.2.1 (.inr (by have h1:=cY;have h2:=bF;have h3:=aL;omega)),q9.cell aB.2.2.2.2.2.1 (.inr (by have h1:=cY;have h2:=bF;have h3:=aL;omega)),q9.cell aB.2.2.2.2.2.2 (.inr (by have h1:=cY;have h2:=bF;have h3:=aL;omega))⟩ fun aB=>?_
    clear q9 hK KK;refine dn ?_;clear aB;go_wp2;exact bodyPost_ret (J4 Tryz.results72 rfl rfl (G0 oL.out) (J8 iI.out)) rfl ⟨rfl,kM.out⟩
  ·simp only[xa,xb,xc];go_simp;obtain⟨gE,aG⟩:∃ g,Y.heap.size=g:=⟨_,rfl⟩
   obtain⟨YA,hY⟩:∃ V,Y.alloc (Dz 0 0 46)=V:=⟨_,rfl⟩
   have qA:Out 0 0 Y YA:=by rw[<-hY];exact(Out.refl 0 0 _).alloc _
   have fE:YA.heap[gE]? = some (Dz 0 0 46):=by rw[<-hY,<-aG];exact heap_alloc_new _ _
   have cY:V2.heap.size<=gE/\gA<gE:=⟨by have:=O.size;omega,by have:=O.size;have:=Y7 aB.2;omega⟩
   (try rw[hY]);(try rw[aG]);clear hY aG;replace O:=O.trans qA;replace bY:=Q3 (qA.heap bY.out Oz);refine hK.out _ _ ⟨qA.cell aB.1 Oz,qA.cell aB.2 Oz⟩ fun aB=>?_
   clear qA hK KK;refine rd1 6 fun KK hK=>?_
   simp only[xa,xb,xc];go_simp;refine(HC.out _ O).mono ?_;rintro e YAC ⟨rfl,q1⟩;replace O:=O.trans q1;replace bY:=Q3 (q1.heap bY.out Oz);replace fE:=q1.heap fE Oz;refine hK.out _ _ ⟨q1.cell aB.1 Oz,q1.cell aB.2 Oz⟩ fun aB=>?_
   clear q1 hK KK;refine rd1 7 fun KK hK=>?_
   simp only[xa,xb,xc];go_simp;refine(z0k _ _ _).mono ?_;rintro e YACT ⟨rfl,q1⟩;replace O:=O.trans q1;replace bY:=Q3 (q1.heap bY.out Oz);replace fE:=q1.heap fE Oz;refine hK.out _ _ ⟨q1.cell aB.1 Oz,q1.cell aB.2 Oz⟩ fun aB=>?_
   clear q1 hK KK;refine rd1 9 fun KK hK=>?_
   simp only[xa,xb,xc];obtain⟨y0,y1,y2,y3⟩:=flt_facts fE;go_simp;clear y0 y1 y2 y3;obtain⟨jN,hY⟩:∃ V,((YACT.setCell ⟨gE,0,none⟩ (Iz 0)).setCell ⟨gE,1,none⟩ (Iz a0))=V:=⟨_,rfl⟩
   have qS:Out gE (gE+1) YACT jN:=by rw[<-hY];exact(Out.refl _ _ _).set2 Lz _ _
   replace O:Out 0 0 V2 jN:=by rw[<-hY];exact O.set2 (.inr cY.1) _ _
   have fE2:jN.heap[gE]? = some (Dz 0 a0 46):=by rw[<-hY];exact J5 fE
   replace bY:=Q3 (qS.heap bY.out (.inl cY.2));(try rw[hY]);clear hY fE;refine hK.out _ _ ⟨qS.cell aB.1 (.inl (by have h1:=aL;have h2:=cY;omega)),qS.cell aB.2 (.inl (by have h1:=aL;have h2:=cY;omega))⟩ fun aB=>?_
   clear qS hK KK;refine dn ?_;have fB2:jN.heap[gA]? = some (Ez m t1 t2 t3 t4 81):=bY.out;obtain⟨b0,b1,b2,b3,b4,_⟩:=W7 fB2;clear fB2 bY;have bN:=Q3 (aI.out.trans O);have lJ:=O.heap fR.out Oz;have iL:=O.heap fF.out Oz;have fM:=Q3 lJ;have iN:=Q3 iL;obtain⟨z0,z1,_,_⟩:=flt_facts fE2;clear aB lJ iL O;go_wp2_with fail;refine wp_region_held_drew (S:=fun w'=>cq w' gA 0=some (Iz m)/\cq w' gA 1=some (Iz t1)/\cq w' gA 2=some (Iz t2)/\cq w' gA 3=some (Iz t3)/\cq w' gA 4=some (Iz t4)/\cq w' gE 0=some (Iz 0)/\cq w' gE 1=some (Iz a0)) (by kernel_rfl) ?hS152 (fun aB=>?rest152)
   case hS152=>exact⟨b0,b1,b2,b3,b4,z0,z1⟩
   obtain⟨Q0,hZ⟩:∃ Z,jN.drew=Z:=⟨_,rfl⟩
   have OQ:Out 0 0 jN Q0:=by rw[<-hZ];exact(Out.refl 0 0 _).drew
   rw[hZ] at aB ⊢;clear hZ;have gY:=Q3 (OQ.heap fM.out Oz);have iE:=Q3 (OQ.heap iN.out Oz);have bJ:=Q3 (bN.out.trans OQ);clear OQ;refine tk 0 ?_;refine tk 1 ?_;refine rd1 2 fun KK hK=>?_
   simp only[xa,xb,xc];obtain⟨v0,v1,v2,v3,v4,v5⟩:=W7 gY.out;go_simp;clear v0 v1 v2 v3 v4 v5;have e1:=G6 (x1:=m) (x2:=t1) (x3:=t2) (x4:=t3) (x5:=t4) gY.out;obtain⟨Q1,hY⟩:∃ V,(((((Q0.setCell ⟨gv+1,0,none⟩ (Iz m)).setCell ⟨gv+1,1,none⟩ (Iz t1)).setCell ⟨gv+1,2,none⟩ (Iz t2)).setCell ⟨gv+1,3,none⟩ (Iz t3)).setCell ⟨gv+1,4,none⟩ (Iz t4))=V:=⟨_,rfl⟩
   have q8:Out (gv+1) (gv+2) Q0 Q1:=by rw[<-hY];exact(Out.refl _ _ _).set5 Lz _ _ _ _ _
   rw[hY] at e1 ⊢;clear hY;have jB:=Q3 e1;have eI:=Q3 (q8.heap iE.out (.inr (Nat.le_refl _)));have iH:=Q3 (bJ.out.then q8 (by have:=bD.out;omega));clear e1;refine hK.out _ _ ⟨q8.cell aB.1 (.inr (by have h1:=cY;have h2:=bF;have h3:=aL;omega)),q8.cell aB.2.1 (.inr (by have h1:=cY;have h2:=bF;have h3:=aL;omega)),q8.cell aB.2.2.1 (.inr (by have h1:=cY;have h2:=bF;have h3:=aL;omega)),q8.cell aB.2.2.2.1 (.inr (by have h1:=cY;have h2:=bF;have h3:=aL;omega)),q8.cell aB.2.2.2.2.1 (.inr (by have h1:=cY;have h2:=bF;have h3:=aL;omega)),q8.cell aB.2.2.2.2.2.1 (.inr (by have h1:=cY;have h2:=bF;have h3:=aL;omega)),q8.cell aB.2.2.2.2.2.2 (.inr (by have h1:=cY;have h2:=bF;have h3:=aL;omega))⟩ fun aB=>?_
   clear q8 hK KK;refine rd1 3 fun KK hK=>?_
   simp only[xa,xb,xc];obtain⟨c0,c1,c2,c3⟩:=flt_facts eI.out;go_simp;clear c0 c1 c2 c3;have f2:=J5 (x':=0) (y':=a0) eI.out;obtain⟨Q2,hY⟩:∃ V,(Q1.setCell ⟨gv+2,0,none⟩ (Iz 0)).setCell ⟨gv+2,1,none⟩ (Iz a0)=V:=⟨_,rfl⟩
   have q9:Out (gv+2) (gv+3) Q1 Q2:=by rw[<-hY];exact(Out.refl _ _ _).set2 Lz _ _
   rw[hY] at f2 ⊢;clear hY;have iI:=Q3 f2;have oL:=Q3 (q9.heap jB.out (.inl (Nat.lt_succ_self _)));have kM:=Q3 (iH.out.then q9 (by have:=bD.out;omega));clear f2;refine hK.out _ _ ⟨q9.cell aB.1 (.inr (by have h1:=cY;have h2:=bF;have h3:=aL;omega)),q9.cell aB.2.1 (.inr (by have h1:=cY;have h2:=bF;have h3:=aL;omega)),q9.cell aB.2.2.1 (.inr (by have h1:=cY;have h2:=bF;have h3:=aL;omega)),q9.cell aB.2.2.2.1 (.inr (by have h1:=cY;have h2:=bF;have h3:=aL;omega)),q9.cell aB.2.2.2.2.1 (.inr (by have h1:=cY;have h2:=bF;have h3:=aL;omega)),q9.cell aB.2.2.2.2.2.1 (.inr (by have h1:=cY;have h2:=bF;have h3:=aL;omega)),q9.cell aB.2.2.2.2.2.2 (.inr (by have h1:=cY;have h2:=bF;have h3:=aL;omega))⟩ fun aB=>?_
   clear q9 hK KK;refine dn ?_;clear aB;go_wp2;exact bodyPost_ret (J4 Tryz.results72 rfl rfl (G0 oL.out) (J8 iI.out)) rfl ⟨rfl,kM.out⟩
theorem q7j (h:RfAt w lo hi s n cw co st) (hI:Inv n st) (hR:cq w rb 0=some (Pq (s 0))) (k m:Int) {t1 t2 t3 t4 e0 a0:Int} (hM:(J0 n st).M m=some (t1,t2,t3,t4)) (hk:k=2) (hc:z6u (J0 n st) m=e0) (hca:z5m (J0 n st) m=a0) (he:e0 ≠ 0):Kz 72 #[Pq rb,Vz k m] w fun e w'=>e=.returned (.tuple #[Wz 0 0 0 0 0,Vz e0 a0])/\Out 0 0 w w':=by
 subst hk;have Hc:=Q3 (And.intro hc hca);clear hc hca;have qR:(e0 != 0)=true:=by simpa using he
 clear he;have fV:=Q3 (V5 (w:=w) (o:=Dz 2 m 32) (o2:=Ez 0 0 0 0 0 81) (o3:=Dz 0 0 46));have fR:=Q3 (X0 (w:=w) (o:=Dz 2 m 32) (o2:=Ez 0 0 0 0 0 81) (o3:=Dz 0 0 46));have fF:=Q3 (K4 (w:=w) (o:=Dz 2 m 32) (o2:=Ez 0 0 0 0 0 81) (o3:=Dz 0 0 46));have aI:=Q3 ((((Out.refl 0 0 w).alloc (Dz 2 m 32)).alloc (Ez 0 0 0 0 0 81)).alloc (Dz 0 0 46));have Hh:=Q3 h;have HI:=Q3 hI;obtain⟨gv,aR⟩:∃ g,w.heap.size=g:=⟨_,rfl⟩
 have bD:=Q3 aR;obtain⟨V2,aS⟩:∃ V,((w.alloc (Dz 2 m 32)).alloc (Ez 0 0 0 0 0 81)).alloc (Dz 0 0 46)=V:=⟨_,rfl⟩
 rw[aS,aR] at fV fR fF;rw[aS] at aI;have gO:=aI.out.cell hR Oz;obtain⟨u0,u1,u2,u3⟩:=Q5 fV.out;have aL:gv+2<V2.heap.size/\rb<V2.heap.size:=⟨Q8 fF.out,Y7 gO⟩
 clear h hI hR;have HM:=Q3 hM;clear hM;have HB:Hid (∀ X,Out 0 0 V2 X->Kz 123 #[Pq (s 0),Iz m] X fun e w'=>e=.returned (.tuple #[Wz m t1 t2 t3 t4,.bool true])/\Out 0 0 X w'):=fun X o=>z2g (Hh.out.quiet (aI.out.trans o)) HI.out HM.out
 have HC:Hid (∀ X,Out 0 0 V2 X->Kz 127 #[Pq (s 0),Iz m] X fun e w'=>e=.returned (Vz e0 a0)/\Out 0 0 X w'):=fun X o=>by
  have q:=z4t (Hh.out.quiet (aI.out.trans o)) HI.out m;rw[Hc.out.1,Hc.out.2] at q;exact q
 go_enter Tryz.func72,Tryz.ntmps72
 go_wp2_with fail;(try rw[aS]);(try rw[aR]);clear aS aR;rename_i K hKo
 apply x2f (K:=K) (F:=fun gA V=>Out 0 0 V2 V/\(fun w'=>cq w' rb 0=some (Pq (s 0))/\cq w' gv 1=some (Iz m)) V/\V.heap[gA]? = some (Ez m t1 t2 t3 t4 81)/\V2.heap.size<=gA)
 case h1=>
  intro HKc;refine wp_region_held_drew (S:=fun w'=>cq w' rb 0=some (Pq (s 0))/\cq w' gv 1=some (Iz m)) (by kernel_rfl) ?hS157 (fun aB=>?rest157)
  case hS157=>exact⟨gO,u1⟩
  obtain⟨Z1,hZ⟩:∃ Z,V2.drew=Z:=⟨_,rfl⟩
  have O:Out 0 0 V2 Z1:=by rw[<-hZ];exact(Out.refl 0 0 _).drew
  rw[hZ] at aB ⊢;clear hZ;refine tk 0 ?_;refine tk 1 ?_;refine tk 2 ?_;refine tk 3 ?_;refine tk 4 ?_;refine tk 5 ?_;refine rd2 6 10 (fun KK hK=>?_) fun KK hK=>?_
  ·simp only[xa,xb,xc];go_simp;refine(HB.out _ O).mono ?_;rintro e Z1C ⟨rfl,q1⟩;replace O:=O.trans q1;refine hK.out _ _ ⟨q1.cell aB.1 Oz,q1.cell aB.2 Oz⟩ fun aB=>?_
   clear q1 hK KK;refine tk 7 ?_;refine tk 8 ?_;refine tk 9 ?_;refine rd1 10 fun KK hK=>?_
   simp only[xa,xb,xc];go_simp;obtain⟨gA,aG⟩:∃ g,Z1C.heap.size=g:=⟨_,rfl⟩
   obtain⟨bX,hY⟩:∃ V,Z1C.alloc (Ez 0 0 0 0 0 81)=V:=⟨_,rfl⟩
   have qA:Out 0 0 Z1C bX:=by rw[<-hY];exact(Out.refl 0 0 _).alloc _
   have fA:bX.heap[gA]? = some (Ez 0 0 0 0 0 81):=by rw[<-hY,<-aG];exact heap_alloc_new _ _
   have bF:V2.heap.size<=gA:=by have:=O.size;omega
   (try rw[hY]);(try rw[aG]);clear hY aG;replace O:=O.trans qA;refine hK.out _ _ ⟨qA.cell aB.1 Oz,qA.cell aB.2 Oz⟩ fun aB=>?_
   clear qA hK KK;refine rd1 11 fun KK hK=>?_
   simp only[xa,xb,xc];obtain⟨y0,y1,y2,y3,y4,y5⟩:=W7 fA;go_simp;clear y0 y1 y2 y3 y4 y5;obtain⟨bL,hY⟩:∃ V,(((((bX.setCell ⟨gA,0,none⟩ (Iz m)).setCell ⟨gA,1,none⟩ (Iz t1)).setCell ⟨gA,2,none⟩ (Iz t2)).setCell ⟨gA,3,none⟩ (Iz t3)).setCell ⟨gA,4,none⟩ (Iz t4))=V:=⟨_,rfl⟩
   have qS:Out gA (gA+1) bX bL:=by rw[<-hY];exact(Out.refl _ _ _).zo5 Lz _ _ _ _ _
   replace O:Out 0 0 V2 bL:=by rw[<-hY];exact O.zo5 (.inr bF) _ _ _ _ _
   have fB:bL.heap[gA]? = some (Ez m t1 t2 t3 t4 81):=by rw[<-hY];simp[World.setCell,Array.getElem?_modify,fA]
   (try rw[hY]);clear hY fA;refine hK.out _ _ ⟨qS.cell aB.1 (.inl (by have:=aL;omega)),qS.cell aB.2 (.inl (by have:=aL;omega))⟩ fun aB=>?_
   clear qS hK KK;refine tk 12 ?_;refine dn ?_;exact HKc gA _ ⟨O,aB,fB,bF⟩
  ·simp only[xa,xb,xc];go_simp;obtain⟨gA,aG⟩:∃ g,Z1.heap.size=g:=⟨_,rfl⟩
   obtain⟨kS,hY⟩:∃ V,Z1.alloc (Ez 0 0 0 0 0 81)=V:=⟨_,rfl⟩
   have qA:Out 0 0 Z1 kS:=by rw[<-hY];exact(Out.refl 0 0 _).alloc _
   have fA:kS.heap[gA]? = some (Ez 0 0 0 0 0 81):=by rw[<-hY,<-aG];exact heap_alloc_new _ _
   have bF:V2.heap.size<=gA:=by have:=O.size;omega
   (try rw[hY]);(try rw[aG]);clear hY aG;replace O:=O.trans qA;refine hK.out _ _ ⟨qA.cell aB.1 Oz,qA.cell aB.2 Oz⟩ fun aB=>?_
   clear qA hK KK;refine rd1 6 fun KK hK=>?_
   simp only[xa,xb,xc];go_simp;refine(HB.out _ O).mono ?_;rintro e Z1AC ⟨rfl,q1⟩;replace O:=O.trans q1;replace fA:=q1.heap fA Oz;refine hK.out _ _ ⟨q1.cell aB.1 Oz,q1.cell aB.2 Oz⟩ fun aB=>?_
   clear q1 hK KK;refine tk 7 ?_;refine tk 8 ?_;refine tk 9 ?_;refine rd1 11 fun KK hK=>?_
   simp only[xa,xb,xc];obtain⟨y0,y1,y2,y3,y4,y5⟩:=W7 fA;go_simp;clear y0 y1 y2 y3 y4 y5;obtain⟨bM,hY⟩:∃ V,(((((Z1AC.setCell ⟨gA,0,none⟩ (Iz m)).setCell ⟨gA,1,none⟩ (Iz t1)).setCell ⟨gA,2,none⟩ (Iz t2)).setCell ⟨gA,3,none⟩ (Iz t3)).setCell ⟨gA,4,none⟩ (Iz t4))=V:=⟨_,rfl⟩
   have qS:Out gA (gA+1) Z1AC bM:=by rw[<-hY];exact(Out.refl _ _ _).zo5 Lz _ _ _ _ _
   replace O:Out 0 0 V2 bM:=by rw[<-hY];exact O.zo5 (.inr bF) _ _ _ _ _
   have fB:bM.heap[gA]? = some (Ez m t1 t2 t3 t4 81):=by rw[<-hY];simp[World.setCell,Array.getElem?_modify,fA]
   (try rw[hY]);clear hY fA;refine hK.out _ _ ⟨qS.cell aB.1 (.inl (by have:=aL;omega)),qS.cell aB.2 (.inl (by have:=aL;omega))⟩ fun aB=>?_
   clear qS hK KK;refine tk 12 ?_;refine dn ?_;exact HKc gA _ ⟨O,aB,fB,bF⟩
 case h2=>
  intro gA Z1X hF;obtain⟨O,aB,fB,bF⟩:=hF;apply hKo;clear hKo K;obtain⟨x0,x1,x2,x3⟩:=Q5 (O.heap fV.out Oz);have HE:=Q3 O;have nF:=Q3 fB;obtain⟨y0,y1,y2,y3,y4,y5⟩:=W7 fB;have hH9:=HE.out.cell gO Oz;clear O fB aB;go_wp2_with fail;clear x0 x1 x2 x3 y1 y2 y3 y4 y5;refine wp_region_held_drew (S:=fun w'=>cq w' rb 0=some (Pq (s 0))/\cq w' gA 0=some (Iz m)) (by kernel_rfl) ?hS178 (fun aB=>?rest178)
  case hS178=>exact⟨hH9,y0⟩
  obtain⟨Y,hZ⟩:∃ Z,Z1X.drew=Z:=⟨_,rfl⟩
  have O:Out 0 0 V2 Y:=by rw[<-hZ];exact HE.out.drew
  have bY:Hid (Y.heap[gA]? = some (Ez m t1 t2 t3 t4 81)):=by rw[<-hZ];exact nF.out
  rw[hZ] at aB ⊢;clear hZ;refine tk 0 ?_;refine tk 1 ?_;refine tk 2 ?_;refine tk 3 ?_;refine tk 4 ?_;refine tk 5 ?_;refine rd2 6 8 (fun KK hK=>?_) fun KK hK=>?_
  ·simp only[xa,xb,xc];go_simp;refine(HC.out _ O).mono ?_;rintro e YC ⟨rfl,q1⟩;replace O:=O.trans q1;replace bY:=Q3 (q1.heap bY.out Oz);refine hK.out _ _ ⟨q1.cell aB.1 Oz,q1.cell aB.2 Oz⟩ fun aB=>?_
   clear q1 hK KK;refine rd2 7 8 (fun KK hK=>?_) fun KK hK=>?_
   ·simp only[xa,xb,xc];go_simp;refine(z0k _ _ _).mono ?_;rintro e YCT ⟨rfl,q1⟩;replace O:=O.trans q1;replace bY:=Q3 (q1.heap bY.out Oz);refine hK.out _ _ ⟨q1.cell aB.1 Oz,q1.cell aB.2 Oz⟩ fun aB=>?_
    clear q1 hK KK;refine rd1 8 fun KK hK=>?_
    simp only[xa,xb,xc];go_simp;obtain⟨gE,aG⟩:∃ g,YCT.heap.size=g:=⟨_,rfl⟩
    obtain⟨qZ,hY⟩:∃ V,YCT.alloc (Dz 0 0 46)=V:=⟨_,rfl⟩
    have qA:Out 0 0 YCT qZ:=by rw[<-hY];exact(Out.refl 0 0 _).alloc _
    have fE:qZ.heap[gE]? = some (Dz 0 0 46):=by rw[<-hY,<-aG];exact heap_alloc_new _ _
    have cY:V2.heap.size<=gE/\gA<gE:=⟨by have:=O.size;omega,by have:=O.size;have:=Y7 aB.2;omega⟩
    (try rw[hY]);(try rw[aG]);clear hY aG;replace O:=O.trans qA;replace bY:=Q3 (qA.heap bY.out Oz);refine hK.out _ _ ⟨qA.cell aB.1 Oz,qA.cell aB.2 Oz⟩ fun aB=>?_
    clear qA hK KK;refine rd1 9 fun KK hK=>?_
    simp only[xa,xb,xc];obtain⟨y0,y1,y2,y3⟩:=flt_facts fE;go_simp;clear y0 y1 y2 y3;obtain⟨jL,hY⟩:∃ V,((qZ.setCell ⟨gE,0,none⟩ (Iz e0)).setCell ⟨gE,1,none⟩ (Iz a0))=V:=⟨_,rfl⟩
    have qS:Out gE (gE+1) qZ jL:=by rw[<-hY];exact(Out.refl _ _ _).set2 Lz _ _
    replace O:Out 0 0 V2 jL:=by rw[<-hY];exact O.set2 (.inr cY.1) _ _
    have fE2:jL.heap[gE]? = some (Dz e0 a0 46):=by rw[<-hY];exact J5 fE
    replace bY:=Q3 (qS.heap bY.out (.inl cY.2));(try rw[hY]);clear hY fE;refine hK.out _ _ ⟨qS.cell aB.1 (.inl (by have h1:=aL;have h2:=cY;omega)),qS.cell aB.2 (.inl (by have h1:=aL;have h2:=cY;omega))⟩ fun aB=>?_
    clear qS hK KK;refine dn ?_;clear bY;have bN:=Q3 (aI.out.trans O);have lJ:=O.heap fR.out Oz;have iL:=O.heap fF.out Oz;have fM:=Q3 lJ;have iN:=Q3 iL;obtain⟨z0,z1,_,_⟩:=flt_facts fE2;clear aB lJ iL O;go_wp2_with fail;refine wp_region_held_drew (S:=fun w'=>cq w' gE 0=some (Iz e0)/\cq w' gE 1=some (Iz a0)) (by kernel_rfl) ?hS189 (fun aB=>?rest189)
    case hS189=>exact⟨z0,z1⟩
    obtain⟨Q0,hZ⟩:∃ Z,jL.drew=Z:=⟨_,rfl⟩
    have OQ:Out 0 0 jL Q0:=by rw[<-hZ];exact(Out.refl 0 0 _).drew
    rw[hZ] at aB ⊢;clear hZ;have gY:=Q3 (OQ.heap fM.out Oz);have iE:=Q3 (OQ.heap iN.out Oz);have bJ:=Q3 (bN.out.trans OQ);clear OQ;refine tk 0 ?_;refine tk 1 ?_;refine rd1 2 fun KK hK=>?_
    simp only[xa,xb,xc];obtain⟨v0,v1,v2,v3,v4,v5⟩:=W7 gY.out;go_simp;clear v0 v1 v2 v3 v4 v5;have e1:=G6 (x1:=0) (x2:=0) (x3:=0) (x4:=0) (x5:=0) gY.out;obtain⟨Q1,hY⟩:∃ V,(((((Q0.setCell ⟨gv+1,0,none⟩ (Iz 0)).setCell ⟨gv+1,1,none⟩ (Iz 0)).setCell ⟨gv+1,2,none⟩ (Iz 0)).setCell ⟨gv+1,3,none⟩ (Iz 0)).setCell ⟨gv+1,4,none⟩ (Iz 0))=V:=⟨_,rfl⟩
    have q8:Out (gv+1) (gv+2) Q0 Q1:=by rw[<-hY];exact(Out.refl _ _ _).set5 Lz _ _ _ _ _
    rw[hY] at e1 ⊢;clear hY;have jB:=Q3 e1;have eI:=Q3 (q8.heap iE.out (.inr (Nat.le_refl _)));have iH:=Q3 (bJ.out.then q8 (by have:=bD.out;omega));clear e1;refine hK.out _ _ ⟨q8.cell aB.1 (.inr (by have h1:=cY;have h2:=bF;have h3:=aL;omega)),q8.cell aB.2 (.inr (by have h1:=cY;have h2:=bF;have h3:=aL;omega))⟩ fun aB=>?_
    clear q8 hK KK;refine rd1 3 fun KK hK=>?_
    simp only[xa,xb,xc];obtain⟨c0,c1,c2,c3⟩:=flt_facts eI.out;go_simp;clear c0 c1 c2 c3;have f2:=J5 (x':=e0) (y':=a0) eI.out;obtain⟨Q2,hY⟩:∃ V,(Q1.setCell ⟨gv+2,0,none⟩ (Iz e0)).setCell ⟨gv+2,1,none⟩ (Iz a0)=V:=⟨_,rfl⟩
    have q9:Out (gv+2) (gv+3) Q1 Q2:=by rw[<-hY];exact(Out.refl _ _ _).set2 Lz _ _
    rw[hY] at f2 ⊢;clear hY;have iI:=Q3 f2;have oL:=Q3 (q9.heap jB.out (.inl (Nat.lt_succ_self _)));have kM:=Q3 (iH.out.then q9 (by have:=bD.out;omega));clear f2;refine hK.out _ _ ⟨q9.cell aB.1 (.inr (by have h1:=cY;have h2:=bF;have h3:=aL;omega)),q9.cell aB.2 (.inr (by have h1:=cY;have h2:=bF;have h3:=aL;omega))⟩ fun aB=>?_
    clear q9 hK KK;refine dn ?_;clear aB;go_wp2;exact bodyPost_ret (J4 Tryz.results72 rfl rfl (G0 oL.out) (J8 iI.out)) rfl ⟨rfl,kM.out⟩
   ·simp only[xa,xb,xc];go_simp;obtain⟨gE,aG⟩:∃ g,YC.heap.size=g:=⟨_,rfl⟩
    obtain⟨YCA,hY⟩:∃ V,YC.alloc (Dz 0 0 46)=V:=⟨_,rfl⟩
    have qA:Out 0 0 YC YCA:=by rw[<-hY];exact(Out.refl 0 0 _).alloc _
    have fE:YCA.heap[gE]? = some (Dz 0 0 46):=by rw[<-hY,<-aG];exact heap_alloc_new _ _
    have cY:V2.heap.size<=gE/\gA<gE:=⟨by have:=O.size;omega,by have:=O.size;have:=Y7 aB.2;omega⟩
    (try rw[hY]);(try rw[aG]);clear hY aG;replace O:=O.trans qA;replace bY:=Q3 (qA.heap bY.out Oz);refine hK.out _ _ ⟨qA.cell aB.1 Oz,qA.cell aB.2 Oz⟩ fun aB=>?_
    clear qA hK KK;refine rd1 7 fun KK hK=>?_
    simp only[xa,xb,xc];go_simp;refine(z0k _ _ _).mono ?_;rintro e YCAT ⟨rfl,q1⟩;replace O:=O.trans q1;replace bY:=Q3 (q1.heap bY.out Oz);replace fE:=q1.heap fE Oz;refine hK.out _ _ ⟨q1.cell aB.1 Oz,q1.cell aB.2 Oz⟩ fun aB=>?_
    clear q1 hK KK;refine rd1 9 fun KK hK=>?_
    simp only[xa,xb,xc];obtain⟨y0,y1,y2,y3⟩:=flt_facts fE;go_simp;clear y0 y1 y2 y3;obtain⟨jM,hY⟩:∃ V,((YCAT.setCell ⟨gE,0,none⟩ (Iz e0)).setCell ⟨gE,1,none⟩ (Iz a0))=V:=⟨_,rfl⟩
    have qS:Out gE (gE+1) YCAT jM:=by rw[<-hY];exact(Out.refl _ _ _).set2 Lz _ _
    replace O:Out 0 0 V2 jM:=by rw[<-hY];exact O.set2 (.inr cY.1) _ _
    have fE2:jM.heap[gE]? = some (Dz e0 a0 46):=by rw[<-hY];exact J5 fE
    replace bY:=Q3 (qS.heap bY.out (.inl cY.2));(try rw[hY]);clear hY fE;refine hK.out _ _ ⟨qS.cell aB.1 (.inl (by have h1:=aL;have h2:=cY;omega)),qS.cell aB.2 (.inl (by have h1:=aL;have h2:=cY;omega))⟩ fun aB=>?_
    clear qS hK KK;refine dn ?_;clear bY;have bN:=Q3 (aI.out.trans O);have lJ:=O.heap fR.out Oz;have iL:=O.heap fF.out Oz;have fM:=Q3 lJ;have iN:=Q3 iL;obtain⟨z0,z1,_,_⟩:=flt_facts fE2;clear aB lJ iL O;go_wp2_with fail;refine wp_region_held_drew (S:=fun w'=>cq w' gE 0=some (Iz e0)/\cq w' gE 1=some (Iz a0)) (by kernel_rfl) ?hS197 (fun aB=>?rest197)
    case hS197=>exact⟨z0,z1⟩
    obtain⟨Q0,hZ⟩:∃ Z,jM.drew=Z:=⟨_,rfl⟩
    have OQ:Out 0 0 jM Q0:=by rw[<-hZ];exact(Out.refl 0 0 _).drew
    rw[hZ] at aB ⊢;clear hZ;have gY:=Q3 (OQ.heap fM.out Oz);have iE:=Q3 (OQ.heap iN.out Oz);have bJ:=Q3 (bN.out.trans OQ);clear OQ;refine tk 0 ?_;refine tk 1 ?_;refine rd1 2 fun KK hK=>?_
    simp only[xa,xb,xc];obtain⟨v0,v1,v2,v3,v4,v5⟩:=W7 gY.out;go_simp;clear v0 v1 v2 v3 v4 v5;have e1:=G6 (x1:=0) (x2:=0) (x3:=0) (x4:=0) (x5:=0) gY.out;obtain⟨Q1,hY⟩:∃ V,(((((Q0.setCell ⟨gv+1,0,none⟩ (Iz 0)).setCell ⟨gv+1,1,none⟩ (Iz 0)).setCell ⟨gv+1,2,none⟩ (Iz 0)).setCell ⟨gv+1,3,none⟩ (Iz 0)).setCell ⟨gv+1,4,none⟩ (Iz 0))=V:=⟨_,rfl⟩
    have q8:Out (gv+1) (gv+2) Q0 Q1:=by rw[<-hY];exact(Out.refl _ _ _).set5 Lz _ _ _ _ _
    rw[hY] at e1 ⊢;clear hY;have jB:=Q3 e1;have eI:=Q3 (q8.heap iE.out (.inr (Nat.le_refl _)));have iH:=Q3 (bJ.out.then q8 (by have:=bD.out;omega));clear e1;refine hK.out _ _ ⟨q8.cell aB.1 (.inr (by have h1:=cY;have h2:=bF;have h3:=aL;omega)),q8.cell aB.2 (.inr (by have h1:=cY;have h2:=bF;have h3:=aL;omega))⟩ fun aB=>?_
    clear q8 hK KK;refine rd1 3 fun KK hK=>?_
    simp only[xa,xb,xc];obtain⟨c0,c1,c2,c3⟩:=flt_facts eI.out;go_simp;clear c0 c1 c2 c3;have f2:=J5 (x':=e0) (y':=a0) eI.out;obtain⟨Q2,hY⟩:∃ V,(Q1.setCell ⟨gv+2,0,none⟩ (Iz e0)).setCell ⟨gv+2,1,none⟩ (Iz a0)=V:=⟨_,rfl⟩
    have q9:Out (gv+2) (gv+3) Q1 Q2:=by rw[<-hY];exact(Out.refl _ _ _).set2 Lz _ _
    rw[hY] at f2 ⊢;clear hY;have iI:=Q3 f2;have oL:=Q3 (q9.heap jB.out (.inl (Nat.lt_succ_self _)));have kM:=Q3 (iH.out.then q9 (by have:=bD.out;omega));clear f2;refine hK.out _ _ ⟨q9.cell aB.1 (.inr (by have h1:=cY;have h2:=bF;have h3:=aL;omega)),q9.cell aB.2 (.inr (by have h1:=cY;have h2:=bF;have h3:=aL;omega))⟩ fun aB=>?_
    clear q9 hK KK;refine dn ?_;clear aB;go_wp2;exact bodyPost_ret (J4 Tryz.results72 rfl rfl (G0 oL.out) (J8 iI.out)) rfl ⟨rfl,kM.out⟩
  ·simp only[xa,xb,xc];go_simp;obtain⟨gE,aG⟩:∃ g,Y.heap.size=g:=⟨_,rfl⟩
   obtain⟨YA,hY⟩:∃ V,Y.alloc (Dz 0 0 46)=V:=⟨_,rfl⟩
   have qA:Out 0 0 Y YA:=by rw[<-hY];exact(Out.refl 0 0 _).alloc _
   have fE:YA.heap[gE]? = some (Dz 0 0 46):=by rw[<-hY,<-aG];exact heap_alloc_new _ _
   have cY:V2.heap.size<=gE/\gA<gE:=⟨by have:=O.size;omega,by have:=O.size;have:=Y7 aB.2;omega⟩
   (try rw[hY]);(try rw[aG]);clear hY aG;replace O:=O.trans qA;replace bY:=Q3 (qA.heap bY.out Oz);refine hK.out _ _ ⟨qA.cell aB.1 Oz,qA.cell aB.2 Oz⟩ fun aB=>?_
   clear qA hK KK;refine rd1 6 fun KK hK=>?_
   simp only[xa,xb,xc];go_simp;refine(HC.out _ O).mono ?_;rintro e YAC ⟨rfl,q1⟩;replace O:=O.trans q1;replace bY:=Q3 (q1.heap bY.out Oz);replace fE:=q1.heap fE Oz;refine hK.out _ _ ⟨q1.cell aB.1 Oz,q1.cell aB.2 Oz⟩ fun aB=>?_
   clear q1 hK KK;refine rd1 7 fun KK hK=>?_
   simp only[xa,xb,xc];go_simp;refine(z0k _ _ _).mono ?_;rintro e YACT ⟨rfl,q1⟩;replace O:=O.trans q1;replace bY:=Q3 (q1.heap bY.out Oz);replace fE:=q1.heap fE Oz;refine hK.out _ _ ⟨q1.cell aB.1 Oz,q1.cell aB.2 Oz⟩ fun aB=>?_
   clear q1 hK KK;refine rd1 9 fun KK hK=>?_
   simp only[xa,xb,xc];obtain⟨y0,y1,y2,y3⟩:=flt_facts fE;go_simp;clear y0 y1 y2 y3;obtain⟨jN,hY⟩:∃ V,((YACT.setCell ⟨gE,0,none⟩ (Iz e0)).setCell ⟨gE,1,none⟩ (Iz a0))=V:=⟨_,rfl⟩
   have qS:Out gE (gE+1) YACT jN:=by rw[<-hY];exact(Out.refl _ _ _).set2 Lz _ _
   replace O:Out 0 0 V2 jN:=by rw[<-hY];exact O.set2 (.inr cY.1) _ _
   have fE2:jN.heap[gE]? = some (Dz e0 a0 46):=by rw[<-hY];exact J5 fE
   replace bY:=Q3 (qS.heap bY.out (.inl cY.2));(try rw[hY]);clear hY fE;refine hK.out _ _ ⟨qS.cell aB.1 (.inl (by have h1:=aL;have h2:=cY;omega)),qS.cell aB.2 (.inl (by have h1:=aL;have h2:=cY;omega))⟩ fun aB=>?_
   clear qS hK KK;refine dn ?_;clear bY;have bN:=Q3 (aI.out.trans O);have lJ:=O.heap fR.out Oz;have iL:=O.heap fF.out Oz;have fM:=Q3 lJ;have iN:=Q3 iL;obtain⟨z0,z1,_,_⟩:=flt_facts fE2;clear aB lJ iL O;go_wp2_with fail;refine wp_region_held_drew (S:=fun w'=>cq w' gE 0=some (Iz e0)/\cq w' gE 1=some (Iz a0)) (by kernel_rfl) ?hS206 (fun aB=>?rest206)
   case hS206=>exact⟨z0,z1⟩
   obtain⟨Q0,hZ⟩:∃ Z,jN.drew=Z:=⟨_,rfl⟩
   have OQ:Out 0 0 jN Q0:=by rw[<-hZ];exact(Out.refl 0 0 _).drew
   rw[hZ] at aB ⊢;clear hZ;have gY:=Q3 (OQ.heap fM.out Oz);have iE:=Q3 (OQ.heap iN.out Oz);have bJ:=Q3 (bN.out.trans OQ);clear OQ;refine tk 0 ?_;refine tk 1 ?_;refine rd1 2 fun KK hK=>?_
   simp only[xa,xb,xc];obtain⟨v0,v1,v2,v3,v4,v5⟩:=W7 gY.out;go_simp;clear v0 v1 v2 v3 v4 v5;have e1:=G6 (x1:=0) (x2:=0) (x3:=0) (x4:=0) (x5:=0) gY.out;obtain⟨Q1,hY⟩:∃ V,(((((Q0.setCell ⟨gv+1,0,none⟩ (Iz 0)).setCell ⟨gv+1,1,none⟩ (Iz 0)).setCell ⟨gv+1,2,none⟩ (Iz 0)).setCell ⟨gv+1,3,none⟩ (Iz 0)).setCell ⟨gv+1,4,none⟩ (Iz 0))=V:=⟨_,rfl⟩
   have q8:Out (gv+1) (gv+2) Q0 Q1:=by rw[<-hY];exact(Out.refl _ _ _).set5 Lz _ _ _ _ _
   rw[hY] at e1 ⊢;clear hY;have jB:=Q3 e1;have eI:=Q3 (q8.heap iE.out (.inr (Nat.le_refl _)));have iH:=Q3 (bJ.out.then q8 (by have:=bD.out;omega));clear e1;refine hK.out _ _ ⟨q8.cell aB.1 (.inr (by have h1:=cY;have h2:=bF;have h3:=aL;omega)),q8.cell aB.2 (.inr (by have h1:=cY;have h2:=bF;have h3:=aL;omega))⟩ fun aB=>?_
   clear q8 hK KK;refine rd1 3 fun KK hK=>?_
   simp only[xa,xb,xc];obtain⟨c0,c1,c2,c3⟩:=flt_facts eI.out;go_simp;clear c0 c1 c2 c3;have f2:=J5 (x':=e0) (y':=a0) eI.out;obtain⟨Q2,hY⟩:∃ V,(Q1.setCell ⟨gv+2,0,none⟩ (Iz e0)).setCell ⟨gv+2,1,none⟩ (Iz a0)=V:=⟨_,rfl⟩
   have q9:Out (gv+2) (gv+3) Q1 Q2:=by rw[<-hY];exact(Out.refl _ _ _).set2 Lz _ _
   rw[hY] at f2 ⊢;clear hY;have iI:=Q3 f2;have oL:=Q3 (q9.heap jB.out (.inl (Nat.lt_succ_self _)));have kM:=Q3 (iH.out.then q9 (by have:=bD.out;omega));clear f2;refine hK.out _ _ ⟨q9.cell aB.1 (.inr (by have h1:=cY;have h2:=bF;have h3:=aL;omega)),q9.cell aB.2 (.inr (by have h1:=cY;have h2:=bF;have h3:=aL;omega))⟩ fun aB=>?_
   clear q9 hK KK;refine dn ?_;clear aB;go_wp2;exact bodyPost_ret (J4 Tryz.results72 rfl rfl (G0 oL.out) (J8 iI.out)) rfl ⟨rfl,kM.out⟩
end
end Go.Proofs.YtjgnogflgoihfaaGreatDoor
