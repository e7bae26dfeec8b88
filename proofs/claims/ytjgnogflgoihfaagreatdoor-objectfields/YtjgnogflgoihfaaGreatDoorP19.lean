import Derived.Test.YtjgnogflgoihfaaGreatDoorP17
import Derived.Test.YtjgnogflgoihfaaGreatDoorP18
set_option linter.unusedSimpArgs false
set_option linter.unusedVariables false
set_option maxHeartbeats 16000000
set_option maxRecDepth 100000
namespace Go.Proofs.YtjgnogflgoihfaaGreatDoor
open Go.RowKit
theorem x1r {K:Go.Act->World->Prop} {F:Nat->World->Prop} {act:Nat->Go.Act} {G:Prop} (h1:(∀ g V,F g V->K (act g) V)->G) (h2:∀ g V,F g V->K (act g) V):G:=h1 h2
theorem G0 (e:Int) (w:World):Kz 59 #[Iz e] w fun x w'=>x=.returned (Vz e 0)/\Out 0 0 w w':=by
 have f1:=heap_alloc_new w (Dz e 0 46);have o1:=(Out.refl 0 0 w).alloc (Dz e 0 46);have H:=Q3 (And.intro f1 o1);clear f1 o1;go_enter Tryz.func59,Tryz.ntmps59
 go_wp2;exact bodyPost_ret (K5 Tryz.results59 rfl (J5 H.out.1)) rfl ⟨rfl,H.out.2⟩
theorem z0h (e a:Int) (w:World):Kz 61 #[Vz e a] w fun x w'=>x=.returned (Vz e a)/\Out 0 0 w w':=by
 have f1:=J4 (w:=w) (o:=Dz e a 111) (o2:=Dz e a 46);have o1:=((Out.refl 0 0 w).alloc (Dz e a 111)).alloc (Dz e a 46);have H:=Q3 (And.intro f1 o1);clear f1 o1;go_enter Tryz.func61,Tryz.ntmps61
 go_wp2;exact bodyPost_ret (K5 Tryz.results61 rfl (J5 H.out.1)) rfl ⟨rfl,H.out.2⟩
theorem z1w {w:World} {lo hi cw co n:Nat} {s:Nat->Nat} {st:Sp} (h:RfAt w lo hi s n cw co st) (hI:Inv n st) {m t1 t2 t3 t4:Int} (hM:(Q6 n st).M m=some (t1,t2,t3,t4)):Calls Tryz.prog 123 #[.pointer (some ⟨s 0,0,none⟩),.int .i64 m] w fun e w'=>e=.returned (.tuple #[.agg #[.int .i64 m,.int .i64 t1,.int .i64 t2,.int .i64 t3,.int .i64 t4],.bool true])/\Out 0 0 w w':=by
 obtain⟨j,rfl,hj⟩:=x6n hI m _ hM;obtain⟨e,hh⟩:=x6y hM;exact z3i h hj hh e.symm
theorem z5a {w:World} {lo hi cw co n:Nat} {s:Nat->Nat} {st:Sp} (h:RfAt w lo hi s n cw co st) {m:Int} (hM:(Q6 n st).M m=none):Calls Tryz.prog 123 #[.pointer (some ⟨s 0,0,none⟩),.int .i64 m] w fun e w'=>e=.returned (.tuple #[.agg #[.int .i64 0,.int .i64 0,.int .i64 0,.int .i64 0,.int .i64 0],.bool false])/\Out 0 0 w w':=by
 refine z3h h fun k hk jC=>?_
 subst hk;cases hh:Y6 (st.O k)
 ·rfl
 ·rw[x2k hh] at hM;cases hM
section
variable {w:World} {lo hi rb cw co n:Nat} {s:Nat->Nat} {st:Sp}
theorem j1b (h:RfAt w lo hi s n cw co st) (hI:Inv n st) (hR:cq w rb 0=some (Pq (s 0))) (k m:Int) (hM:(Q6 n st).M m=none):Kz 72 #[Pq rb,Vz k m] w fun e w'=>e=.returned (.tuple #[Wz 0 0 0 0 0,Vz 30 0])/\Out 0 0 w w':=by
 have fV:=Q3 (J8 (w:=w) (o:=Dz k m 32) (o2:=Ez 0 0 0 0 0 81) (o3:=Dz 0 0 46));have fR:=Q3 (J7 (w:=w) (o:=Dz k m 32) (o2:=Ez 0 0 0 0 0 81) (o3:=Dz 0 0 46));have fF:=Q3 (J9 (w:=w) (o:=Dz k m 32) (o2:=Ez 0 0 0 0 0 81) (o3:=Dz 0 0 46));have aH:=Q3 ((((Out.refl 0 0 w).alloc (Dz k m 32)).alloc (Ez 0 0 0 0 0 81)).alloc (Dz 0 0 46));have Hh:=Q3 h;have HI:=Q3 hI;obtain⟨gv,aN⟩:∃ g,w.heap.size=g:=⟨_,rfl⟩
 have aW:=Q3 aN;obtain⟨V2,aQ⟩:∃ V,((w.alloc (Dz k m 32)).alloc (Ez 0 0 0 0 0 81)).alloc (Dz 0 0 46)=V:=⟨_,rfl⟩
 rw[aQ,aN] at fV fR fF;rw[aQ] at aH;have eI:=aH.out.cell hR z0;obtain⟨u0,u1,u2,u3⟩:=Q5 fV.out;have aI:gv+2<V2.heap.size/\rb<V2.heap.size:=⟨Q7 fF.out,Y4 eI⟩
 clear h hI hR;have HM:=Q3 hM;clear hM;have HB:Hid (∀ X,Out 0 0 V2 X->Kz 123 #[Pq (s 0),Iz m] X fun e w'=>e=.returned (.tuple #[Wz 0 0 0 0 0,.bool false])/\Out 0 0 X w'):=fun X o=>z5a (Hh.out.quiet (aH.out.trans o)) HM.out
 go_enter Tryz.func72,Tryz.ntmps72
 go_wp2_with fail;(try rw[aQ]);(try rw[aN]);clear aQ aN;rename_i K hKo
 apply x1r (K:=K) (F:=fun gA V=>Out 0 0 V2 V/\(fun w'=>cq w' rb 0=some (Pq (s 0))/\cq w' gv 1=some (Iz m)) V/\V.heap[gA]? = some (Ez 0 0 0 0 0 81)/\V2.heap.size<=gA)
 case h1=>
  intro HKc;refine wp_region_held_drew (S:=fun w'=>cq w' rb 0=some (Pq (s 0))/\cq w' gv 1=some (Iz m)) (by kernel_rfl) ?hS61 (fun aB=>?rest61)
  case hS61=>exact⟨eI,u1⟩
  obtain⟨Z1,hZ⟩:∃ Z,V2.drew=Z:=⟨_,rfl⟩
  have O:Out 0 0 V2 Z1:=by rw[<-hZ];exact(Out.refl 0 0 _).drew
  rw[hZ] at aB ⊢;clear hZ;refine tk 0 ?_;refine tk 1 ?_;refine tk 2 ?_;refine tk 3 ?_;refine tk 4 ?_;refine tk 5 ?_;refine rd2 6 10 (fun KK hK=>?_) fun KK hK=>?_
  ·go_simp;refine(HB.out _ O).mono ?_;rintro e Z1C ⟨rfl,q1⟩;replace O:=O.trans q1;refine hK.out _ _ ⟨q1.cell aB.1 z0,q1.cell aB.2 z0⟩ fun aB=>?_
   clear q1 hK KK;refine tk 7 ?_;refine tk 8 ?_;refine tk 9 ?_;refine rd1 10 fun KK hK=>?_
   go_simp;obtain⟨gA,bR,aE,hY,qA,fA⟩:=alz Z1C (Ez 0 0 0 0 0 81)
   have aY:V2.heap.size<=gA:=by have:=O.size;omega
   (try rw[hY]);(try rw[aE]);clear hY aE;replace O:=O.trans qA;refine hK.out _ _ ⟨qA.cell aB.1 z0,qA.cell aB.2 z0⟩ fun aB=>?_
   clear qA hK KK;refine rd1 11 fun KK hK=>?_
   simp only[xa,xb,xc];obtain⟨y0,y1,y2,y3,y4,y5⟩:=K7 fA;go_simp;clear y0 y1 y2 y3 y4 y5;obtain⟨bE,hY,qS⟩:=s5z bR gA 0 0 0 0 0
   replace O:Out 0 0 V2 bE:=by rw[<-hY];exact O.zo5 (.inr aY) _ _ _ _ _
   have fB:bE.heap[gA]? = some (Ez 0 0 0 0 0 81):=by rw[<-hY];simp[World.setCell,Array.getElem?_modify,fA]
   (try rw[hY]);clear hY fA;refine hK.out _ _ ⟨qS.cell aB.1 (.inl (by have:=aI;omega)),qS.cell aB.2 (.inl (by have:=aI;omega))⟩ fun aB=>?_
   clear qS hK KK;refine tk 12 ?_;refine dn ?_;exact HKc gA _ ⟨O,aB,fB,aY⟩
  ·go_simp;obtain⟨gA,jF,aE,hY,qA,fA⟩:=alz Z1 (Ez 0 0 0 0 0 81)
   have aY:V2.heap.size<=gA:=by have:=O.size;omega
   (try rw[hY]);(try rw[aE]);clear hY aE;replace O:=O.trans qA;refine hK.out _ _ ⟨qA.cell aB.1 z0,qA.cell aB.2 z0⟩ fun aB=>?_
   clear qA hK KK;refine rd1 6 fun KK hK=>?_
   go_simp;refine(HB.out _ O).mono ?_;rintro e Z1AC ⟨rfl,q1⟩;replace O:=O.trans q1;replace fA:=q1.heap fA z0;refine hK.out _ _ ⟨q1.cell aB.1 z0,q1.cell aB.2 z0⟩ fun aB=>?_
   clear q1 hK KK;refine tk 7 ?_;refine tk 8 ?_;refine tk 9 ?_;refine rd1 11 fun KK hK=>?_
   simp only[xa,xb,xc];obtain⟨y0,y1,y2,y3,y4,y5⟩:=K7 fA;go_simp;clear y0 y1 y2 y3 y4 y5;obtain⟨bF,hY,qS⟩:=s5z Z1AC gA 0 0 0 0 0
   replace O:Out 0 0 V2 bF:=by rw[<-hY];exact O.zo5 (.inr aY) _ _ _ _ _
   have fB:bF.heap[gA]? = some (Ez 0 0 0 0 0 81):=by rw[<-hY];simp[World.setCell,Array.getElem?_modify,fA]
   (try rw[hY]);clear hY fA;refine hK.out _ _ ⟨qS.cell aB.1 (.inl (by have:=aI;omega)),qS.cell aB.2 (.inl (by have:=aI;omega))⟩ fun aB=>?_
   clear qS hK KK;refine tk 12 ?_;refine dn ?_;exact HKc gA _ ⟨O,aB,fB,aY⟩
 case h2=>
  intro gA Z1X hF;obtain⟨O,aB,fB,aY⟩:=hF;apply hKo;clear hKo K;by_cases jC:k=2
  ·subst jC;obtain⟨x0,x1,x2,x3⟩:=Q5 (O.heap fV.out z0);have HE:=Q3 O;clear O fB aB aY;go_wp2_with fail;refine(G0 30 _).mono ?_;rintro e X5 ⟨rfl,q5⟩;have iG:=Q3 (HE.out.trans q5);have jV:=iG.out.heap fR.out z0;have fK:=iG.out.heap fF.out z0;obtain⟨v0,v1,v2,v3,v4,v5⟩:=K7 jV;obtain⟨c0,c1,c2,c3⟩:=flt_facts fK;have e1:=G1 (x1:=0) (x2:=0) (x3:=0) (x4:=0) (x5:=0) jV;have o1:=(Out.refl (gv+1) (gv+2) X5).set5 (g:=gv+1) z1 (Iz 0) (Iz 0) (Iz 0) (Iz 0) (Iz 0);have f1:=o1.heap fK (.inr (Nat.le_refl _));have f2:=J3 (x':=30) (y':=0) f1;have o2:=(Out.refl (gv+2) (gv+3) (((((X5.setCell ⟨gv+1,0,none⟩ (Iz 0)).setCell ⟨gv+1,1,none⟩ (Iz 0)).setCell ⟨gv+1,2,none⟩ (Iz 0)).setCell ⟨gv+1,3,none⟩ (Iz 0)).setCell ⟨gv+1,4,none⟩ (Iz 0))).set2 (b:=gv+2) (o:=0) (o':=1) z1 (Iz 30) (Iz 0);have e2:=o2.heap e1 (.inl (Nat.lt_succ_self _));have Q9:=((aH.out.trans iG.out).then o1 (by have:=aW.out;omega)).then o2 (by have:=aW.out;omega);have jA:=Q3 (And.intro e2 (And.intro f2 Q9));clear e1 o1 f1 f2 o2 e2 Q9 jV fK;go_wp2;exact bodyPost_ret (J2 Tryz.results72 rfl rfl (F5 jA.out.1) (J5 jA.out.2.1)) rfl ⟨rfl,jA.out.2.2⟩
  ·have k2:(k != 2)=true:=by simpa using jC
   obtain⟨x0,x1,x2,x3⟩:=Q5 (O.heap fV.out z0);have HE:=Q3 O;clear O fB aB aY;go_wp2_with fail;refine(G0 30 _).mono ?_;rintro e X5 ⟨rfl,q5⟩;have iG:=Q3 (HE.out.trans q5);have jV:=iG.out.heap fR.out z0;have fK:=iG.out.heap fF.out z0;obtain⟨v0,v1,v2,v3,v4,v5⟩:=K7 jV;obtain⟨c0,c1,c2,c3⟩:=flt_facts fK;have e1:=G1 (x1:=0) (x2:=0) (x3:=0) (x4:=0) (x5:=0) jV;have o1:=(Out.refl (gv+1) (gv+2) X5).set5 (g:=gv+1) z1 (Iz 0) (Iz 0) (Iz 0) (Iz 0) (Iz 0);have f1:=o1.heap fK (.inr (Nat.le_refl _));have f2:=J3 (x':=30) (y':=0) f1;have o2:=(Out.refl (gv+2) (gv+3) (((((X5.setCell ⟨gv+1,0,none⟩ (Iz 0)).setCell ⟨gv+1,1,none⟩ (Iz 0)).setCell ⟨gv+1,2,none⟩ (Iz 0)).setCell ⟨gv+1,3,none⟩ (Iz 0)).setCell ⟨gv+1,4,none⟩ (Iz 0))).set2 (b:=gv+2) (o:=0) (o':=1) z1 (Iz 30) (Iz 0);have e2:=o2.heap e1 (.inl (Nat.lt_succ_self _));have Q9:=((aH.out.trans iG.out).then o1 (by have:=aW.out;omega)).then o2 (by have:=aW.out;omega);have jA:=Q3 (And.intro e2 (And.intro f2 Q9));clear e1 o1 f1 f2 o2 e2 Q9 jV fK;go_wp2;exact bodyPost_ret (J2 Tryz.results72 rfl rfl (F5 jA.out.1) (J5 jA.out.2.1)) rfl ⟨rfl,jA.out.2.2⟩
theorem j1a (h:RfAt w lo hi s n cw co st) (hI:Inv n st) (hR:cq w rb 0=some (Pq (s 0))) (k m:Int) {t1 t2 t3 t4:Int} (hM:(Q6 n st).M m=some (t1,t2,t3,t4)) (hk:k ≠ 2):Kz 72 #[Pq rb,Vz k m] w fun e w'=>e=.returned (.tuple #[Wz 0 0 0 0 0,Vz 30 0])/\Out 0 0 w w':=by
 have fV:=Q3 (J8 (w:=w) (o:=Dz k m 32) (o2:=Ez 0 0 0 0 0 81) (o3:=Dz 0 0 46));have fR:=Q3 (J7 (w:=w) (o:=Dz k m 32) (o2:=Ez 0 0 0 0 0 81) (o3:=Dz 0 0 46));have fF:=Q3 (J9 (w:=w) (o:=Dz k m 32) (o2:=Ez 0 0 0 0 0 81) (o3:=Dz 0 0 46));have aH:=Q3 ((((Out.refl 0 0 w).alloc (Dz k m 32)).alloc (Ez 0 0 0 0 0 81)).alloc (Dz 0 0 46));have Hh:=Q3 h;have HI:=Q3 hI;obtain⟨gv,aN⟩:∃ g,w.heap.size=g:=⟨_,rfl⟩
 have aW:=Q3 aN;obtain⟨V2,aQ⟩:∃ V,((w.alloc (Dz k m 32)).alloc (Ez 0 0 0 0 0 81)).alloc (Dz 0 0 46)=V:=⟨_,rfl⟩
 rw[aQ,aN] at fV fR fF;rw[aQ] at aH;have eI:=aH.out.cell hR z0;obtain⟨u0,u1,u2,u3⟩:=Q5 fV.out;have aI:gv+2<V2.heap.size/\rb<V2.heap.size:=⟨Q7 fF.out,Y4 eI⟩
 clear h hI hR;have HM:=Q3 hM;have k2:(k != 2)=true:=by simpa using hk
 clear hM hk;have HB:Hid (∀ X,Out 0 0 V2 X->Kz 123 #[Pq (s 0),Iz m] X fun e w'=>e=.returned (.tuple #[Wz m t1 t2 t3 t4,.bool true])/\Out 0 0 X w'):=fun X o=>z1w (Hh.out.quiet (aH.out.trans o)) HI.out HM.out
 go_enter Tryz.func72,Tryz.ntmps72
 go_wp2_with fail;(try rw[aQ]);(try rw[aN]);clear aQ aN;rename_i K hKo
 apply x1r (K:=K) (F:=fun gA V=>Out 0 0 V2 V/\(fun w'=>cq w' rb 0=some (Pq (s 0))/\cq w' gv 1=some (Iz m)) V/\V.heap[gA]? = some (Ez m t1 t2 t3 t4 81)/\V2.heap.size<=gA)
 case h1=>
  intro HKc;refine wp_region_held_drew (S:=fun w'=>cq w' rb 0=some (Pq (s 0))/\cq w' gv 1=some (Iz m)) (by kernel_rfl) ?hS82 (fun aB=>?rest82)
  case hS82=>exact⟨eI,u1⟩
  obtain⟨Z1,hZ⟩:∃ Z,V2.drew=Z:=⟨_,rfl⟩
  have O:Out 0 0 V2 Z1:=by rw[<-hZ];exact(Out.refl 0 0 _).drew
  rw[hZ] at aB ⊢;clear hZ;refine tk 0 ?_;refine tk 1 ?_;refine tk 2 ?_;refine tk 3 ?_;refine tk 4 ?_;refine tk 5 ?_;refine rd2 6 10 (fun KK hK=>?_) fun KK hK=>?_
  ·go_simp;refine(HB.out _ O).mono ?_;rintro e Z1C ⟨rfl,q1⟩;replace O:=O.trans q1;refine hK.out _ _ ⟨q1.cell aB.1 z0,q1.cell aB.2 z0⟩ fun aB=>?_
   clear q1 hK KK;refine tk 7 ?_;refine tk 8 ?_;refine tk 9 ?_;refine rd1 10 fun KK hK=>?_
   go_simp;obtain⟨gA,bR,aE,hY,qA,fA⟩:=alz Z1C (Ez 0 0 0 0 0 81)
   have aY:V2.heap.size<=gA:=by have:=O.size;omega
   (try rw[hY]);(try rw[aE]);clear hY aE;replace O:=O.trans qA;refine hK.out _ _ ⟨qA.cell aB.1 z0,qA.cell aB.2 z0⟩ fun aB=>?_
   clear qA hK KK;refine rd1 11 fun KK hK=>?_
   simp only[xa,xb,xc];obtain⟨y0,y1,y2,y3,y4,y5⟩:=K7 fA;go_simp;clear y0 y1 y2 y3 y4 y5;obtain⟨bE,hY,qS⟩:=s5z bR gA m t1 t2 t3 t4
   replace O:Out 0 0 V2 bE:=by rw[<-hY];exact O.zo5 (.inr aY) _ _ _ _ _
   have fB:bE.heap[gA]? = some (Ez m t1 t2 t3 t4 81):=by rw[<-hY];simp[World.setCell,Array.getElem?_modify,fA]
   (try rw[hY]);clear hY fA;refine hK.out _ _ ⟨qS.cell aB.1 (.inl (by have:=aI;omega)),qS.cell aB.2 (.inl (by have:=aI;omega))⟩ fun aB=>?_
   clear qS hK KK;refine tk 12 ?_;refine dn ?_;exact HKc gA _ ⟨O,aB,fB,aY⟩
  ·go_simp;obtain⟨gA,jF,aE,hY,qA,fA⟩:=alz Z1 (Ez 0 0 0 0 0 81)
   have aY:V2.heap.size<=gA:=by have:=O.size;omega
   (try rw[hY]);(try rw[aE]);clear hY aE;replace O:=O.trans qA;refine hK.out _ _ ⟨qA.cell aB.1 z0,qA.cell aB.2 z0⟩ fun aB=>?_
   clear qA hK KK;refine rd1 6 fun KK hK=>?_
   go_simp;refine(HB.out _ O).mono ?_;rintro e Z1AC ⟨rfl,q1⟩;replace O:=O.trans q1;replace fA:=q1.heap fA z0;refine hK.out _ _ ⟨q1.cell aB.1 z0,q1.cell aB.2 z0⟩ fun aB=>?_
   clear q1 hK KK;refine tk 7 ?_;refine tk 8 ?_;refine tk 9 ?_;refine rd1 11 fun KK hK=>?_
   simp only[xa,xb,xc];obtain⟨y0,y1,y2,y3,y4,y5⟩:=K7 fA;go_simp;clear y0 y1 y2 y3 y4 y5;obtain⟨bF,hY,qS⟩:=s5z Z1AC gA m t1 t2 t3 t4
   replace O:Out 0 0 V2 bF:=by rw[<-hY];exact O.zo5 (.inr aY) _ _ _ _ _
   have fB:bF.heap[gA]? = some (Ez m t1 t2 t3 t4 81):=by rw[<-hY];simp[World.setCell,Array.getElem?_modify,fA]
   (try rw[hY]);clear hY fA;refine hK.out _ _ ⟨qS.cell aB.1 (.inl (by have:=aI;omega)),qS.cell aB.2 (.inl (by have:=aI;omega))⟩ fun aB=>?_
   clear qS hK KK;refine tk 12 ?_;refine dn ?_;exact HKc gA _ ⟨O,aB,fB,aY⟩
 case h2=>
  intro gA Z1X hF;obtain⟨O,aB,fB,aY⟩:=hF;apply hKo;clear hKo K;obtain⟨x0,x1,x2,x3⟩:=Q5 (O.heap fV.out z0);have HE:=Q3 O;clear O fB aB aY;go_wp2_with fail;refine(G0 30 _).mono ?_;rintro e X5 ⟨rfl,q5⟩;have iG:=Q3 (HE.out.trans q5);have jV:=iG.out.heap fR.out z0;have fK:=iG.out.heap fF.out z0;obtain⟨v0,v1,v2,v3,v4,v5⟩:=K7 jV;obtain⟨c0,c1,c2,c3⟩:=flt_facts fK;have e1:=G1 (x1:=0) (x2:=0) (x3:=0) (x4:=0) (x5:=0) jV;have o1:=(Out.refl (gv+1) (gv+2) X5).set5 (g:=gv+1) z1 (Iz 0) (Iz 0) (Iz 0) (Iz 0) (Iz 0);have f1:=o1.heap fK (.inr (Nat.le_refl _));have f2:=J3 (x':=30) (y':=0) f1;have o2:=(Out.refl (gv+2) (gv+3) (((((X5.setCell ⟨gv+1,0,none⟩ (Iz 0)).setCell ⟨gv+1,1,none⟩ (Iz 0)).setCell ⟨gv+1,2,none⟩ (Iz 0)).setCell ⟨gv+1,3,none⟩ (Iz 0)).setCell ⟨gv+1,4,none⟩ (Iz 0))).set2 (b:=gv+2) (o:=0) (o':=1) z1 (Iz 30) (Iz 0);have e2:=o2.heap e1 (.inl (Nat.lt_succ_self _));have Q9:=((aH.out.trans iG.out).then o1 (by have:=aW.out;omega)).then o2 (by have:=aW.out;omega);have jA:=Q3 (And.intro e2 (And.intro f2 Q9));clear e1 o1 f1 f2 o2 e2 Q9 jV fK;go_wp2;exact bodyPost_ret (J2 Tryz.results72 rfl rfl (F5 jA.out.1) (J5 jA.out.2.1)) rfl ⟨rfl,jA.out.2.2⟩
theorem j8r (h:RfAt w lo hi s n cw co st) (hI:Inv n st) (hR:cq w rb 0=some (Pq (s 0))) (k m:Int) {t1 t2 t3 t4 a0:Int} (hM:(Q6 n st).M m=some (t1,t2,t3,t4)) (hk:k=2) (hc:z6e (Q6 n st) m=0) (hca:z4z (Q6 n st) m=a0):Kz 72 #[Pq rb,Vz k m] w fun e w'=>e=.returned (.tuple #[Wz m t1 t2 t3 t4,Vz 0 a0])/\Out 0 0 w w':=by
 subst hk;have Hc:=Q3 (And.intro hc hca);clear hc hca;have fV:=Q3 (J8 (w:=w) (o:=Dz 2 m 32) (o2:=Ez 0 0 0 0 0 81) (o3:=Dz 0 0 46));have fR:=Q3 (J7 (w:=w) (o:=Dz 2 m 32) (o2:=Ez 0 0 0 0 0 81) (o3:=Dz 0 0 46));have fF:=Q3 (J9 (w:=w) (o:=Dz 2 m 32) (o2:=Ez 0 0 0 0 0 81) (o3:=Dz 0 0 46));have aH:=Q3 ((((Out.refl 0 0 w).alloc (Dz 2 m 32)).alloc (Ez 0 0 0 0 0 81)).alloc (Dz 0 0 46));have Hh:=Q3 h;have HI:=Q3 hI;obtain⟨gv,aN⟩:∃ g,w.heap.size=g:=⟨_,rfl⟩
 have aW:=Q3 aN;obtain⟨V2,aQ⟩:∃ V,((w.alloc (Dz 2 m 32)).alloc (Ez 0 0 0 0 0 81)).alloc (Dz 0 0 46)=V:=⟨_,rfl⟩
 rw[aQ,aN] at fV fR fF;rw[aQ] at aH;have eI:=aH.out.cell hR Oz;obtain⟨u0,u1,u2,u3⟩:=Q5 fV.out;have aI:gv+2<V2.heap.size/\rb<V2.heap.size:=⟨Q7 fF.out,Y4 eI⟩
 clear h hI hR;have HM:=Q3 hM;clear hM;have HB:Hid (∀ X,Out 0 0 V2 X->Kz 123 #[Pq (s 0),Iz m] X fun e w'=>e=.returned (.tuple #[Wz m t1 t2 t3 t4,.bool true])/\Out 0 0 X w'):=fun X o=>z1w (Hh.out.quiet (aH.out.trans o)) HI.out HM.out
 have HC:Hid (∀ X,Out 0 0 V2 X->Kz 127 #[Pq (s 0),Iz m] X fun e w'=>e=.returned (Vz 0 a0)/\Out 0 0 X w'):=fun X o=>by
  have q:=z4i (Hh.out.quiet (aH.out.trans o)) HI.out m;rw[Hc.out.1,Hc.out.2] at q;exact q
 go_enter Tryz.func72,Tryz.ntmps72
 go_wp2_with fail;(try rw[aQ]);(try rw[aN]);clear aQ aN;rename_i K hKo
 apply x1r (K:=K) (F:=fun gA V=>Out 0 0 V2 V/\(fun w'=>cq w' rb 0=some (Pq (s 0))/\cq w' gv 1=some (Iz m)) V/\V.heap[gA]? = some (Ez m t1 t2 t3 t4 81)/\V2.heap.size<=gA)
 case h1=>
  intro HKc;refine wp_region_held_drew (S:=fun w'=>cq w' rb 0=some (Pq (s 0))/\cq w' gv 1=some (Iz m)) (by kernel_rfl) ?hS103 (fun aB=>?rest103)
  case hS103=>exact⟨eI,u1⟩
  obtain⟨Z1,hZ⟩:∃ Z,V2.drew=Z:=⟨_,rfl⟩
  have O:Out 0 0 V2 Z1:=by rw[<-hZ];exact(Out.refl 0 0 _).drew
  rw[hZ] at aB ⊢;clear hZ;refine tk 0 ?_;refine tk 1 ?_;refine tk 2 ?_;refine tk 3 ?_;refine tk 4 ?_;refine tk 5 ?_;refine rd2 6 10 (fun KK hK=>?_) fun KK hK=>?_
  ·go_simp;refine(HB.out _ O).mono ?_;rintro e Z1C ⟨rfl,q1⟩;replace O:=O.trans q1;refine hK.out _ _ ⟨q1.cell aB.1 Oz,q1.cell aB.2 Oz⟩ fun aB=>?_
   clear q1 hK KK;refine tk 7 ?_;refine tk 8 ?_;refine tk 9 ?_;refine rd1 10 fun KK hK=>?_
   go_simp;obtain⟨gA,bR,aE,hY,qA,fA⟩:=alz Z1C (Ez 0 0 0 0 0 81)
   have aY:V2.heap.size<=gA:=by have:=O.size;omega
   (try rw[hY]);(try rw[aE]);clear hY aE;replace O:=O.trans qA;refine hK.out _ _ ⟨qA.cell aB.1 Oz,qA.cell aB.2 Oz⟩ fun aB=>?_
   clear qA hK KK;refine rd1 11 fun KK hK=>?_
   simp only[xa,xb,xc];obtain⟨y0,y1,y2,y3,y4,y5⟩:=K7 fA;go_simp;clear y0 y1 y2 y3 y4 y5;obtain⟨bE,hY,qS⟩:=s5z bR gA m t1 t2 t3 t4
   replace O:Out 0 0 V2 bE:=by rw[<-hY];exact O.zo5 (.inr aY) _ _ _ _ _
   have fB:bE.heap[gA]? = some (Ez m t1 t2 t3 t4 81):=by rw[<-hY];simp[World.setCell,Array.getElem?_modify,fA]
   (try rw[hY]);clear hY fA;refine hK.out _ _ ⟨qS.cell aB.1 (.inl (by have:=aI;omega)),qS.cell aB.2 (.inl (by have:=aI;omega))⟩ fun aB=>?_
   clear qS hK KK;refine tk 12 ?_;refine dn ?_;exact HKc gA _ ⟨O,aB,fB,aY⟩
  ·go_simp;obtain⟨gA,jF,aE,hY,qA,fA⟩:=alz Z1 (Ez 0 0 0 0 0 81)
   have aY:V2.heap.size<=gA:=by have:=O.size;omega
   (try rw[hY]);(try rw[aE]);clear hY aE;replace O:=O.trans qA;refine hK.out _ _ ⟨qA.cell aB.1 Oz,qA.cell aB.2 Oz⟩ fun aB=>?_
   clear qA hK KK;refine rd1 6 fun KK hK=>?_
   go_simp;refine(HB.out _ O).mono ?_;rintro e Z1AC ⟨rfl,q1⟩;replace O:=O.trans q1;replace fA:=q1.heap fA Oz;refine hK.out _ _ ⟨q1.cell aB.1 Oz,q1.cell aB.2 Oz⟩ fun aB=>?_
   clear q1 hK KK;refine tk 7 ?_;refine tk 8 ?_;refine tk 9 ?_;refine rd1 11 fun KK hK=>?_
   simp only[xa,xb,xc];obtain⟨y0,y1,y2,y3,y4,y5⟩:=K7 fA;go_simp;clear y0 y1 y2 y3 y4 y5;obtain⟨bF,hY,qS⟩:=s5z Z1AC gA m t1 t2 t3 t4
   replace O:Out 0 0 V2 bF:=by rw[<-hY];exact O.zo5 (.inr aY) _ _ _ _ _
   have fB:bF.heap[gA]? = some (Ez m t1 t2 t3 t4 81):=by rw[<-hY];simp[World.setCell,Array.getElem?_modify,fA]
   (try rw[hY]);clear hY fA;refine hK.out _ _ ⟨qS.cell aB.1 (.inl (by have:=aI;omega)),qS.cell aB.2 (.inl (by have:=aI;omega))⟩ fun aB=>?_
   clear qS hK KK;refine tk 12 ?_;refine dn ?_;exact HKc gA _ ⟨O,aB,fB,aY⟩
 case h2=>
  intro gA Z1X hF;obtain⟨O,aB,fB,aY⟩:=hF;apply hKo;clear hKo K;obtain⟨x0,x1,x2,x3⟩:=Q5 (O.heap fV.out Oz);have HE:=Q3 O;have lR:=Q3 fB;obtain⟨y0,y1,y2,y3,y4,y5⟩:=K7 fB;have hH9:=HE.out.cell eI Oz;clear O fB aB;go_wp2_with fail;clear x0 x1 x2 x3 y1 y2 y3 y4 y5;refine wp_region_held_drew (S:=fun w'=>cq w' rb 0=some (Pq (s 0))/\cq w' gA 0=some (Iz m)) (by kernel_rfl) ?hS124 (fun aB=>?rest124)
  case hS124=>exact⟨hH9,y0⟩
  obtain⟨Y,hZ⟩:∃ Z,Z1X.drew=Z:=⟨_,rfl⟩
  have O:Out 0 0 V2 Y:=by rw[<-hZ];exact HE.out.drew
  have bT:Hid (Y.heap[gA]? = some (Ez m t1 t2 t3 t4 81)):=by rw[<-hZ];exact lR.out
  rw[hZ] at aB ⊢;clear hZ;refine tk 0 ?_;refine tk 1 ?_;refine tk 2 ?_;refine tk 3 ?_;refine tk 4 ?_;refine tk 5 ?_;refine rd2 6 8 (fun KK hK=>?_) fun KK hK=>?_
  ·go_simp;refine(HC.out _ O).mono ?_;rintro e YC ⟨rfl,q1⟩;replace O:=O.trans q1;replace bT:=Q3 (q1.heap bT.out Oz);refine hK.out _ _ ⟨q1.cell aB.1 Oz,q1.cell aB.2 Oz⟩ fun aB=>?_
   clear q1 hK KK;refine rd2 7 8 (fun KK hK=>?_) fun KK hK=>?_
   ·go_simp;refine(z0h _ _ _).mono ?_;rintro e YCT ⟨rfl,q1⟩;replace O:=O.trans q1;replace bT:=Q3 (q1.heap bT.out Oz);refine hK.out _ _ ⟨q1.cell aB.1 Oz,q1.cell aB.2 Oz⟩ fun aB=>?_
    clear q1 hK KK;refine rd1 8 fun KK hK=>?_
    go_simp;obtain⟨gE,pG,aE,hY,qA,fE⟩:=alz YCT (Dz 0 0 46)
    have cB:V2.heap.size<=gE/\gA<gE:=⟨by have:=O.size;omega,by have:=O.size;have:=Y4 aB.2;omega⟩
    (try rw[hY]);(try rw[aE]);clear hY aE;replace O:=O.trans qA;replace bT:=Q3 (qA.heap bT.out Oz);refine hK.out _ _ ⟨qA.cell aB.1 Oz,qA.cell aB.2 Oz⟩ fun aB=>?_
    clear qA hK KK;refine rd1 9 fun KK hK=>?_
    simp only[xa,xb,xc];obtain⟨y0,y1,y2,y3⟩:=flt_facts fE;go_simp;clear y0 y1 y2 y3;obtain⟨gX,hY,qS⟩:=s2z pG gE 0 a0
    replace O:Out 0 0 V2 gX:=by rw[<-hY];exact O.set2 (.inr cB.1) _ _
    have fE2:gX.heap[gE]? = some (Dz 0 a0 46):=by rw[<-hY];exact J3 fE
    replace bT:=Q3 (qS.heap bT.out (.inl cB.2));(try rw[hY]);clear hY fE;refine hK.out _ _ ⟨qS.cell aB.1 (.inl (by have h1:=aI;have h2:=cB;omega)),qS.cell aB.2 (.inl (by have h1:=aI;have h2:=cB;omega))⟩ fun aB=>?_
    clear qS hK KK;refine dn ?_;have fB2:gX.heap[gA]? = some (Ez m t1 t2 t3 t4 81):=bT.out;obtain⟨b0,b1,b2,b3,b4,_⟩:=K7 fB2;clear fB2 bT;have bJ:=Q3 (aH.out.trans O);have jV:=O.heap fR.out Oz;have fK:=O.heap fF.out Oz;have dY:=Q3 jV;have fM:=Q3 fK;obtain⟨z0,z1,_,_⟩:=flt_facts fE2;clear aB jV fK O;go_wp2_with fail;refine wp_region_held_drew (S:=fun w'=>cq w' gA 0=some (Iz m)/\cq w' gA 1=some (Iz t1)/\cq w' gA 2=some (Iz t2)/\cq w' gA 3=some (Iz t3)/\cq w' gA 4=some (Iz t4)/\cq w' gE 0=some (Iz 0)/\cq w' gE 1=some (Iz a0)) (by kernel_rfl) ?hS135 (fun aB=>?rest135)
    case hS135=>exact⟨b0,b1,b2,b3,b4,z0,z1⟩
    obtain⟨Q0,hZ⟩:∃ Z,gX.drew=Z:=⟨_,rfl⟩
    have OQ:Out 0 0 gX Q0:=by rw[<-hZ];exact(Out.refl 0 0 _).drew
    rw[hZ] at aB ⊢;clear hZ;have eR:=Q3 (OQ.heap dY.out Oz);have fC:=Q3 (OQ.heap fM.out Oz);have bL:=Q3 (bJ.out.trans OQ);clear OQ;refine tk 0 ?_;refine tk 1 ?_;refine rd1 2 fun KK hK=>?_
    simp only[xa,xb,xc];obtain⟨v0,v1,v2,v3,v4,v5⟩:=K7 eR.out;go_simp;clear v0 v1 v2 v3 v4 v5;have e1:=G1 (x1:=m) (x2:=t1) (x3:=t2) (x4:=t3) (x5:=t4) eR.out;obtain⟨Q1,hY⟩:∃ V,(((((Q0.setCell ⟨gv+1,0,none⟩ (Iz m)).setCell ⟨gv+1,1,none⟩ (Iz t1)).setCell ⟨gv+1,2,none⟩ (Iz t2)).setCell ⟨gv+1,3,none⟩ (Iz t3)).setCell ⟨gv+1,4,none⟩ (Iz t4))=V:=⟨_,rfl⟩
    have q8:Out (gv+1) (gv+2) Q0 Q1:=by rw[<-hY];exact(Out.refl _ _ _).set5 Lz _ _ _ _ _
    rw[hY] at e1 ⊢;clear hY;have gG:=Q3 e1;have cW:=Q3 (q8.heap fC.out (.inr (Nat.le_refl _)));have fH:=Q3 (bL.out.then q8 (by have:=aW.out;omega));clear e1;refine hK.out _ _ ⟨q8.cell aB.1 (.inr (by have h1:=cB;have h2:=aY;have h3:=aI;omega)),q8.cell aB.2.1 (.inr (by have h1:=cB;have h2:=aY;have h3:=aI;omega)),q8.cell aB.2.2.1 (.inr (by have h1:=cB;have h2:=aY;have h3:=aI;omega)),q8.cell aB.2.2.2.1 (.inr (by have h1:=cB;have h2:=aY;have h3:=aI;omega)),q8.cell aB.2.2.2.2.1 (.inr (by have h1:=cB;have h2:=aY;have h3:=aI;omega)),q8.cell aB.2.2.2.2.2.1 (.inr (by have h1:=cB;have h2:=aY;have h3:=aI;omega)),q8.cell aB.2.2.2.2.2.2 (.inr (by have h1:=cB;have h2:=aY;have h3:=aI;omega))⟩ fun aB=>?_
    clear q8 hK KK;refine rd1 3 fun KK hK=>?_
    simp only[xa,xb,xc];obtain⟨c0,c1,c2,c3⟩:=flt_facts cW.out;go_simp;clear c0 c1 c2 c3;have f2:=J3 (x':=0) (y':=a0) cW.out;obtain⟨Q2,hY⟩:∃ V,(Q1.setCell ⟨gv+2,0,none⟩ (Iz 0)).setCell ⟨gv+2,1,none⟩ (Iz a0)=V:=⟨_,rfl⟩
    have q9:Out (gv+2) (gv+3) Q1 Q2:=by rw[<-hY];exact(Out.refl _ _ _).set2 Lz _ _
    rw[hY] at f2 ⊢;clear hY;have fI:=Q3 f2;have mO:=Q3 (q9.heap gG.out (.inl (Nat.lt_succ_self _)));have iZ:=Q3 (fH.out.then q9 (by have:=aW.out;omega));clear f2;refine hK.out _ _ ⟨q9.cell aB.1 (.inr (by have h1:=cB;have h2:=aY;have h3:=aI;omega)),q9.cell aB.2.1 (.inr (by have h1:=cB;have h2:=aY;have h3:=aI;omega)),q9.cell aB.2.2.1 (.inr (by have h1:=cB;have h2:=aY;have h3:=aI;omega)),q9.cell aB.2.2.2.1 (.inr (by have h1:=cB;have h2:=aY;have h3:=aI;omega)),q9.cell aB.2.2.2.2.1 (.inr (by have h1:=cB;have h2:=aY;have h3:=aI;omega)),q9.cell aB.2.2.2.2.2.1 (.inr (by have h1:=cB;have h2:=aY;have h3:=aI;omega)),q9.cell aB.2.2.2.2.2.2 (.inr (by have h1:=cB;have h2:=aY;have h3:=aI;omega))⟩ fun aB=>?_
    clear q9 hK KK;refine dn ?_;clear aB;go_wp2;exact bodyPost_ret (J2 Tryz.results72 rfl rfl (F5 mO.out) (J5 fI.out)) rfl ⟨rfl,iZ.out⟩
   ·go_simp;obtain⟨gE,YCA,aE,hY,qA,fE⟩:=alz YC (Dz 0 0 46)
    have cB:V2.heap.size<=gE/\gA<gE:=⟨by have:=O.size;omega,by have:=O.size;have:=Y4 aB.2;omega⟩
    (try rw[hY]);(try rw[aE]);clear hY aE;replace O:=O.trans qA;replace bT:=Q3 (qA.heap bT.out Oz);refine hK.out _ _ ⟨qA.cell aB.1 Oz,qA.cell aB.2 Oz⟩ fun aB=>?_
    clear qA hK KK;refine rd1 7 fun KK hK=>?_
    go_simp;refine(z0h _ _ _).mono ?_;rintro e YCAT ⟨rfl,q1⟩;replace O:=O.trans q1;replace bT:=Q3 (q1.heap bT.out Oz);replace fE:=q1.heap fE Oz;refine hK.out _ _ ⟨q1.cell aB.1 Oz,q1.cell aB.2 Oz⟩ fun aB=>?_
    clear q1 hK KK;refine rd1 9 fun KK hK=>?_
    simp only[xa,xb,xc];obtain⟨y0,y1,y2,y3⟩:=flt_facts fE;go_simp;clear y0 y1 y2 y3;obtain⟨gY,hY,qS⟩:=s2z YCAT gE 0 a0
    replace O:Out 0 0 V2 gY:=by rw[<-hY];exact O.set2 (.inr cB.1) _ _
    have fE2:gY.heap[gE]? = some (Dz 0 a0 46):=by rw[<-hY];exact J3 fE
    replace bT:=Q3 (qS.heap bT.out (.inl cB.2));(try rw[hY]);clear hY fE;refine hK.out _ _ ⟨qS.cell aB.1 (.inl (by have h1:=aI;have h2:=cB;omega)),qS.cell aB.2 (.inl (by have h1:=aI;have h2:=cB;omega))⟩ fun aB=>?_
    clear qS hK KK;refine dn ?_;have fB2:gY.heap[gA]? = some (Ez m t1 t2 t3 t4 81):=bT.out;obtain⟨b0,b1,b2,b3,b4,_⟩:=K7 fB2;clear fB2 bT;have bJ:=Q3 (aH.out.trans O);have jV:=O.heap fR.out Oz;have fK:=O.heap fF.out Oz;have dY:=Q3 jV;have fM:=Q3 fK;obtain⟨z0,z1,_,_⟩:=flt_facts fE2;clear aB jV fK O;go_wp2_with fail;refine wp_region_held_drew (S:=fun w'=>cq w' gA 0=some (Iz m)/\cq w' gA 1=some (Iz t1)/\cq w' gA 2=some (Iz t2)/\cq w' gA 3=some (Iz t3)/\cq w' gA 4=some (Iz t4)/\cq w' gE 0=some (Iz 0)/\cq w' gE 1=some (Iz a0)) (by kernel_rfl) ?hS143 (fun aB=>?rest143)
    case hS143=>exact⟨b0,b1,b2,b3,b4,z0,z1⟩
    obtain⟨Q0,hZ⟩:∃ Z,gY.drew=Z:=⟨_,rfl⟩
    have OQ:Out 0 0 gY Q0:=by rw[<-hZ];exact(Out.refl 0 0 _).drew
    rw[hZ] at aB ⊢;clear hZ;have eR:=Q3 (OQ.heap dY.out Oz);have fC:=Q3 (OQ.heap fM.out Oz);have bL:=Q3 (bJ.out.trans OQ);clear OQ;refine tk 0 ?_;refine tk 1 ?_;refine rd1 2 fun KK hK=>?_
    simp only[xa,xb,xc];obtain⟨v0,v1,v2,v3,v4,v5⟩:=K7 eR.out;go_simp;clear v0 v1 v2 v3 v4 v5;have e1:=G1 (x1:=m) (x2:=t1) (x3:=t2) (x4:=t3) (x5:=t4) eR.out;obtain⟨Q1,hY⟩:∃ V,(((((Q0.setCell ⟨gv+1,0,none⟩ (Iz m)).setCell ⟨gv+1,1,none⟩ (Iz t1)).setCell ⟨gv+1,2,none⟩ (Iz t2)).setCell ⟨gv+1,3,none⟩ (Iz t3)).setCell ⟨gv+1,4,none⟩ (Iz t4))=V:=⟨_,rfl⟩
    have q8:Out (gv+1) (gv+2) Q0 Q1:=by rw[<-hY];exact(Out.refl _ _ _).set5 Lz _ _ _ _ _
    rw[hY] at e1 ⊢;clear hY;have gG:=Q3 e1;have cW:=Q3 (q8.heap fC.out (.inr (Nat.le_refl _)));have fH:=Q3 (bL.out.then q8 (by have:=aW.out;omega));clear e1;refine hK.out _ _ ⟨q8.cell aB.1 (.inr (by have h1:=cB;have h2:=aY;have h3:=aI;omega)),q8.cell aB.2.1 (.inr (by have h1:=cB;have h2:=aY;have h3:=aI;omega)),q8.cell aB.2.2.1 (.inr (by have h1:=cB;have h2:=aY;have h3:=aI;omega)),q8.cell aB.2.2.2.1 (.inr (by have h1:=cB;have h2:=aY;have h3:=aI;omega)),q8.cell aB.2.2.2.2.1 (.inr (by have h1:=cB;have h2:=aY;have h3:=aI;omega)),q8.cell aB.2.2.2.2.2.1 (.inr (by have h1:=cB;have h2:=aY;have h3:=aI;omega)),q8.cell aB.2.2.2.2.2.2 (.inr (by have h1:=cB;have h2:=aY;have h3:=aI;omega))⟩ fun aB=>?_
    clear q8 hK KK;refine rd1 3 fun KK hK=>?_
    simp only[xa,xb,xc];obtain⟨c0,c1,c2,c3⟩:=flt_facts cW.out;go_simp;clear c0 c1 c2 c3;have f2:=J3 (x':=0) (y':=a0) cW.out;obtain⟨Q2,hY⟩:∃ V,(Q1.setCell ⟨gv+2,0,none⟩ (Iz 0)).setCell ⟨gv+2,1,none⟩ (Iz a0)=V:=⟨_,rfl⟩
    have q9:Out (gv+2) (gv+3) Q1 Q2:=by rw[<-hY];exact(Out.refl _ _ _).set2 Lz _ _
    rw[hY] at f2 ⊢;clear hY;have fI:=Q3 f2;have mO:=Q3 (q9.heap gG.out (.inl (Nat.lt_succ_self _)));have iZ:=Q3 (fH.out.then q9 (by have:=aW.out;omega));clear f2;refine hK.out _ _ ⟨q9.cell aB.1 (.inr (by have h1:=cB;have h2:=aY;have h3:=aI;omega)),q9.cell aB.2.1 (.inr (by have h1:=cB;have h2:=aY;have h3:=aI;omega)),q9.cell aB.2.2.1 (.inr (by have h1:=cB;have h2:=aY;have h3:=aI;omega)),q9.cell aB.2.2.2.1 (.inr (by have h1:=cB;have h2:=aY;have h3:=aI;omega)),q9.cell aB.2.2.2.2.1 (.inr (by have h1:=cB;have h2:=aY;have h3:=aI;omega)),q9.cell aB.2.2.2.2.2.1 (.inr (by have h1:=cB;have h2:=aY;have h3:=aI;omega)),q9.cell aB.2.2.2.2.2.2 (.inr (by have h1:=cB;have h2:=aY;have h3:=aI;omega))⟩ fun aB=>?_
    clear q9 hK KK;refine dn ?_;clear aB;go_wp2;exact bodyPost_ret (J2 Tryz.results72 rfl rfl (F5 mO.out) (J5 fI.out)) rfl ⟨rfl,iZ.out⟩
  ·go_simp;obtain⟨gE,YA,aE,hY,qA,fE⟩:=alz Y (Dz 0 0 46)
   have cB:V2.heap.size<=gE/\gA<gE:=⟨by have:=O.size;omega,by have:=O.size;have:=Y4 aB.2;omega⟩
   (try rw[hY]);(try rw[aE]);clear hY aE;replace O:=O.trans qA;replace bT:=Q3 (qA.heap bT.out Oz);refine hK.out _ _ ⟨qA.cell aB.1 Oz,qA.cell aB.2 Oz⟩ fun aB=>?_
   clear qA hK KK;refine rd1 6 fun KK hK=>?_
   go_simp;refine(HC.out _ O).mono ?_;rintro e YAC ⟨rfl,q1⟩;replace O:=O.trans q1;replace bT:=Q3 (q1.heap bT.out Oz);replace fE:=q1.heap fE Oz;refine hK.out _ _ ⟨q1.cell aB.1 Oz,q1.cell aB.2 Oz⟩ fun aB=>?_
   clear q1 hK KK;refine rd1 7 fun KK hK=>?_
   go_simp;refine(z0h _ _ _).mono ?_;rintro e YACT ⟨rfl,q1⟩;replace O:=O.trans q1;replace bT:=Q3 (q1.heap bT.out Oz);replace fE:=q1.heap fE Oz;refine hK.out _ _ ⟨q1.cell aB.1 Oz,q1.cell aB.2 Oz⟩ fun aB=>?_
   clear q1 hK KK;refine rd1 9 fun KK hK=>?_
   simp only[xa,xb,xc];obtain⟨y0,y1,y2,y3⟩:=flt_facts fE;go_simp;clear y0 y1 y2 y3;obtain⟨gZ,hY,qS⟩:=s2z YACT gE 0 a0
   replace O:Out 0 0 V2 gZ:=by rw[<-hY];exact O.set2 (.inr cB.1) _ _
   have fE2:gZ.heap[gE]? = some (Dz 0 a0 46):=by rw[<-hY];exact J3 fE
   replace bT:=Q3 (qS.heap bT.out (.inl cB.2));(try rw[hY]);clear hY fE;refine hK.out _ _ ⟨qS.cell aB.1 (.inl (by have h1:=aI;have h2:=cB;omega)),qS.cell aB.2 (.inl (by have h1:=aI;have h2:=cB;omega))⟩ fun aB=>?_
   clear qS hK KK;refine dn ?_;have fB2:gZ.heap[gA]? = some (Ez m t1 t2 t3 t4 81):=bT.out;obtain⟨b0,b1,b2,b3,b4,_⟩:=K7 fB2;clear fB2 bT;have bJ:=Q3 (aH.out.trans O);have jV:=O.heap fR.out Oz;have fK:=O.heap fF.out Oz;have dY:=Q3 jV;have fM:=Q3 fK;obtain⟨z0,z1,_,_⟩:=flt_facts fE2;clear aB jV fK O;go_wp2_with fail;refine wp_region_held_drew (S:=fun w'=>cq w' gA 0=some (Iz m)/\cq w' gA 1=some (Iz t1)/\cq w' gA 2=some (Iz t2)/\cq w' gA 3=some (Iz t3)/\cq w' gA 4=some (Iz t4)/\cq w' gE 0=some (Iz 0)/\cq w' gE 1=some (Iz a0)) (by kernel_rfl) ?hS152 (fun aB=>?rest152)
   case hS152=>exact⟨b0,b1,b2,b3,b4,z0,z1⟩
   obtain⟨Q0,hZ⟩:∃ Z,gZ.drew=Z:=⟨_,rfl⟩
   have OQ:Out 0 0 gZ Q0:=by rw[<-hZ];exact(Out.refl 0 0 _).drew
   rw[hZ] at aB ⊢;clear hZ;have eR:=Q3 (OQ.heap dY.out Oz);have fC:=Q3 (OQ.heap fM.out Oz);have bL:=Q3 (bJ.out.trans OQ);clear OQ;refine tk 0 ?_;refine tk 1 ?_;refine rd1 2 fun KK hK=>?_
   simp only[xa,xb,xc];obtain⟨v0,v1,v2,v3,v4,v5⟩:=K7 eR.out;go_simp;clear v0 v1 v2 v3 v4 v5;have e1:=G1 (x1:=m) (x2:=t1) (x3:=t2) (x4:=t3) (x5:=t4) eR.out;obtain⟨Q1,hY⟩:∃ V,(((((Q0.setCell ⟨gv+1,0,none⟩ (Iz m)).setCell ⟨gv+1,1,none⟩ (Iz t1)).setCell ⟨gv+1,2,none⟩ (Iz t2)).setCell ⟨gv+1,3,none⟩ (Iz t3)).setCell ⟨gv+1,4,none⟩ (Iz t4))=V:=⟨_,rfl⟩
   have q8:Out (gv+1) (gv+2) Q0 Q1:=by rw[<-hY];exact(Out.refl _ _ _).set5 Lz _ _ _ _ _
   rw[hY] at e1 ⊢;clear hY;have gG:=Q3 e1;have cW:=Q3 (q8.heap fC.out (.inr (Nat.le_refl _)));have fH:=Q3 (bL.out.then q8 (by have:=aW.out;omega));clear e1;refine hK.out _ _ ⟨q8.cell aB.1 (.inr (by have h1:=cB;have h2:=aY;have h3:=aI;omega)),q8.cell aB.2.1 (.inr (by have h1:=cB;have h2:=aY;have h3:=aI;omega)),q8.cell aB.2.2.1 (.inr (by have h1:=cB;have h2:=aY;have h3:=aI;omega)),q8.cell aB.2.2.2.1 (.inr (by have h1:=cB;have h2:=aY;have h3:=aI;omega)),q8.cell aB.2.2.2.2.1 (.inr (by have h1:=cB;have h2:=aY;have h3:=aI;omega)),q8.cell aB.2.2.2.2.2.1 (.inr (by have h1:=cB;have h2:=aY;have h3:=aI;omega)),q8.cell aB.2.2.2.2.2.2 (.inr (by have h1:=cB;have h2:=aY;have h3:=aI;omega))⟩ fun aB=>?_
   clear q8 hK KK;refine rd1 3 fun KK hK=>?_
   simp only[xa,xb,xc];obtain⟨c0,c1,c2,c3⟩:=flt_facts cW.out;go_simp;clear c0 c1 c2 c3;have f2:=J3 (x':=0) (y':=a0) cW.out;obtain⟨Q2,hY⟩:∃ V,(Q1.setCell ⟨gv+2,0,none⟩ (Iz 0)).setCell ⟨gv+2,1,none⟩ (Iz a0)=V:=⟨_,rfl⟩
   have q9:Out (gv+2) (gv+3) Q1 Q2:=by rw[<-hY];exact(Out.refl _ _ _).set2 Lz _ _
   rw[hY] at f2 ⊢;clear hY;have fI:=Q3 f2;have mO:=Q3 (q9.heap gG.out (.inl (Nat.lt_succ_self _)));have iZ:=Q3 (fH.out.then q9 (by have:=aW.out;omega));clear f2;refine hK.out _ _ ⟨q9.cell aB.1 (.inr (by have h1:=cB;have h2:=aY;have h3:=aI;omega)),q9.cell aB.2.1 (.inr (by have h1:=cB;have h2:=aY;have h3:=aI;omega)),q9.cell aB.2.2.1 (.inr (by have h1:=cB;have h2:=aY;have h3:=aI;omega)),q9.cell aB.2.2.2.1 (.inr (by have h1:=cB;have h2:=aY;have h3:=aI;omega)),q9.cell aB.2.2.2.2.1 (.inr (by have h1:=cB;have h2:=aY;have h3:=aI;omega)),q9.cell aB.2.2.2.2.2.1 (.inr (by have h1:=cB;have h2:=aY;have h3:=aI;omega)),q9.cell aB.2.2.2.2.2.2 (.inr (by have h1:=cB;have h2:=aY;have h3:=aI;omega))⟩ fun aB=>?_
   clear q9 hK KK;refine dn ?_;clear aB;go_wp2;exact bodyPost_ret (J2 Tryz.results72 rfl rfl (F5 mO.out) (J5 fI.out)) rfl ⟨rfl,iZ.out⟩
theorem q6l (h:RfAt w lo hi s n cw co st) (hI:Inv n st) (hR:cq w rb 0=some (Pq (s 0))) (k m:Int) {t1 t2 t3 t4 e0 a0:Int} (hM:(Q6 n st).M m=some (t1,t2,t3,t4)) (hk:k=2) (hc:z6e (Q6 n st) m=e0) (hca:z4z (Q6 n st) m=a0) (he:e0 ≠ 0):Kz 72 #[Pq rb,Vz k m] w fun e w'=>e=.returned (.tuple #[Wz 0 0 0 0 0,Vz e0 a0])/\Out 0 0 w w':=by
 subst hk;have Hc:=Q3 (And.intro hc hca);clear hc hca;have oQ:(e0 != 0)=true:=by simpa using he
 clear he;have fV:=Q3 (J8 (w:=w) (o:=Dz 2 m 32) (o2:=Ez 0 0 0 0 0 81) (o3:=Dz 0 0 46));have fR:=Q3 (J7 (w:=w) (o:=Dz 2 m 32) (o2:=Ez 0 0 0 0 0 81) (o3:=Dz 0 0 46));have fF:=Q3 (J9 (w:=w) (o:=Dz 2 m 32) (o2:=Ez 0 0 0 0 0 81) (o3:=Dz 0 0 46));have aH:=Q3 ((((Out.refl 0 0 w).alloc (Dz 2 m 32)).alloc (Ez 0 0 0 0 0 81)).alloc (Dz 0 0 46));have Hh:=Q3 h;have HI:=Q3 hI;obtain⟨gv,aN⟩:∃ g,w.heap.size=g:=⟨_,rfl⟩
 have aW:=Q3 aN;obtain⟨V2,aQ⟩:∃ V,((w.alloc (Dz 2 m 32)).alloc (Ez 0 0 0 0 0 81)).alloc (Dz 0 0 46)=V:=⟨_,rfl⟩
 rw[aQ,aN] at fV fR fF;rw[aQ] at aH;have eI:=aH.out.cell hR Oz;obtain⟨u0,u1,u2,u3⟩:=Q5 fV.out;have aI:gv+2<V2.heap.size/\rb<V2.heap.size:=⟨Q7 fF.out,Y4 eI⟩
 clear h hI hR;have HM:=Q3 hM;clear hM;have HB:Hid (∀ X,Out 0 0 V2 X->Kz 123 #[Pq (s 0),Iz m] X fun e w'=>e=.returned (.tuple #[Wz m t1 t2 t3 t4,.bool true])/\Out 0 0 X w'):=fun X o=>z1w (Hh.out.quiet (aH.out.trans o)) HI.out HM.out
 have HC:Hid (∀ X,Out 0 0 V2 X->Kz 127 #[Pq (s 0),Iz m] X fun e w'=>e=.returned (Vz e0 a0)/\Out 0 0 X w'):=fun X o=>by
  have q:=z4i (Hh.out.quiet (aH.out.trans o)) HI.out m;rw[Hc.out.1,Hc.out.2] at q;exact q
 go_enter Tryz.func72,Tryz.ntmps72
 go_wp2_with fail;(try rw[aQ]);(try rw[aN]);clear aQ aN;rename_i K hKo
 apply x1r (K:=K) (F:=fun gA V=>Out 0 0 V2 V/\(fun w'=>cq w' rb 0=some (Pq (s 0))/\cq w' gv 1=some (Iz m)) V/\V.heap[gA]? = some (Ez m t1 t2 t3 t4 81)/\V2.heap.size<=gA)
 case h1=>
  intro HKc;refine wp_region_held_drew (S:=fun w'=>cq w' rb 0=some (Pq (s 0))/\cq w' gv 1=some (Iz m)) (by kernel_rfl) ?hS157 (fun aB=>?rest157)
  case hS157=>exact⟨eI,u1⟩
  obtain⟨Z1,hZ⟩:∃ Z,V2.drew=Z:=⟨_,rfl⟩
  have O:Out 0 0 V2 Z1:=by rw[<-hZ];exact(Out.refl 0 0 _).drew
  rw[hZ] at aB ⊢;clear hZ;refine tk 0 ?_;refine tk 1 ?_;refine tk 2 ?_;refine tk 3 ?_;refine tk 4 ?_;refine tk 5 ?_;refine rd2 6 10 (fun KK hK=>?_) fun KK hK=>?_
  ·go_simp;refine(HB.out _ O).mono ?_;rintro e Z1C ⟨rfl,q1⟩;replace O:=O.trans q1;refine hK.out _ _ ⟨q1.cell aB.1 Oz,q1.cell aB.2 Oz⟩ fun aB=>?_
   clear q1 hK KK;refine tk 7 ?_;refine tk 8 ?_;refine tk 9 ?_;refine rd1 10 fun KK hK=>?_
   go_simp;obtain⟨gA,bR,aE,hY,qA,fA⟩:=alz Z1C (Ez 0 0 0 0 0 81)
   have aY:V2.heap.size<=gA:=by have:=O.size;omega
   (try rw[hY]);(try rw[aE]);clear hY aE;replace O:=O.trans qA;refine hK.out _ _ ⟨qA.cell aB.1 Oz,qA.cell aB.2 Oz⟩ fun aB=>?_
   clear qA hK KK;refine rd1 11 fun KK hK=>?_
   simp only[xa,xb,xc];obtain⟨y0,y1,y2,y3,y4,y5⟩:=K7 fA;go_simp;clear y0 y1 y2 y3 y4 y5;obtain⟨bE,hY,qS⟩:=s5z bR gA m t1 t2 t3 t4
   replace O:Out 0 0 V2 bE:=by rw[<-hY];exact O.zo5 (.inr aY) _ _ _ _ _
   have fB:bE.heap[gA]? = some (Ez m t1 t2 t3 t4 81):=by rw[<-hY];simp[World.setCell,Array.getElem?_modify,fA]
   (try rw[hY]);clear hY fA;refine hK.out _ _ ⟨qS.cell aB.1 (.inl (by have:=aI;omega)),qS.cell aB.2 (.inl (by have:=aI;omega))⟩ fun aB=>?_
   clear qS hK KK;refine tk 12 ?_;refine dn ?_;exact HKc gA _ ⟨O,aB,fB,aY⟩
  ·go_simp;obtain⟨gA,jF,aE,hY,qA,fA⟩:=alz Z1 (Ez 0 0 0 0 0 81)
   have aY:V2.heap.size<=gA:=by have:=O.size;omega
   (try rw[hY]);(try rw[aE]);clear hY aE;replace O:=O.trans qA;refine hK.out _ _ ⟨qA.cell aB.1 Oz,qA.cell aB.2 Oz⟩ fun aB=>?_
   clear qA hK KK;refine rd1 6 fun KK hK=>?_
   go_simp;refine(HB.out _ O).mono ?_;rintro e Z1AC ⟨rfl,q1⟩;replace O:=O.trans q1;replace fA:=q1.heap fA Oz;refine hK.out _ _ ⟨q1.cell aB.1 Oz,q1.cell aB.2 Oz⟩ fun aB=>?_
   clear q1 hK KK;refine tk 7 ?_;refine tk 8 ?_;refine tk 9 ?_;refine rd1 11 fun KK hK=>?_
   simp only[xa,xb,xc];obtain⟨y0,y1,y2,y3,y4,y5⟩:=K7 fA;go_simp;clear y0 y1 y2 y3 y4 y5;obtain⟨bF,hY,qS⟩:=s5z Z1AC gA m t1 t2 t3 t4
   replace O:Out 0 0 V2 bF:=by rw[<-hY];exact O.zo5 (.inr aY) _ _ _ _ _
   have fB:bF.heap[gA]? = some (Ez m t1 t2 t3 t4 81):=by rw[<-hY];simp[World.setCell,Array.getElem?_modify,fA]
   (try rw[hY]);clear hY fA;refine hK.out _ _ ⟨qS.cell aB.1 (.inl (by have:=aI;omega)),qS.cell aB.2 (.inl (by have:=aI;omega))⟩ fun aB=>?_
   clear qS hK KK;refine tk 12 ?_;refine dn ?_;exact HKc gA _ ⟨O,aB,fB,aY⟩
 case h2=>
  intro gA Z1X hF;obtain⟨O,aB,fB,aY⟩:=hF;apply hKo;clear hKo K;obtain⟨x0,x1,x2,x3⟩:=Q5 (O.heap fV.out Oz);have HE:=Q3 O;have lR:=Q3 fB;obtain⟨y0,y1,y2,y3,y4,y5⟩:=K7 fB;have hH9:=HE.out.cell eI Oz;clear O fB aB;go_wp2_with fail;clear x0 x1 x2 x3 y1 y2 y3 y4 y5;refine wp_region_held_drew (S:=fun w'=>cq w' rb 0=some (Pq (s 0))/\cq w' gA 0=some (Iz m)) (by kernel_rfl) ?hS178 (fun aB=>?rest178)
  case hS178=>exact⟨hH9,y0⟩
  obtain⟨Y,hZ⟩:∃ Z,Z1X.drew=Z:=⟨_,rfl⟩
  have O:Out 0 0 V2 Y:=by rw[<-hZ];exact HE.out.drew
  have bT:Hid (Y.heap[gA]? = some (Ez m t1 t2 t3 t4 81)):=by rw[<-hZ];exact lR.out
  rw[hZ] at aB ⊢;clear hZ;refine tk 0 ?_;refine tk 1 ?_;refine tk 2 ?_;refine tk 3 ?_;refine tk 4 ?_;refine tk 5 ?_;refine rd2 6 8 (fun KK hK=>?_) fun KK hK=>?_
  ·go_simp;refine(HC.out _ O).mono ?_;rintro e YC ⟨rfl,q1⟩;replace O:=O.trans q1;replace bT:=Q3 (q1.heap bT.out Oz);refine hK.out _ _ ⟨q1.cell aB.1 Oz,q1.cell aB.2 Oz⟩ fun aB=>?_
   clear q1 hK KK;refine rd2 7 8 (fun KK hK=>?_) fun KK hK=>?_
   ·go_simp;refine(z0h _ _ _).mono ?_;rintro e YCT ⟨rfl,q1⟩;replace O:=O.trans q1;replace bT:=Q3 (q1.heap bT.out Oz);refine hK.out _ _ ⟨q1.cell aB.1 Oz,q1.cell aB.2 Oz⟩ fun aB=>?_
    clear q1 hK KK;refine rd1 8 fun KK hK=>?_
    go_simp;obtain⟨gE,pG,aE,hY,qA,fE⟩:=alz YCT (Dz 0 0 46)
    have cB:V2.heap.size<=gE/\gA<gE:=⟨by have:=O.size;omega,by have:=O.size;have:=Y4 aB.2;omega⟩
    (try rw[hY]);(try rw[aE]);clear hY aE;replace O:=O.trans qA;replace bT:=Q3 (qA.heap bT.out Oz);refine hK.out _ _ ⟨qA.cell aB.1 Oz,qA.cell aB.2 Oz⟩ fun aB=>?_
    clear qA hK KK;refine rd1 9 fun KK hK=>?_
    simp only[xa,xb,xc];obtain⟨y0,y1,y2,y3⟩:=flt_facts fE;go_simp;clear y0 y1 y2 y3;obtain⟨gX,hY,qS⟩:=s2z pG gE e0 a0
    replace O:Out 0 0 V2 gX:=by rw[<-hY];exact O.set2 (.inr cB.1) _ _
    have fE2:gX.heap[gE]? = some (Dz e0 a0 46):=by rw[<-hY];exact J3 fE
    replace bT:=Q3 (qS.heap bT.out (.inl cB.2));(try rw[hY]);clear hY fE;refine hK.out _ _ ⟨qS.cell aB.1 (.inl (by have h1:=aI;have h2:=cB;omega)),qS.cell aB.2 (.inl (by have h1:=aI;have h2:=cB;omega))⟩ fun aB=>?_
    clear qS hK KK;refine dn ?_;clear bT;have bJ:=Q3 (aH.out.trans O);have jV:=O.heap fR.out Oz;have fK:=O.heap fF.out Oz;have dY:=Q3 jV;have fM:=Q3 fK;obtain⟨z0,z1,_,_⟩:=flt_facts fE2;clear aB jV fK O;go_wp2_with fail;refine wp_region_held_drew (S:=fun w'=>cq w' gE 0=some (Iz e0)/\cq w' gE 1=some (Iz a0)) (by kernel_rfl) ?hS189 (fun aB=>?rest189)
    case hS189=>exact⟨z0,z1⟩
    obtain⟨Q0,hZ⟩:∃ Z,gX.drew=Z:=⟨_,rfl⟩
    have OQ:Out 0 0 gX Q0:=by rw[<-hZ];exact(Out.refl 0 0 _).drew
    rw[hZ] at aB ⊢;clear hZ;have eR:=Q3 (OQ.heap dY.out Oz);have fC:=Q3 (OQ.heap fM.out Oz);have bL:=Q3 (bJ.out.trans OQ);clear OQ;refine tk 0 ?_;refine tk 1 ?_;refine rd1 2 fun KK hK=>?_
    simp only[xa,xb,xc];obtain⟨v0,v1,v2,v3,v4,v5⟩:=K7 eR.out;go_simp;clear v0 v1 v2 v3 v4 v5;have e1:=G1 (x1:=0) (x2:=0) (x3:=0) (x4:=0) (x5:=0) eR.out;obtain⟨Q1,hY⟩:∃ V,(((((Q0.setCell ⟨gv+1,0,none⟩ (Iz 0)).setCell ⟨gv+1,1,none⟩ (Iz 0)).setCell ⟨gv+1,2,none⟩ (Iz 0)).setCell ⟨gv+1,3,none⟩ (Iz 0)).setCell ⟨gv+1,4,none⟩ (Iz 0))=V:=⟨_,rfl⟩
    have q8:Out (gv+1) (gv+2) Q0 Q1:=by rw[<-hY];exact(Out.refl _ _ _).set5 Lz _ _ _ _ _
    rw[hY] at e1 ⊢;clear hY;have gG:=Q3 e1;have cW:=Q3 (q8.heap fC.out (.inr (Nat.le_refl _)));have fH:=Q3 (bL.out.then q8 (by have:=aW.out;omega));clear e1;refine hK.out _ _ ⟨q8.cell aB.1 (.inr (by have h1:=cB;have h2:=aY;have h3:=aI;omega)),q8.cell aB.2 (.inr (by have h1:=cB;have h2:=aY;have h3:=aI;omega))⟩ fun aB=>?_
    clear q8 hK KK;refine rd1 3 fun KK hK=>?_
    simp only[xa,xb,xc];obtain⟨c0,c1,c2,c3⟩:=flt_facts cW.out;go_simp;clear c0 c1 c2 c3;have f2:=J3 (x':=e0) (y':=a0) cW.out;obtain⟨Q2,hY⟩:∃ V,(Q1.setCell ⟨gv+2,0,none⟩ (Iz e0)).setCell ⟨gv+2,1,none⟩ (Iz a0)=V:=⟨_,rfl⟩
    have q9:Out (gv+2) (gv+3) Q1 Q2:=by rw[<-hY];exact(Out.refl _ _ _).set2 Lz _ _
    rw[hY] at f2 ⊢;clear hY;have fI:=Q3 f2;have mO:=Q3 (q9.heap gG.out (.inl (Nat.lt_succ_self _)));have iZ:=Q3 (fH.out.then q9 (by have:=aW.out;omega));clear f2;refine hK.out _ _ ⟨q9.cell aB.1 (.inr (by have h1:=cB;have h2:=aY;have h3:=aI;omega)),q9.cell aB.2 (.inr (by have h1:=cB;have h2:=aY;have h3:=aI;omega))⟩ fun aB=>?_
    clear q9 hK KK;refine dn ?_;clear aB;go_wp2;exact bodyPost_ret (J2 Tryz.results72 rfl rfl (F5 mO.out) (J5 fI.out)) rfl ⟨rfl,iZ.out⟩
   ·go_simp;obtain⟨gE,YCA,aE,hY,qA,fE⟩:=alz YC (Dz 0 0 46)
    have cB:V2.heap.size<=gE/\gA<gE:=⟨by have:=O.size;omega,by have:=O.size;have:=Y4 aB.2;omega⟩
    (try rw[hY]);(try rw[aE]);clear hY aE;replace O:=O.trans qA;replace bT:=Q3 (qA.heap bT.out Oz);refine hK.out _ _ ⟨qA.cell aB.1 Oz,qA.cell aB.2 Oz⟩ fun aB=>?_
    clear qA hK KK;refine rd1 7 fun KK hK=>?_
    go_simp;refine(z0h _ _ _).mono ?_;rintro e YCAT ⟨rfl,q1⟩;replace O:=O.trans q1;replace bT:=Q3 (q1.heap bT.out Oz);replace fE:=q1.heap fE Oz;refine hK.out _ _ ⟨q1.cell aB.1 Oz,q1.cell aB.2 Oz⟩ fun aB=>?_
    clear q1 hK KK;refine rd1 9 fun KK hK=>?_
    simp only[xa,xb,xc];obtain⟨y0,y1,y2,y3⟩:=flt_facts fE;go_simp;clear y0 y1 y2 y3;obtain⟨gY,hY,qS⟩:=s2z YCAT gE e0 a0
    replace O:Out 0 0 V2 gY:=by rw[<-hY];exact O.set2 (.inr cB.1) _ _
    have fE2:gY.heap[gE]? = some (Dz e0 a0 46):=by rw[<-hY];exact J3 fE
    replace bT:=Q3 (qS.heap bT.out (.inl cB.2));(try rw[hY]);clear hY fE;refine hK.out _ _ ⟨qS.cell aB.1 (.inl (by have h1:=aI;have h2:=cB;omega)),qS.cell aB.2 (.inl (by have h1:=aI;have h2:=cB;omega))⟩ fun aB=>?_
    clear qS hK KK;refine dn ?_;clear bT;have bJ:=Q3 (aH.out.trans O);have jV:=O.heap fR.out Oz;have fK:=O.heap fF.out Oz;have dY:=Q3 jV;have fM:=Q3 fK;obtain⟨z0,z1,_,_⟩:=flt_facts fE2;clear aB jV fK O;go_wp2_with fail;refine wp_region_held_drew (S:=fun w'=>cq w' gE 0=some (Iz e0)/\cq w' gE 1=some (Iz a0)) (by kernel_rfl) ?hS197 (fun aB=>?rest197)
    case hS197=>exact⟨z0,z1⟩
    obtain⟨Q0,hZ⟩:∃ Z,gY.drew=Z:=⟨_,rfl⟩
    have OQ:Out 0 0 gY Q0:=by rw[<-hZ];exact(Out.refl 0 0 _).drew
    rw[hZ] at aB ⊢;clear hZ;have eR:=Q3 (OQ.heap dY.out Oz);have fC:=Q3 (OQ.heap fM.out Oz);have bL:=Q3 (bJ.out.trans OQ);clear OQ;refine tk 0 ?_;refine tk 1 ?_;refine rd1 2 fun KK hK=>?_
    simp only[xa,xb,xc];obtain⟨v0,v1,v2,v3,v4,v5⟩:=K7 eR.out;go_simp;clear v0 v1 v2 v3 v4 v5;have e1:=G1 (x1:=0) (x2:=0) (x3:=0) (x4:=0) (x5:=0) eR.out;obtain⟨Q1,hY⟩:∃ V,(((((Q0.setCell ⟨gv+1,0,none⟩ (Iz 0)).setCell ⟨gv+1,1,none⟩ (Iz 0)).setCell ⟨gv+1,2,none⟩ (Iz 0)).setCell ⟨gv+1,3,none⟩ (Iz 0)).setCell ⟨gv+1,4,none⟩ (Iz 0))=V:=⟨_,rfl⟩
    have q8:Out (gv+1) (gv+2) Q0 Q1:=by rw[<-hY];exact(Out.refl _ _ _).set5 Lz _ _ _ _ _
    rw[hY] at e1 ⊢;clear hY;have gG:=Q3 e1;have cW:=Q3 (q8.heap fC.out (.inr (Nat.le_refl _)));have fH:=Q3 (bL.out.then q8 (by have:=aW.out;omega));clear e1;refine hK.out _ _ ⟨q8.cell aB.1 (.inr (by have h1:=cB;have h2:=aY;have h3:=aI;omega)),q8.cell aB.2 (.inr (by have h1:=cB;have h2:=aY;have h3:=aI;omega))⟩ fun aB=>?_
    clear q8 hK KK;refine rd1 3 fun KK hK=>?_
    simp only[xa,xb,xc];obtain⟨c0,c1,c2,c3⟩:=flt_facts cW.out;go_simp;clear c0 c1 c2 c3;have f2:=J3 (x':=e0) (y':=a0) cW.out;obtain⟨Q2,hY⟩:∃ V,(Q1.setCell ⟨gv+2,0,none⟩ (Iz e0)).setCell ⟨gv+2,1,none⟩ (Iz a0)=V:=⟨_,rfl⟩
    have q9:Out (gv+2) (gv+3) Q1 Q2:=by rw[<-hY];exact(Out.refl _ _ _).set2 Lz _ _
    rw[hY] at f2 ⊢;clear hY;have fI:=Q3 f2;have mO:=Q3 (q9.heap gG.out (.inl (Nat.lt_succ_self _)));have iZ:=Q3 (fH.out.then q9 (by have:=aW.out;omega));clear f2;refine hK.out _ _ ⟨q9.cell aB.1 (.inr (by have h1:=cB;have h2:=aY;have h3:=aI;omega)),q9.cell aB.2 (.inr (by have h1:=cB;have h2:=aY;have h3:=aI;omega))⟩ fun aB=>?_
    clear q9 hK KK;refine dn ?_;clear aB;go_wp2;exact bodyPost_ret (J2 Tryz.results72 rfl rfl (F5 mO.out) (J5 fI.out)) rfl ⟨rfl,iZ.out⟩
  ·go_simp;obtain⟨gE,YA,aE,hY,qA,fE⟩:=alz Y (Dz 0 0 46)
   have cB:V2.heap.size<=gE/\gA<gE:=⟨by have:=O.size;omega,by have:=O.size;have:=Y4 aB.2;omega⟩
   (try rw[hY]);(try rw[aE]);clear hY aE;replace O:=O.trans qA;replace bT:=Q3 (qA.heap bT.out Oz);refine hK.out _ _ ⟨qA.cell aB.1 Oz,qA.cell aB.2 Oz⟩ fun aB=>?_
   clear qA hK KK;refine rd1 6 fun KK hK=>?_
   go_simp;refine(HC.out _ O).mono ?_;rintro e YAC ⟨rfl,q1⟩;replace O:=O.trans q1;replace bT:=Q3 (q1.heap bT.out Oz);replace fE:=q1.heap fE Oz;refine hK.out _ _ ⟨q1.cell aB.1 Oz,q1.cell aB.2 Oz⟩ fun aB=>?_
   clear q1 hK KK;refine rd1 7 fun KK hK=>?_
   go_simp;refine(z0h _ _ _).mono ?_;rintro e YACT ⟨rfl,q1⟩;replace O:=O.trans q1;replace bT:=Q3 (q1.heap bT.out Oz);replace fE:=q1.heap fE Oz;refine hK.out _ _ ⟨q1.cell aB.1 Oz,q1.cell aB.2 Oz⟩ fun aB=>?_
   clear q1 hK KK;refine rd1 9 fun KK hK=>?_
   simp only[xa,xb,xc];obtain⟨y0,y1,y2,y3⟩:=flt_facts fE;go_simp;clear y0 y1 y2 y3;obtain⟨gZ,hY,qS⟩:=s2z YACT gE e0 a0
   replace O:Out 0 0 V2 gZ:=by rw[<-hY];exact O.set2 (.inr cB.1) _ _
   have fE2:gZ.heap[gE]? = some (Dz e0 a0 46):=by rw[<-hY];exact J3 fE
   replace bT:=Q3 (qS.heap bT.out (.inl cB.2));(try rw[hY]);clear hY fE;refine hK.out _ _ ⟨qS.cell aB.1 (.inl (by have h1:=aI;have h2:=cB;omega)),qS.cell aB.2 (.inl (by have h1:=aI;have h2:=cB;omega))⟩ fun aB=>?_
   clear qS hK KK;refine dn ?_;clear bT;have bJ:=Q3 (aH.out.trans O);have jV:=O.heap fR.out Oz;have fK:=O.heap fF.out Oz;have dY:=Q3 jV;have fM:=Q3 fK;obtain⟨z0,z1,_,_⟩:=flt_facts fE2;clear aB jV fK O;go_wp2_with fail;refine wp_region_held_drew (S:=fun w'=>cq w' gE 0=some (Iz e0)/\cq w' gE 1=some (Iz a0)) (by kernel_rfl) ?hS206 (fun aB=>?rest206)
   case hS206=>exact⟨z0,z1⟩
   obtain⟨Q0,hZ⟩:∃ Z,gZ.drew=Z:=⟨_,rfl⟩
   have OQ:Out 0 0 gZ Q0:=by rw[<-hZ];exact(Out.refl 0 0 _).drew
   rw[hZ] at aB ⊢;clear hZ;have eR:=Q3 (OQ.heap dY.out Oz);have fC:=Q3 (OQ.heap fM.out Oz);have bL:=Q3 (bJ.out.trans OQ);clear OQ;refine tk 0 ?_;refine tk 1 ?_;refine rd1 2 fun KK hK=>?_
   simp only[xa,xb,xc];obtain⟨v0,v1,v2,v3,v4,v5⟩:=K7 eR.out;go_simp;clear v0 v1 v2 v3 v4 v5;have e1:=G1 (x1:=0) (x2:=0) (x3:=0) (x4:=0) (x5:=0) eR.out;obtain⟨Q1,hY⟩:∃ V,(((((Q0.setCell ⟨gv+1,0,none⟩ (Iz 0)).setCell ⟨gv+1,1,none⟩ (Iz 0)).setCell ⟨gv+1,2,none⟩ (Iz 0)).setCell ⟨gv+1,3,none⟩ (Iz 0)).setCell ⟨gv+1,4,none⟩ (Iz 0))=V:=⟨_,rfl⟩
   have q8:Out (gv+1) (gv+2) Q0 Q1:=by rw[<-hY];exact(Out.refl _ _ _).set5 Lz _ _ _ _ _
   rw[hY] at e1 ⊢;clear hY;have gG:=Q3 e1;have cW:=Q3 (q8.heap fC.out (.inr (Nat.le_refl _)));have fH:=Q3 (bL.out.then q8 (by have:=aW.out;omega));clear e1;refine hK.out _ _ ⟨q8.cell aB.1 (.inr (by have h1:=cB;have h2:=aY;have h3:=aI;omega)),q8.cell aB.2 (.inr (by have h1:=cB;have h2:=aY;have h3:=aI;omega))⟩ fun aB=>?_
   clear q8 hK KK;refine rd1 3 fun KK hK=>?_
   simp only[xa,xb,xc];obtain⟨c0,c1,c2,c3⟩:=flt_facts cW.out;go_simp;clear c0 c1 c2 c3;have f2:=J3 (x':=e0) (y':=a0) cW.out;obtain⟨Q2,hY⟩:∃ V,(Q1.setCell ⟨gv+2,0,none⟩ (Iz e0)).setCell ⟨gv+2,1,none⟩ (Iz a0)=V:=⟨_,rfl⟩
   have q9:Out (gv+2) (gv+3) Q1 Q2:=by rw[<-hY];exact(Out.refl _ _ _).set2 Lz _ _
   rw[hY] at f2 ⊢;clear hY;have fI:=Q3 f2;have mO:=Q3 (q9.heap gG.out (.inl (Nat.lt_succ_self _)));have iZ:=Q3 (fH.out.then q9 (by have:=aW.out;omega));clear f2;refine hK.out _ _ ⟨q9.cell aB.1 (.inr (by have h1:=cB;have h2:=aY;have h3:=aI;omega)),q9.cell aB.2 (.inr (by have h1:=cB;have h2:=aY;have h3:=aI;omega))⟩ fun aB=>?_
   clear q9 hK KK;refine dn ?_;clear aB;go_wp2;exact bodyPost_ret (J2 Tryz.results72 rfl rfl (F5 mO.out) (J5 fI.out)) rfl ⟨rfl,iZ.out⟩
end
end Go.Proofs.YtjgnogflgoihfaaGreatDoor
