import Derived.Test.YtjgnogflgoihfaaGreatDoorP17
namespace Go.Proofs.YtjgnogflgoihfaaGreatDoor
open Go.RowKit
set_option linter.unusedVariables false
set_option maxRecDepth 100000
set_option maxHeartbeats 16000000
set_option linter.unusedSimpArgs false
section
variable {w:World} {rb:Nat} {s:Nat->Nat}
theorem q7r (hR:cq w rb 0=some (Pq (s 0))) (k m i:Int) (raw:Bool) {b0 b1 b2 b3 b4 e0 a0:Int} (hOp:∀ X,Out 0 0 w X->Kz 72 #[Pq rb,Vz k m] X fun e w'=>e=.returned (.tuple #[Wz b0 b1 b2 b3 b4,Vz e0 a0])/\Out 0 0 X w') (he:e0 ≠ 0):Kz 66 #[Pq rb,Vz k m,Iz i,.bool raw] w fun e w'=>e=.returned (.tuple #[Wz b0 b1 b2 b3 b4,Vz e0 a0])/\Out 0 0 w w':=by
 have qR:(e0 != 0)=true:=by simpa using he
 clear he;have fV:=Q3 (V5 (w:=w) (o:=Dz k m 32) (o2:=Ez 0 0 0 0 0 81) (o3:=Dz 0 0 46));have fR:=Q3 (X0 (w:=w) (o:=Dz k m 32) (o2:=Ez 0 0 0 0 0 81) (o3:=Dz 0 0 46));have fF:=Q3 (K4 (w:=w) (o:=Dz k m 32) (o2:=Ez 0 0 0 0 0 81) (o3:=Dz 0 0 46));have aI:=Q3 ((((Out.refl 0 0 w).alloc (Dz k m 32)).alloc (Ez 0 0 0 0 0 81)).alloc (Dz 0 0 46));have mO:=Q3 hOp;obtain⟨gv,aR⟩:∃ g,w.heap.size=g:=⟨_,rfl⟩
 have bD:=Q3 aR;obtain⟨V2,aS⟩:∃ V,((w.alloc (Dz k m 32)).alloc (Ez 0 0 0 0 0 81)).alloc (Dz 0 0 46)=V:=⟨_,rfl⟩
 rw[aS,aR] at fV fR fF;rw[aS] at aI;obtain⟨u0,u1,u2,u3⟩:=Q5 fV.out;clear hOp hR;go_enter Tryz.func66,Tryz.ntmps66
 go_wp2_with fail;(try rw[aS]);(try rw[aR]);clear aS aR;refine(mO.out _ aI.out).mono ?_;rintro e X3 ⟨rfl,q3⟩;clear u0 u1 u2 u3;have eS:=J3 (w:=X3) (o:=Ez b0 b1 b2 b3 b4 81) (o2:=Dz e0 a0 46);have gJ:=J7 (w:=X3) (o:=Ez b0 b1 b2 b3 b4 81) (o2:=Dz e0 a0 46);have o4:=(q3.alloc (Ez b0 b1 b2 b3 b4 81)).alloc (Dz e0 a0 46);obtain⟨y0,y1,y2,y3,y4,y5⟩:=W7 eS;obtain⟨z0,z1,z2,z3⟩:=flt_facts gJ;have cV:=Q3 (And.intro eS (And.intro gJ o4));have bU:Hid (gv+3<=X3.heap.size):=by have h1:=Q8 fF.out;have h2:=q3.size;exact Nat.le_trans h1 h2
 clear eS gJ o4 q3;go_wp2_with fail;obtain⟨V4,cG⟩:∃ V,(X3.alloc (Ez b0 b1 b2 b3 b4 81)).alloc (Dz e0 a0 46)=V:=⟨_,rfl⟩
 obtain⟨gb,bG⟩:∃ g,X3.heap.size=g:=⟨_,rfl⟩
 rw[cG] at cV y0 y1 y2 y3 y4 z0 z1 ⊢;rw[bG] at y0 y1 y2 y3 y4 z0 z1 bU;(try rw[bG]);clear cG bG y5 z2 z3;have cU:=Q3 bU.out;have bN:=Q3 (aI.out.trans cV.out.2.2);have fM:=Q3 (cV.out.2.2.heap fR.out Oz);have iN:=Q3 (cV.out.2.2.heap fF.out Oz);refine wp_region_held_drew (S:=fun w'=>cq w' gb 0=some (Iz b0)/\cq w' gb 1=some (Iz b1)/\cq w' gb 2=some (Iz b2)/\cq w' gb 3=some (Iz b3)/\cq w' gb 4=some (Iz b4)/\cq w' (gb+1) 0=some (Iz e0)/\cq w' (gb+1) 1=some (Iz a0)) (by kernel_rfl) ?hS61 (fun aB=>?rest61)
 case hS61=>exact⟨y0,y1,y2,y3,y4,z0,z1⟩
 obtain⟨Q0,hZ⟩:∃ Z,V4.drew=Z:=⟨_,rfl⟩
 have OQ:Out 0 0 V4 Q0:=by rw[<-hZ];exact(Out.refl 0 0 _).drew
 rw[hZ] at aB ⊢;clear hZ;have gY:=Q3 (OQ.heap fM.out Oz);have iE:=Q3 (OQ.heap iN.out Oz);have bJ:=Q3 (bN.out.trans OQ);clear OQ;refine tk 0 ?_;refine tk 1 ?_;refine rd1 2 fun KK hK=>?_
 simp only[xa,xb,xc];obtain⟨v0,v1,v2,v3,v4,v5⟩:=W7 gY.out;go_simp;clear v0 v1 v2 v3 v4 v5;have e1:=G6 (x1:=b0) (x2:=b1) (x3:=b2) (x4:=b3) (x5:=b4) gY.out;obtain⟨Q1,hY⟩:∃ V,(((((Q0.setCell ⟨gv+1,0,none⟩ (Iz b0)).setCell ⟨gv+1,1,none⟩ (Iz b1)).setCell ⟨gv+1,2,none⟩ (Iz b2)).setCell ⟨gv+1,3,none⟩ (Iz b3)).setCell ⟨gv+1,4,none⟩ (Iz b4))=V:=⟨_,rfl⟩
 have q8:Out (gv+1) (gv+2) Q0 Q1:=by rw[<-hY];exact(Out.refl _ _ _).set5 Lz _ _ _ _ _
 rw[hY] at e1 ⊢;clear hY;have jB:=Q3 e1;have eI:=Q3 (q8.heap iE.out (.inr (Nat.le_refl _)));have iH:=Q3 (bJ.out.then q8 (by have:=bD.out;omega));clear e1;refine hK.out _ _ ⟨q8.cell aB.1 (.inr (by have h1:=cU.out;omega)),q8.cell aB.2.1 (.inr (by have h1:=cU.out;omega)),q8.cell aB.2.2.1 (.inr (by have h1:=cU.out;omega)),q8.cell aB.2.2.2.1 (.inr (by have h1:=cU.out;omega)),q8.cell aB.2.2.2.2.1 (.inr (by have h1:=cU.out;omega)),q8.cell aB.2.2.2.2.2.1 (.inr (by have h1:=cU.out;omega)),q8.cell aB.2.2.2.2.2.2 (.inr (by have h1:=cU.out;omega))⟩ fun aB=>?_
 clear q8 hK KK;refine rd1 3 fun KK hK=>?_
 simp only[xa,xb,xc];obtain⟨c0,c1,c2,c3⟩:=flt_facts eI.out;go_simp;clear c0 c1 c2 c3;have f2:=J5 (x':=e0) (y':=a0) eI.out;obtain⟨Q2,hY⟩:∃ V,(Q1.setCell ⟨gv+2,0,none⟩ (Iz e0)).setCell ⟨gv+2,1,none⟩ (Iz a0)=V:=⟨_,rfl⟩
 have q9:Out (gv+2) (gv+3) Q1 Q2:=by rw[<-hY];exact(Out.refl _ _ _).set2 Lz _ _
 rw[hY] at f2 ⊢;clear hY;have iI:=Q3 f2;have oL:=Q3 (q9.heap jB.out (.inl (Nat.lt_succ_self _)));have kM:=Q3 (iH.out.then q9 (by have:=bD.out;omega));clear f2;refine hK.out _ _ ⟨q9.cell aB.1 (.inr (by have h1:=cU.out;omega)),q9.cell aB.2.1 (.inr (by have h1:=cU.out;omega)),q9.cell aB.2.2.1 (.inr (by have h1:=cU.out;omega)),q9.cell aB.2.2.2.1 (.inr (by have h1:=cU.out;omega)),q9.cell aB.2.2.2.2.1 (.inr (by have h1:=cU.out;omega)),q9.cell aB.2.2.2.2.2.1 (.inr (by have h1:=cU.out;omega)),q9.cell aB.2.2.2.2.2.2 (.inr (by have h1:=cU.out;omega))⟩ fun aB=>?_
 clear q9 hK KK;refine dn ?_;clear aB;go_wp2;exact bodyPost_ret (J4 Tryz.results66 rfl rfl (G0 oL.out) (J8 iI.out)) rfl ⟨rfl,kM.out⟩
theorem q7s (hR:cq w rb 0=some (Pq (s 0))) (k m i:Int) (raw:Bool) {b0 b1 b2 b3 b4 a0:Int} (hOp:∀ X,Out 0 0 w X->Kz 72 #[Pq rb,Vz k m] X fun e w'=>e=.returned (.tuple #[Wz b0 b1 b2 b3 b4,Vz 0 a0])/\Out 0 0 X w') {aN:Int} (hs1:-9223372036854775808<=b2) (gU:b2<=9223372036854775807) (bE:J9 b1 b2 i=aN) (hbad:(aN == 0)=true\/((aN == 0)=false/\((raw=true/\(aN == 1)=false)\/(raw=false/\(aN == 1)=true)))):Kz 66 #[Pq rb,Vz k m,Iz i,.bool raw] w fun e w'=>e=.returned (.tuple #[Wz b0 b1 b2 b3 b4,Vz 32 0])/\Out 0 0 w w':=by
 have Hs:=Q3 (And.intro hs1 gU);have dQ:=Q3 bE;clear hs1 gU bE;have fV:=Q3 (V5 (w:=w) (o:=Dz k m 32) (o2:=Ez 0 0 0 0 0 81) (o3:=Dz 0 0 46));have fR:=Q3 (X0 (w:=w) (o:=Dz k m 32) (o2:=Ez 0 0 0 0 0 81) (o3:=Dz 0 0 46));have fF:=Q3 (K4 (w:=w) (o:=Dz k m 32) (o2:=Ez 0 0 0 0 0 81) (o3:=Dz 0 0 46));have aI:=Q3 ((((Out.refl 0 0 w).alloc (Dz k m 32)).alloc (Ez 0 0 0 0 0 81)).alloc (Dz 0 0 46));have mO:=Q3 hOp;obtain⟨gv,aR⟩:∃ g,w.heap.size=g:=⟨_,rfl⟩
 have bD:=Q3 aR;obtain⟨V2,aS⟩:∃ V,((w.alloc (Dz k m 32)).alloc (Ez 0 0 0 0 0 81)).alloc (Dz 0 0 46)=V:=⟨_,rfl⟩
 rw[aS,aR] at fV fR fF;rw[aS] at aI;obtain⟨u0,u1,u2,u3⟩:=Q5 fV.out;clear hOp hR;go_enter Tryz.func66,Tryz.ntmps66
 go_wp2_with fail;(try rw[aS]);(try rw[aR]);clear aS aR;refine(mO.out _ aI.out).mono ?_;rintro e X3 ⟨rfl,q3⟩;clear u0 u1 u2 u3;have eS:=J3 (w:=X3) (o:=Ez b0 b1 b2 b3 b4 81) (o2:=Dz 0 a0 46);have gJ:=J7 (w:=X3) (o:=Ez b0 b1 b2 b3 b4 81) (o2:=Dz 0 a0 46);have o4:=(q3.alloc (Ez b0 b1 b2 b3 b4 81)).alloc (Dz 0 a0 46);obtain⟨y0,y1,y2,y3,y4,y5⟩:=W7 eS;obtain⟨z0,z1,z2,z3⟩:=flt_facts gJ;have cV:=Q3 (And.intro eS (And.intro gJ o4));have bU:Hid (gv+3<=X3.heap.size):=by have h1:=Q8 fF.out;have h2:=q3.size;exact Nat.le_trans h1 h2
 clear eS gJ o4 q3;go_wp2_with fail;obtain⟨V3,cG⟩:∃ V,(X3.alloc (Ez b0 b1 b2 b3 b4 81)).alloc (Dz 0 a0 46)=V:=⟨_,rfl⟩
 obtain⟨gb,bG⟩:∃ g,X3.heap.size=g:=⟨_,rfl⟩
 rw[cG] at cV y0 y1 y2 y3 y4 z0 z1 ⊢;rw[bG] at cV y0 y1 y2 y3 y4 z0 z1 bU;(try rw[bG]);clear cG bG y0 y1 y2 y3 y4 y5 z0 z1 z2 z3;have cU:=Q3 bU.out;refine(B6 b1 b2 i _ Hs.out.1 Hs.out.2).mono ?_;rintro e V4 ⟨rfl,q5⟩;have bN:=Q3 ((aI.out.trans cV.out.2.2).trans q5);have fM:=Q3 ((cV.out.2.2.trans q5).heap fR.out Oz);have iN:=Q3 ((cV.out.2.2.trans q5).heap fF.out Oz);obtain⟨y0,y1,y2,y3,y4,_⟩:=W7 (q5.heap cV.out.1 Oz);obtain⟨z0,z1,_,_⟩:=flt_facts (q5.heap cV.out.2.1 Oz);rw[dQ.out];clear q5 cV;rcases hbad with lE | ⟨lE,⟨rfl,kD⟩ | ⟨rfl,kD⟩⟩
 ·go_wp2_with fail;refine wp_region_held_drew (S:=fun w'=>cq w' gb 0=some (Iz b0)/\cq w' gb 1=some (Iz b1)/\cq w' gb 2=some (Iz b2)/\cq w' gb 3=some (Iz b3)/\cq w' gb 4=some (Iz b4)) (by kernel_rfl) ?hS66 (fun aB=>?rest66)
  case hS66=>exact⟨y0,y1,y2,y3,y4⟩
  obtain⟨Qz,hZ⟩:∃ Z,V4.drew=Z:=⟨_,rfl⟩
  have OQ:Out 0 0 V4 Qz:=by rw[<-hZ];exact(Out.refl 0 0 _).drew
  rw[hZ] at aB ⊢;clear hZ;have HRz:=Q3 (OQ.heap fM.out Oz);have HFz:=Q3 (OQ.heap iN.out Oz);have HOz:=Q3 (bN.out.trans OQ);clear OQ;refine tk 0 ?_;refine rd1 1 fun KK hK=>?_
  simp only[xa,xb,xc];go_simp;refine(G5 32 _).mono ?_;rintro e Q0 ⟨rfl,q1⟩;have gY:=Q3 (q1.heap HRz.out Oz);have iE:=Q3 (q1.heap HFz.out Oz);have bJ:=Q3 (HOz.out.trans q1);refine hK.out _ _ ⟨q1.cell aB.1 Oz,q1.cell aB.2.1 Oz,q1.cell aB.2.2.1 Oz,q1.cell aB.2.2.2.1 Oz,q1.cell aB.2.2.2.2 Oz⟩ fun aB=>?_
  clear q1 hK KK;refine rd1 2 fun KK hK=>?_
  simp only[xa,xb,xc];obtain⟨v0,v1,v2,v3,v4,v5⟩:=W7 gY.out;go_simp;clear v0 v1 v2 v3 v4 v5;have e1:=G6 (x1:=b0) (x2:=b1) (x3:=b2) (x4:=b3) (x5:=b4) gY.out;obtain⟨Q1,hY⟩:∃ V,(((((Q0.setCell ⟨gv+1,0,none⟩ (Iz b0)).setCell ⟨gv+1,1,none⟩ (Iz b1)).setCell ⟨gv+1,2,none⟩ (Iz b2)).setCell ⟨gv+1,3,none⟩ (Iz b3)).setCell ⟨gv+1,4,none⟩ (Iz b4))=V:=⟨_,rfl⟩
  have q8:Out (gv+1) (gv+2) Q0 Q1:=by rw[<-hY];exact(Out.refl _ _ _).set5 Lz _ _ _ _ _
  rw[hY] at e1 ⊢;clear hY;have jB:=Q3 e1;have eI:=Q3 (q8.heap iE.out (.inr (Nat.le_refl _)));have iH:=Q3 (bJ.out.then q8 (by have:=bD.out;omega));clear e1;refine hK.out _ _ ⟨q8.cell aB.1 (.inr (by have h1:=cU.out;omega)),q8.cell aB.2.1 (.inr (by have h1:=cU.out;omega)),q8.cell aB.2.2.1 (.inr (by have h1:=cU.out;omega)),q8.cell aB.2.2.2.1 (.inr (by have h1:=cU.out;omega)),q8.cell aB.2.2.2.2 (.inr (by have h1:=cU.out;omega))⟩ fun aB=>?_
  clear q8 hK KK;refine rd1 3 fun KK hK=>?_
  simp only[xa,xb,xc];obtain⟨c0,c1,c2,c3⟩:=flt_facts eI.out;go_simp;clear c0 c1 c2 c3;have f2:=J5 (x':=32) (y':=0) eI.out;obtain⟨Q2,hY⟩:∃ V,(Q1.setCell ⟨gv+2,0,none⟩ (Iz 32)).setCell ⟨gv+2,1,none⟩ (Iz 0)=V:=⟨_,rfl⟩
  have q9:Out (gv+2) (gv+3) Q1 Q2:=by rw[<-hY];exact(Out.refl _ _ _).set2 Lz _ _
  rw[hY] at f2 ⊢;clear hY;have iI:=Q3 f2;have oL:=Q3 (q9.heap jB.out (.inl (Nat.lt_succ_self _)));have kM:=Q3 (iH.out.then q9 (by have:=bD.out;omega));clear f2;refine hK.out _ _ ⟨q9.cell aB.1 (.inr (by have h1:=cU.out;omega)),q9.cell aB.2.1 (.inr (by have h1:=cU.out;omega)),q9.cell aB.2.2.1 (.inr (by have h1:=cU.out;omega)),q9.cell aB.2.2.2.1 (.inr (by have h1:=cU.out;omega)),q9.cell aB.2.2.2.2 (.inr (by have h1:=cU.out;omega))⟩ fun aB=>?_
  clear q9 hK KK;refine dn ?_;clear aB;go_wp2;exact bodyPost_ret (J4 Tryz.results66 rfl rfl (G0 oL.out) (J8 iI.out)) rfl ⟨rfl,kM.out⟩
 ·go_wp2_with fail;refine wp_region_held_drew (S:=fun w'=>cq w' gb 0=some (Iz b0)/\cq w' gb 1=some (Iz b1)/\cq w' gb 2=some (Iz b2)/\cq w' gb 3=some (Iz b3)/\cq w' gb 4=some (Iz b4)) (by kernel_rfl) ?hS71 (fun aB=>?rest71)
  case hS71=>exact⟨y0,y1,y2,y3,y4⟩
  obtain⟨Qz,hZ⟩:∃ Z,V4.drew=Z:=⟨_,rfl⟩
  have OQ:Out 0 0 V4 Qz:=by rw[<-hZ];exact(Out.refl 0 0 _).drew
  rw[hZ] at aB ⊢;clear hZ;have HRz:=Q3 (OQ.heap fM.out Oz);have HFz:=Q3 (OQ.heap iN.out Oz);have HOz:=Q3 (bN.out.trans OQ);clear OQ;refine tk 0 ?_;refine rd1 1 fun KK hK=>?_
  simp only[xa,xb,xc];go_simp;refine(G5 32 _).mono ?_;rintro e Q0 ⟨rfl,q1⟩;have gY:=Q3 (q1.heap HRz.out Oz);have iE:=Q3 (q1.heap HFz.out Oz);have bJ:=Q3 (HOz.out.trans q1);refine hK.out _ _ ⟨q1.cell aB.1 Oz,q1.cell aB.2.1 Oz,q1.cell aB.2.2.1 Oz,q1.cell aB.2.2.2.1 Oz,q1.cell aB.2.2.2.2 Oz⟩ fun aB=>?_
  clear q1 hK KK;refine rd1 2 fun KK hK=>?_
  simp only[xa,xb,xc];obtain⟨v0,v1,v2,v3,v4,v5⟩:=W7 gY.out;go_simp;clear v0 v1 v2 v3 v4 v5;have e1:=G6 (x1:=b0) (x2:=b1) (x3:=b2) (x4:=b3) (x5:=b4) gY.out;obtain⟨Q1,hY⟩:∃ V,(((((Q0.setCell ⟨gv+1,0,none⟩ (Iz b0)).setCell ⟨gv+1,1,none⟩ (Iz b1)).setCell ⟨gv+1,2,none⟩ (Iz b2)).setCell ⟨gv+1,3,none⟩ (Iz b3)).setCell ⟨gv+1,4,none⟩ (Iz b4))=V:=⟨_,rfl⟩
  have q8:Out (gv+1) (gv+2) Q0 Q1:=by rw[<-hY];exact(Out.refl _ _ _).set5 Lz _ _ _ _ _
  rw[hY] at e1 ⊢;clear hY;have jB:=Q3 e1;have eI:=Q3 (q8.heap iE.out (.inr (Nat.le_refl _)));have iH:=Q3 (bJ.out.then q8 (by have:=bD.out;omega));clear e1;refine hK.out _ _ ⟨q8.cell aB.1 (.inr (by have h1:=cU.out;omega)),q8.cell aB.2.1 (.inr (by have h1:=cU.out;omega)),q8.cell aB.2.2.1 (.inr (by have h1:=cU.out;omega)),q8.cell aB.2.2.2.1 (.inr (by have h1:=cU.out;omega)),q8.cell aB.2.2.2.2 (.inr (by have h1:=cU.out;omega))⟩ fun aB=>?_
  clear q8 hK KK;refine rd1 3 fun KK hK=>?_
  simp only[xa,xb,xc];obtain⟨c0,c1,c2,c3⟩:=flt_facts eI.out;go_simp;clear c0 c1 c2 c3;have f2:=J5 (x':=32) (y':=0) eI.out;obtain⟨Q2,hY⟩:∃ V,(Q1.setCell ⟨gv+2,0,none⟩ (Iz 32)).setCell ⟨gv+2,1,none⟩ (Iz 0)=V:=⟨_,rfl⟩
  have q9:Out (gv+2) (gv+3) Q1 Q2:=by rw[<-hY];exact(Out.refl _ _ _).set2 Lz _ _
  rw[hY] at f2 ⊢;clear hY;have iI:=Q3 f2;have oL:=Q3 (q9.heap jB.out (.inl (Nat.lt_succ_self _)));have kM:=Q3 (iH.out.then q9 (by have:=bD.out;omega));clear f2;refine hK.out _ _ ⟨q9.cell aB.1 (.inr (by have h1:=cU.out;omega)),q9.cell aB.2.1 (.inr (by have h1:=cU.out;omega)),q9.cell aB.2.2.1 (.inr (by have h1:=cU.out;omega)),q9.cell aB.2.2.2.1 (.inr (by have h1:=cU.out;omega)),q9.cell aB.2.2.2.2 (.inr (by have h1:=cU.out;omega))⟩ fun aB=>?_
  clear q9 hK KK;refine dn ?_;clear aB;go_wp2;exact bodyPost_ret (J4 Tryz.results66 rfl rfl (G0 oL.out) (J8 iI.out)) rfl ⟨rfl,kM.out⟩
 ·go_wp2_with fail;refine wp_region_held_drew (S:=fun w'=>cq w' gb 0=some (Iz b0)/\cq w' gb 1=some (Iz b1)/\cq w' gb 2=some (Iz b2)/\cq w' gb 3=some (Iz b3)/\cq w' gb 4=some (Iz b4)) (by kernel_rfl) ?hS76 (fun aB=>?rest76)
  case hS76=>exact⟨y0,y1,y2,y3,y4⟩
  obtain⟨Qz,hZ⟩:∃ Z,V4.drew=Z:=⟨_,rfl⟩
  have OQ:Out 0 0 V4 Qz:=by rw[<-hZ];exact(Out.refl 0 0 _).drew
  rw[hZ] at aB ⊢;clear hZ;have HRz:=Q3 (OQ.heap fM.out Oz);have HFz:=Q3 (OQ.heap iN.out Oz);have HOz:=Q3 (bN.out.trans OQ);clear OQ;refine tk 0 ?_;refine rd1 1 fun KK hK=>?_
  simp only[xa,xb,xc];go_simp;refine(G5 32 _).mono ?_;rintro e Q0 ⟨rfl,q1⟩;have gY:=Q3 (q1.heap HRz.out Oz);have iE:=Q3 (q1.heap HFz.out Oz);have bJ:=Q3 (HOz.out.trans q1);refine hK.out _ _ ⟨q1.cell aB.1 Oz,q1.cell aB.2.1 Oz,q1.cell aB.2.2.1 Oz,q1.cell aB.2.2.2.1 Oz,q1.cell aB.2.2.2.2 Oz⟩ fun aB=>?_
  clear q1 hK KK;refine rd1 2 fun KK hK=>?_
  simp only[xa,xb,xc];obtain⟨v0,v1,v2,v3,v4,v5⟩:=W7 gY.out;go_simp;clear v0 v1 v2 v3 v4 v5;have e1:=G6 (x1:=b0) (x2:=b1) (x3:=b2) (x4:=b3) (x5:=b4) gY.out;obtain⟨Q1,hY⟩:∃ V,(((((Q0.setCell ⟨gv+1,0,none⟩ (Iz b0)).setCell ⟨gv+1,1,none⟩ (Iz b1)).setCell ⟨gv+1,2,none⟩ (Iz b2)).setCell ⟨gv+1,3,none⟩ (Iz b3)).setCell ⟨gv+1,4,none⟩ (Iz b4))=V:=⟨_,rfl⟩
  have q8:Out (gv+1) (gv+2) Q0 Q1:=by rw[<-hY];exact(Out.refl _ _ _).set5 Lz _ _ _ _ _
  rw[hY] at e1 ⊢;clear hY;have jB:=Q3 e1;have eI:=Q3 (q8.heap iE.out (.inr (Nat.le_refl _)));have iH:=Q3 (bJ.out.then q8 (by have:=bD.out;omega));clear e1;refine hK.out _ _ ⟨q8.cell aB.1 (.inr (by have h1:=cU.out;omega)),q8.cell aB.2.1 (.inr (by have h1:=cU.out;omega)),q8.cell aB.2.2.1 (.inr (by have h1:=cU.out;omega)),q8.cell aB.2.2.2.1 (.inr (by have h1:=cU.out;omega)),q8.cell aB.2.2.2.2 (.inr (by have h1:=cU.out;omega))⟩ fun aB=>?_
  clear q8 hK KK;refine rd1 3 fun KK hK=>?_
  simp only[xa,xb,xc];obtain⟨c0,c1,c2,c3⟩:=flt_facts eI.out;go_simp;clear c0 c1 c2 c3;have f2:=J5 (x':=32) (y':=0) eI.out;obtain⟨Q2,hY⟩:∃ V,(Q1.setCell ⟨gv+2,0,none⟩ (Iz 32)).setCell ⟨gv+2,1,none⟩ (Iz 0)=V:=⟨_,rfl⟩
  have q9:Out (gv+2) (gv+3) Q1 Q2:=by rw[<-hY];exact(Out.refl _ _ _).set2 Lz _ _
  rw[hY] at f2 ⊢;clear hY;have iI:=Q3 f2;have oL:=Q3 (q9.heap jB.out (.inl (Nat.lt_succ_self _)));have kM:=Q3 (iH.out.then q9 (by have:=bD.out;omega));clear f2;refine hK.out _ _ ⟨q9.cell aB.1 (.inr (by have h1:=cU.out;omega)),q9.cell aB.2.1 (.inr (by have h1:=cU.out;omega)),q9.cell aB.2.2.1 (.inr (by have h1:=cU.out;omega)),q9.cell aB.2.2.2.1 (.inr (by have h1:=cU.out;omega)),q9.cell aB.2.2.2.2 (.inr (by have h1:=cU.out;omega))⟩ fun aB=>?_
  clear q9 hK KK;refine dn ?_;clear aB;go_wp2;exact bodyPost_ret (J4 Tryz.results66 rfl rfl (G0 oL.out) (J8 iI.out)) rfl ⟨rfl,kM.out⟩
theorem j9p (hR:cq w rb 0=some (Pq (s 0))) (k m i:Int) (raw:Bool) {b0 b1 b2 b3 b4 a0:Int} (hOp:∀ X,Out 0 0 w X->Kz 72 #[Pq rb,Vz k m] X fun e w'=>e=.returned (.tuple #[Wz b0 b1 b2 b3 b4,Vz 0 a0])/\Out 0 0 X w') {aN:Int} (hs1:-9223372036854775808<=b2) (gU:b2<=9223372036854775807) (bE:J9 b1 b2 i=aN) (lE:(aN == 0)=false) (hgood:(raw=true/\(aN == 1)=true)\/(raw=false/\(aN == 1)=false)):Kz 66 #[Pq rb,Vz k m,Iz i,.bool raw] w fun e w'=>e=.returned (.tuple #[Wz b0 b1 b2 b3 b4,Vz 0 a0])/\Out 0 0 w w':=by
 have Hs:=Q3 (And.intro hs1 gU);have dQ:=Q3 bE;clear hs1 gU bE;have fV:=Q3 (V5 (w:=w) (o:=Dz k m 32) (o2:=Ez 0 0 0 0 0 81) (o3:=Dz 0 0 46));have fR:=Q3 (X0 (w:=w) (o:=Dz k m 32) (o2:=Ez 0 0 0 0 0 81) (o3:=Dz 0 0 46));have fF:=Q3 (K4 (w:=w) (o:=Dz k m 32) (o2:=Ez 0 0 0 0 0 81) (o3:=Dz 0 0 46));have aI:=Q3 ((((Out.refl 0 0 w).alloc (Dz k m 32)).alloc (Ez 0 0 0 0 0 81)).alloc (Dz 0 0 46));have mO:=Q3 hOp;obtain⟨gv,aR⟩:∃ g,w.heap.size=g:=⟨_,rfl⟩
 have bD:=Q3 aR;obtain⟨V2,aS⟩:∃ V,((w.alloc (Dz k m 32)).alloc (Ez 0 0 0 0 0 81)).alloc (Dz 0 0 46)=V:=⟨_,rfl⟩
 rw[aS,aR] at fV fR fF;rw[aS] at aI;obtain⟨u0,u1,u2,u3⟩:=Q5 fV.out;clear hOp hR;go_enter Tryz.func66,Tryz.ntmps66
 go_wp2_with fail;(try rw[aS]);(try rw[aR]);clear aS aR;refine(mO.out _ aI.out).mono ?_;rintro e X3 ⟨rfl,q3⟩;clear u0 u1 u2 u3;have eS:=J3 (w:=X3) (o:=Ez b0 b1 b2 b3 b4 81) (o2:=Dz 0 a0 46);have gJ:=J7 (w:=X3) (o:=Ez b0 b1 b2 b3 b4 81) (o2:=Dz 0 a0 46);have o4:=(q3.alloc (Ez b0 b1 b2 b3 b4 81)).alloc (Dz 0 a0 46);obtain⟨y0,y1,y2,y3,y4,y5⟩:=W7 eS;obtain⟨z0,z1,z2,z3⟩:=flt_facts gJ;have cV:=Q3 (And.intro eS (And.intro gJ o4));have bU:Hid (gv+3<=X3.heap.size):=by have h1:=Q8 fF.out;have h2:=q3.size;exact Nat.le_trans h1 h2
 clear eS gJ o4 q3;go_wp2_with fail;obtain⟨V3,cG⟩:∃ V,(X3.alloc (Ez b0 b1 b2 b3 b4 81)).alloc (Dz 0 a0 46)=V:=⟨_,rfl⟩
 obtain⟨gb,bG⟩:∃ g,X3.heap.size=g:=⟨_,rfl⟩
 rw[cG] at cV y0 y1 y2 y3 y4 z0 z1 ⊢;rw[bG] at cV y0 y1 y2 y3 y4 z0 z1 bU;(try rw[bG]);clear cG bG y0 y1 y2 y3 y4 y5 z0 z1 z2 z3;have cU:=Q3 bU.out;refine(B6 b1 b2 i _ Hs.out.1 Hs.out.2).mono ?_;rintro e V4 ⟨rfl,q5⟩;have bN:=Q3 ((aI.out.trans cV.out.2.2).trans q5);have fM:=Q3 ((cV.out.2.2.trans q5).heap fR.out Oz);have iN:=Q3 ((cV.out.2.2.trans q5).heap fF.out Oz);obtain⟨y0,y1,y2,y3,y4,_⟩:=W7 (q5.heap cV.out.1 Oz);obtain⟨z0,z1,_,_⟩:=flt_facts (q5.heap cV.out.2.1 Oz);rw[dQ.out];clear q5 cV;rcases hgood with ⟨rfl,kD⟩ | ⟨rfl,kD⟩
 ·go_wp2_with fail;refine wp_region_held_drew (S:=fun w'=>cq w' gb 0=some (Iz b0)/\cq w' gb 1=some (Iz b1)/\cq w' gb 2=some (Iz b2)/\cq w' gb 3=some (Iz b3)/\cq w' gb 4=some (Iz b4)/\cq w' (gb+1) 0=some (Iz 0)/\cq w' (gb+1) 1=some (Iz a0)) (by kernel_rfl) ?hS81 (fun aB=>?rest81)
  case hS81=>exact⟨y0,y1,y2,y3,y4,z0,z1⟩
  obtain⟨Q0,hZ⟩:∃ Z,V4.drew=Z:=⟨_,rfl⟩
  have OQ:Out 0 0 V4 Q0:=by rw[<-hZ];exact(Out.refl 0 0 _).drew
  rw[hZ] at aB ⊢;clear hZ;have gY:=Q3 (OQ.heap fM.out Oz);have iE:=Q3 (OQ.heap iN.out Oz);have bJ:=Q3 (bN.out.trans OQ);clear OQ;refine tk 0 ?_;refine tk 1 ?_;refine rd1 2 fun KK hK=>?_
  simp only[xa,xb,xc];obtain⟨v0,v1,v2,v3,v4,v5⟩:=W7 gY.out;go_simp;clear v0 v1 v2 v3 v4 v5;have e1:=G6 (x1:=b0) (x2:=b1) (x3:=b2) (x4:=b3) (x5:=b4) gY.out;obtain⟨Q1,hY⟩:∃ V,(((((Q0.setCell ⟨gv+1,0,none⟩ (Iz b0)).setCell ⟨gv+1,1,none⟩ (Iz b1)).setCell ⟨gv+1,2,none⟩ (Iz b2)).setCell ⟨gv+1,3,none⟩ (Iz b3)).setCell ⟨gv+1,4,none⟩ (Iz b4))=V:=⟨_,rfl⟩
  have q8:Out (gv+1) (gv+2) Q0 Q1:=by rw[<-hY];exact(Out.refl _ _ _).set5 Lz _ _ _ _ _
  rw[hY] at e1 ⊢;clear hY;have jB:=Q3 e1;have eI:=Q3 (q8.heap iE.out (.inr (Nat.le_refl _)));have iH:=Q3 (bJ.out.then q8 (by have:=bD.out;omega));clear e1;refine hK.out _ _ ⟨q8.cell aB.1 (.inr (by have h1:=cU.out;omega)),q8.cell aB.2.1 (.inr (by have h1:=cU.out;omega)),q8.cell aB.2.2.1 (.inr (by have h1:=cU.out;omega)),q8.cell aB.2.2.2.1 (.inr (by have h1:=cU.out;omega)),q8.cell aB.2.2.2.2.1 (.inr (by have h1:=cU.out;omega)),q8.cell aB.2.2.2.2.2.1 (.inr (by have h1:=cU.out;omega)),q8.cell aB.2.2.2.2.2.2 (.inr (by have h1:=cU.out;omega))⟩ fun aB=>?_
  clear q8 hK KK;refine rd1 3 fun KK hK=>?_
  simp only[xa,xb,xc];obtain⟨c0,c1,c2,c3⟩:=flt_facts eI.out;go_simp;clear c0 c1 c2 c3;have f2:=J5 (x':=0) (y':=a0) eI.out;obtain⟨Q2,hY⟩:∃ V,(Q1.setCell ⟨gv+2,0,none⟩ (Iz 0)).setCell ⟨gv+2,1,none⟩ (Iz a0)=V:=⟨_,rfl⟩
  have q9:Out (gv+2) (gv+3) Q1 Q2:=by rw[<-hY];exact(Out.refl _ _ _).set2 Lz _ _
  rw[hY] at f2 ⊢;clear hY;have iI:=Q3 f2;have oL:=Q3 (q9.heap jB.out (.inl (Nat.lt_succ_self _)));have kM:=Q3 (iH.out.then q9 (by have:=bD.out;omega));clear f2;refine hK.out _ _ ⟨q9.cell aB.1 (.inr (by have h1:=cU.out;omega)),q9.cell aB.2.1 (.inr (by have h1:=cU.out;omega)),q9.cell aB.2.2.1 (.inr (by have h1:=cU.out;omega)),q9.cell aB.2.2.2.1 (.inr (by have h1:=cU.out;omega)),q9.cell aB.2.2.2.2.1 (.inr (by have h1:=cU.out;omega)),q9.cell aB.2.2.2.2.2.1 (.inr (by have h1:=cU.out;omega)),q9.cell aB.2.2.2.2.2.2 (.inr (by have h1:=cU.out;omega))⟩ fun aB=>?_
  clear q9 hK KK;refine dn ?_;clear aB;go_wp2;exact bodyPost_ret (J4 Tryz.results66 rfl rfl (G0 oL.out) (J8 iI.out)) rfl ⟨rfl,kM.out⟩
 ·go_wp2_with fail;refine wp_region_held_drew (S:=fun w'=>cq w' gb 0=some (Iz b0)/\cq w' gb 1=some (Iz b1)/\cq w' gb 2=some (Iz b2)/\cq w' gb 3=some (Iz b3)/\cq w' gb 4=some (Iz b4)/\cq w' (gb+1) 0=some (Iz 0)/\cq w' (gb+1) 1=some (Iz a0)) (by kernel_rfl) ?hS86 (fun aB=>?rest86)
  case hS86=>exact⟨y0,y1,y2,y3,y4,z0,z1⟩
  obtain⟨Q0,hZ⟩:∃ Z,V4.drew=Z:=⟨_,rfl⟩
  have OQ:Out 0 0 V4 Q0:=by rw[<-hZ];exact(Out.refl 0 0 _).drew
  rw[hZ] at aB ⊢;clear hZ;have gY:=Q3 (OQ.heap fM.out Oz);have iE:=Q3 (OQ.heap iN.out Oz);have bJ:=Q3 (bN.out.trans OQ);clear OQ;refine tk 0 ?_;refine tk 1 ?_;refine rd1 2 fun KK hK=>?_
  simp only[xa,xb,xc];obtain⟨v0,v1,v2,v3,v4,v5⟩:=W7 gY.out;go_simp;clear v0 v1 v2 v3 v4 v5;have e1:=G6 (x1:=b0) (x2:=b1) (x3:=b2) (x4:=b3) (x5:=b4) gY.out;obtain⟨Q1,hY⟩:∃ V,(((((Q0.setCell ⟨gv+1,0,none⟩ (Iz b0)).setCell ⟨gv+1,1,none⟩ (Iz b1)).setCell ⟨gv+1,2,none⟩ (Iz b2)).setCell ⟨gv+1,3,none⟩ (Iz b3)).setCell ⟨gv+1,4,none⟩ (Iz b4))=V:=⟨_,rfl⟩
  have q8:Out (gv+1) (gv+2) Q0 Q1:=by rw[<-hY];exact(Out.refl _ _ _).set5 Lz _ _ _ _ _
  rw[hY] at e1 ⊢;clear hY;have jB:=Q3 e1;have eI:=Q3 (q8.heap iE.out (.inr (Nat.le_refl _)));have iH:=Q3 (bJ.out.then q8 (by have:=bD.out;omega));clear e1;refine hK.out _ _ ⟨q8.cell aB.1 (.inr (by have h1:=cU.out;omega)),q8.cell aB.2.1 (.inr (by have h1:=cU.out;omega)),q8.cell aB.2.2.1 (.inr (by have h1:=cU.out;omega)),q8.cell aB.2.2.2.1 (.inr (by have h1:=cU.out;omega)),q8.cell aB.2.2.2.2.1 (.inr (by have h1:=cU.out;omega)),q8.cell aB.2.2.2.2.2.1 (.inr (by have h1:=cU.out;omega)),q8.cell aB.2.2.2.2.2.2 (.inr (by have h1:=cU.out;omega))⟩ fun aB=>?_
  clear q8 hK KK;refine rd1 3 fun KK hK=>?_
  simp only[xa,xb,xc];obtain⟨c0,c1,c2,c3⟩:=flt_facts eI.out;go_simp;clear c0 c1 c2 c3;have f2:=J5 (x':=0) (y':=a0) eI.out;obtain⟨Q2,hY⟩:∃ V,(Q1.setCell ⟨gv+2,0,none⟩ (Iz 0)).setCell ⟨gv+2,1,none⟩ (Iz a0)=V:=⟨_,rfl⟩
  have q9:Out (gv+2) (gv+3) Q1 Q2:=by rw[<-hY];exact(Out.refl _ _ _).set2 Lz _ _
  rw[hY] at f2 ⊢;clear hY;have iI:=Q3 f2;have oL:=Q3 (q9.heap jB.out (.inl (Nat.lt_succ_self _)));have kM:=Q3 (iH.out.then q9 (by have:=bD.out;omega));clear f2;refine hK.out _ _ ⟨q9.cell aB.1 (.inr (by have h1:=cU.out;omega)),q9.cell aB.2.1 (.inr (by have h1:=cU.out;omega)),q9.cell aB.2.2.1 (.inr (by have h1:=cU.out;omega)),q9.cell aB.2.2.2.1 (.inr (by have h1:=cU.out;omega)),q9.cell aB.2.2.2.2.1 (.inr (by have h1:=cU.out;omega)),q9.cell aB.2.2.2.2.2.1 (.inr (by have h1:=cU.out;omega)),q9.cell aB.2.2.2.2.2.2 (.inr (by have h1:=cU.out;omega))⟩ fun aB=>?_
  clear q9 hK KK;refine dn ?_;clear aB;go_wp2;exact bodyPost_ret (J4 Tryz.results66 rfl rfl (G0 oL.out) (J8 iI.out)) rfl ⟨rfl,kM.out⟩
end
section
variable {w:World} {lo hi rb cw co n:Nat} {s:Nat->Nat} {st:Sp}
theorem z5y (k m i x:Int) {b0 b1 b2 b3 b4 e0 a0:Int} (hWd:∀ X,Out 0 0 w X->Kz 66 #[Pq rb,Vz k m,Iz i,.bool true] X fun e w'=>e=.returned (.tuple #[Wz b0 b1 b2 b3 b4,Vz e0 a0])/\Out 0 0 X w') (he:e0 ≠ 0):Kz 27 #[Pq rb,Vz k m,Iz i,Iz x] w fun e w'=>e=.returned (Vz e0 a0)/\Out 0 0 w w':=by
 have qR:(e0 == 0)=false:=by simpa using he
 clear he;have fV:=Q3 (J3 (w:=w) (o:=Dz k m 32) (o2:=Dz 0 0 46));have fF:=Q3 (J7 (w:=w) (o:=Dz k m 32) (o2:=Dz 0 0 46));have aI:=Q3 (((Out.refl 0 0 w).alloc (Dz k m 32)).alloc (Dz 0 0 46));have iD:=Q3 hWd;obtain⟨gv,aR⟩:∃ g,w.heap.size=g:=⟨_,rfl⟩
 have bD:=Q3 aR;obtain⟨V2,aS⟩:∃ V,(w.alloc (Dz k m 32)).alloc (Dz 0 0 46)=V:=⟨_,rfl⟩
 rw[aS,aR] at fV fF;rw[aS] at aI;obtain⟨u0,u1,u2,u3⟩:=Q5 fV.out;clear hWd;go_enter Tryz.func27,Tryz.ntmps27
 go_wp2_with fail;(try rw[aS]);(try rw[aR]);clear aS aR;refine(iD.out _ aI.out).mono ?_;rintro e X3 ⟨rfl,q3⟩;clear u0 u1 u2 u3;have eS:=J3 (w:=X3) (o:=Ez b0 b1 b2 b3 b4 81) (o2:=Dz e0 a0 46);have gJ:=J7 (w:=X3) (o:=Ez b0 b1 b2 b3 b4 81) (o2:=Dz e0 a0 46);have o4:=(q3.alloc (Ez b0 b1 b2 b3 b4 81)).alloc (Dz e0 a0 46);have kH:=o4.heap fF.out Oz;obtain⟨y0,y1,y2,y3,y4,y5⟩:=W7 eS;obtain⟨z0,z1,z2,z3⟩:=flt_facts gJ;have cV:=Q3 (And.intro eS (And.intro gJ (And.intro o4 kH)));have bU:Hid (gv+2<=X3.heap.size):=by have h1:=Q8 fF.out;have h2:=q3.size;exact Nat.le_trans h1 h2
 clear eS gJ o4 q3;obtain⟨c0,c1,c2,c3⟩:=flt_facts kH;have f2:=J5 (x':=e0) (y':=a0) kH;have o2:=(Out.refl (gv+1) (gv+2) ((X3.alloc (Ez b0 b1 b2 b3 b4 81)).alloc (Dz e0 a0 46))).set2 (b:=gv+1) (o:=0) (o':=1) Lz (Iz e0) (Iz a0);have HE:=Q3 (And.intro f2 ((aI.out.trans cV.out.2.2.1).then o2 (by have:=bD.out;omega)));clear f2 o2 kH;go_wp2;exact bodyPost_ret (W6 Tryz.results27 rfl (J8 HE.out.1)) rfl ⟨rfl,HE.out.2⟩
theorem j2b (h:RfAt w lo hi s n cw co st) (hR:cq w rb 0=some (Pq (s 0))) (hro:rb<lo\/hi<=rb) (k m i x:Int) {b0 b1 b2 b3 b4 a0:Int} (hWd:∀ X,Out 0 0 w X->Kz 66 #[Pq rb,Vz k m,Iz i,.bool true] X fun e w'=>e=.returned (.tuple #[Wz b0 b1 b2 b3 b4,Vz 0 a0])/\Out 0 0 X w') {a:Nat} (oP:b0+i=(a:Int)) (ha:a<64*n):Kz 27 #[Pq rb,Vz k m,Iz i,Iz x] w fun e w'=>e=.returned (Vz 0 a0)/\RfAt w' lo hi s n cw co { st with W:=z3a st.W a x }/\Out lo hi w w':=by
 have Hh:=Q3 h;have HR:=Q3 (And.intro hR hro);have mD:IntKind.i64.wrap (a:Int)=(a:Int):=by rw[IntKind.wrap_i64];have:=Hh.out.n2;omega
 have Ha:=Q3 ha;obtain⟨M,hM⟩:∃ M,64*n=M:=⟨_,rfl⟩
 have a1:(a:Int)<(M:Int):=by omega
 have a0':(0:Int)<=(a:Int):=by omega
 have HMn:=Q3 hM;clear h hR hro ha hM;have fV:=Q3 (J3 (w:=w) (o:=Dz k m 32) (o2:=Dz 0 0 46));have fF:=Q3 (J7 (w:=w) (o:=Dz k m 32) (o2:=Dz 0 0 46));have aI:=Q3 (((Out.refl 0 0 w).alloc (Dz k m 32)).alloc (Dz 0 0 46));have iD:=Q3 hWd;obtain⟨gv,aR⟩:∃ g,w.heap.size=g:=⟨_,rfl⟩
 have bD:=Q3 aR;obtain⟨V2,aS⟩:∃ V,(w.alloc (Dz k m 32)).alloc (Dz 0 0 46)=V:=⟨_,rfl⟩
 rw[aS,aR] at fV fF;rw[aS] at aI;obtain⟨u0,u1,u2,u3⟩:=Q5 fV.out;clear hWd;go_enter Tryz.func27,Tryz.ntmps27
 go_wp2_with fail;(try rw[aS]);(try rw[aR]);clear aS aR;refine(iD.out _ aI.out).mono ?_;rintro e X3 ⟨rfl,q3⟩;clear u0 u1 u2 u3;have eS:=J3 (w:=X3) (o:=Ez b0 b1 b2 b3 b4 81) (o2:=Dz 0 a0 46);have gJ:=J7 (w:=X3) (o:=Ez b0 b1 b2 b3 b4 81) (o2:=Dz 0 a0 46);have o4:=(q3.alloc (Ez b0 b1 b2 b3 b4 81)).alloc (Dz 0 a0 46);have kH:=o4.heap fF.out Oz;obtain⟨y0,y1,y2,y3,y4,y5⟩:=W7 eS;obtain⟨z0,z1,z2,z3⟩:=flt_facts gJ;have cV:=Q3 (And.intro eS (And.intro gJ (And.intro o4 kH)));have bU:Hid (gv+2<=X3.heap.size):=by have h1:=Q8 fF.out;have h2:=q3.size;exact Nat.le_trans h1 h2
 clear eS gJ o4 q3;obtain⟨V4,cG⟩:∃ V,(X3.alloc (Ez b0 b1 b2 b3 b4 81)).alloc (Dz 0 a0 46)=V:=⟨_,rfl⟩
 obtain⟨gb,bG⟩:∃ g,X3.heap.size=g:=⟨_,rfl⟩
 rw[cG,bG] at cV y0 z0 z1;rw[bG] at bU;rw[cG] at kH;have fM:=Q3 (Hh.out.quiet (aI.out.trans cV.out.2.2.1));have c1:=fM.out.cells.1;rw[HMn.out] at c1;have c2:=(aI.out.trans cV.out.2.2.1).cell HR.out.1 Oz;clear y1 y2 y3 y4 y5 z1 z2 z3 kH;go_wp2_with fail;(try rw[cG]);(try rw[bG]);clear cG bG z0;refine wp_region_held_drew (S:=fun w'=>cq w' rb 0=some (Pq (s 0))/\cq w' (s 0) 0=some (.slice (some ⟨s 1,0,none⟩) M cw)/\cq w' gb 0=some (Iz b0)) (by kernel_rfl) ?hS61 (fun aB=>?rest61)
 case hS61=>exact⟨c2,c1,y0⟩
 obtain⟨Q0,hZ⟩:∃ Z,V4.drew=Z:=⟨_,rfl⟩
 have OQ:Out 0 0 V4 Q0:=by rw[<-hZ];exact(Out.refl 0 0 _).drew
 rw[hZ] at aB ⊢;clear hZ;refine tk 0 ?_;refine tk 1 ?_;refine tk 2 ?_;refine tk 3 ?_;refine tk 4 ?_;refine tk 5 ?_;refine tk 6 ?_;refine tk 7 ?_;refine tk 8 ?_;refine tk 9 ?_;refine tk 10 ?_;refine tk 11 ?_;refine tk 12 ?_;refine rd1 13 fun KK hK=>?_
 simp only[xa,xb,xc];have hrf:=fM.out.quiet OQ;have c5:=hrf.rw.cell (i:=a) Ha.out;have c6:=hrf.rw.frozen a;go_simp;clear c5 c6;obtain⟨hS1,o8⟩:=hrf.setW Ha.out x;obtain⟨Q1,hY⟩:∃ V,Q0.setCell ⟨s 1,a,none⟩ (Iz x)=V:=⟨_,rfl⟩
 rw[hY] at hS1 o8 ⊢;clear hY hrf;have mG:=Q3 hS1;have hgbh:hi<=gv:=by have h1:=Hh.out.top;have h2:=bD.out;omega
 have HFe:=Q3 (o8.heap (OQ.heap cV.out.2.1 Oz) (.inr (by have:=bU.out;omega)));have HFr:=Q3 (o8.heap (OQ.heap cV.out.2.2.2 Oz) (.inr (by omega)));have iH:=Q3 ((((aI.out.trans cV.out.2.2.1).trans OQ).any lo hi).trans o8);have c9:=hS1.cells.1;rw[HMn.out] at c9;clear hS1;refine hK.out _ _ ⟨o8.cell aB.1 HR.out.2,c9,o8.cell aB.2.2 (.inr (by have:=bU.out;omega))⟩ fun aB=>?_
 clear o8 c9 hK KK;refine dn ?_;clear aB OQ;have f2:=J5 (x':=0) (y':=a0) HFr.out;have o2:=(Out.refl (gv+1) (gv+2) Q1).set2 (b:=gv+1) (o:=0) (o':=1) Lz (Iz 0) (Iz a0);obtain⟨z0,z1,z2,z3⟩:=flt_facts HFe.out;obtain⟨v0,v1,v2,v3⟩:=flt_facts HFr.out;have HE:=Q3 (And.intro f2 (And.intro (mG.out.kept o2 (.inl (by omega))) (iH.out.then o2 (by have:=bD.out;omega))));clear f2 o2;go_wp2;exact bodyPost_ret (W6 Tryz.results27 rfl (J8 HE.out.1)) rfl ⟨rfl,HE.out.2.1,HE.out.2.2⟩
end
section
variable {w:World} {lo hi n cap:Nat} {s:Nat->Nat} {r:Raw}
def wrW (r:Raw) (a i v:Int):Nat->Int:=if q4b r a i=0 then z3a r.W (a+i).toNat v else r.W
theorem wrd0 {r:Raw} {n:Nat} {a i:Int} (hM:U6 n r) (h:q4b r a i=0):z5m r a=0/\∃ j:Nat,a+i=j/\j<64*n/\0<=a/\1<=i:=by
 unfold q4b at h;unfold z5m;cases hm:r.M a with
 | none=>rw[hm] at h;simp at h
 | some b=>
  rw[hm] at h;simp only at h ⊢;obtain⟨m1,m2,m3,m4⟩:=hM a b hm;by_cases hv:r.W a.toNat=F0 a b.1 b.2.1
  ·rw[if_pos hv] at h ⊢;by_cases hi:i<1\/b.2.1<=i
   ·rw[if_pos hi] at h;omega
   ·exact⟨rfl,(a+i).toNat,by omega,by omega,m1,by omega⟩
  ·rw[if_neg hv] at h;omega
theorem j8k (h:RawAt w lo hi s n cap r) (hM:U6 n r) (a i v:Int):Kz 83 #[Pq (s 14),Iz a,Iz i,Iz v] w fun e w'=>e=.returned (z7t (q4b r a i) (z5m r a))/\RawAt w' lo hi s n cap { r with W:=wrW r a i v }/\Out lo hi w w':=by
 have h0:Out 0 0 w (w.alloc (Dz 0 0 46)):=(Out.refl 0 0 w).alloc _;have hz:(w.alloc (Dz 0 0 46)).heap[w.heap.size]? = some (Dz 0 0 46):=heap_alloc_new _ _;have HZ:=Q3 hz;have H0:=Q3 h0;have HR:=Q3 (fun w' (o:Out 0 0 w w')=>h.quiet o);have HT:Hid (hi<=w.heap.size):=h.top;have HC:=Q3 (q2l (h.quiet h0) hM a i);unfold z7t at HC;by_cases hc:q4b r a i=0
 ·obtain⟨e2,j,hj,j1,j2,j3⟩:=wrd0 hM hc;have e3:wrW r a i v=z3a r.W (a+i).toNat v:=by unfold wrW;rw[if_pos hc]
  rw[hc,e2] at HC;rw[hc,e2,e3];have hn:=h.n2;have b1:(0:Int)<=a+i:=by omega
  have b2:a+i<((64*n:Nat):Int):=by omega
  have b3:((64*n:Nat):Int)<=262144:=by omega
  have J1:Hid ((a+i).toNat<64*n):=by show _<_;omega
  have NG:Hid (4<=w.heap.size):=h.tab.lt;have h11:s 11<w.heap.size:=by have:=(h.inn 11 (by omega)).2;have:=h.top;simp[ln] at *;omega
  generalize hm:64*n=m at *
  clear h hM h0 hz hc e2 e3 hj j1 hn;go_enter Tryz.func83,Tryz.ntmps83
  go_wp2_with (first
   | (go_at_call 144;refine HC.out.mono ?_;rintro e w1 ⟨rfl,ho⟩;obtain⟨q4,q5,q6,q7⟩:=flt_facts ((ho.alloc (Dz 0 0 46)).heap HZ.out z0);obtain⟨q0,q1,q2,q3⟩:=flt_facts (heap_alloc_new w1 (Dz 0 0 46));have HO:=Q3 (ho.alloc (Dz 0 0 46));obtain⟨c0,c1,c2,c3,c4,c5⟩:=(HR.out _ (H0.out.trans HO.out)).cells;have eE:=(HR.out _ (H0.out.trans HO.out)).words.cell (i:=(a+i).toNat) (by rw[hm];exact J1.out);have hfz:=(HR.out _ (H0.out.trans HO.out)).words.frozen (a+i).toNat;have n1:s 11 ≠ w1.heap.size:=(by have:=(H0.out.trans ho).size;omega);have n2:s 11 ≠ w.heap.size:=(by omega);have n3:w1.heap.size ≠ s 11:=(Ne.symm n1);have n4:w.heap.size ≠ s 11:=(Ne.symm n2);rw[hm] at c0;clear ho))
  have HP:=Q3 ((HR.out _ (H0.out.trans HO.out)).poke (a+i).toNat v);have HW:=Q3 ((HR.out _ (H0.out.trans HO.out)).wide (i:=11) (by omega) HP.out.2);have eR:s 11+1<=w.heap.size:=h11;refine z4x Tryz.results83 rfl rfl (J5 (HP.out.2.heap (HO.out.heap HZ.out z0) (by omega))) ⟨rfl,HP.out.1.kept ((Out.refl w.heap.size (w.heap.size+1) _).set2 z1 _ _) (.inl HT.out) (.inl NG.out),(((H0.out.trans HO.out).any lo hi).trans HW.out).set2 (.inr (Nat.le_refl _)) _ _⟩
 ·have e3:wrW r a i v=r.W:=by unfold wrW;rw[if_neg hc]
  rw[e3];have e4:(q4b r a i == 0)=false:=by simpa using hc
  generalize q4b r a i=u at *
  generalize z5m r a=y at *
  clear h hM h0 hz hc;go_enter Tryz.func83,Tryz.ntmps83
  go_wp2_with (first
   | (go_at_call 144;refine HC.out.mono ?_;rintro e w1 ⟨rfl,ho⟩;obtain⟨q4,q5,q6,q7⟩:=flt_facts ((ho.alloc (Dz u y 46)).heap HZ.out z0);obtain⟨q0,q1,q2,q3⟩:=flt_facts (heap_alloc_new w1 (Dz u y 46));have HO:=Q3 (ho.alloc (Dz u y 46));clear ho))
  refine z4x Tryz.results83 rfl rfl (J5 (HO.out.heap HZ.out z0)) ⟨rfl,(HR.out _ ((H0.out.trans HO.out).set2 (.inr (Nat.le_refl _)) _ _)),((H0.out.trans HO.out).set2 (.inr (Nat.le_refl _)) _ _).any _ _⟩
end
theorem x6r {n:Nat} {st:Sp} {l:List Int} (a:Nat):(z0r n st l).O a=if kpS l a then st.O a else noB:=by
 obtain⟨p1,p2,p3⟩:=z8n n (q7y n st (kpS l)) 8;exact congrFun p2 a
theorem z8m {n:Nat} {st:Sp} {l:List Int} (a:Nat):Y9 ((z0r n st l).O a)=(Y9 (st.O a) && kpS l a):=by
 rw[x6r];cases kpS l a with
 | true=>simp
 | false=>simp[j5p]
theorem j5s {n:Nat} {st:Sp} {l:List Int} (hi:Inv n st) (i:Nat):j2l (K8 n (J0 n st) (kpS l) (64*n)) i=true ↔ ∃ a,Y9 ((z0r n st l).O a)=true/\a<=i/\i<a+U1 (st.O a).2.1:=by
 unfold j2l;rw[List.any_eq_true];have hP:∀ a,(K8 n (J0 n st) (kpS l) (64*n)).P a=(ob n st a && !(decide (a<64*n) && !kpS l a)):=fun a=>(H8 (n:=n) (r:=J0 n st) (kp:=kpS l) (z1f st) (64*n) a).1
 have hM:∀ a,(K8 n (J0 n st) (kpS l) (64*n)).P a=true->(K8 n (J0 n st) (kpS l) (64*n)).M (a:Int)=obM st (a:Int):=fun a h=>(H8 (n:=n) (r:=J0 n st) (kp:=kpS l) (z1f st) (64*n) a).2.1 (.inl h)
 have key:∀ a,(K8 n (J0 n st) (kpS l) (64*n)).P a=Y9 ((z0r n st l).O a):=fun a=>by
  rw[hP,z8m,q5i hi];cases e:Y9 (st.O a) with
  | false=>rfl
  | true=>rw[show decide (a<64*n)=true from by simpa using (hi.objs a e).1];simp
 have hMM:∀ a,Y9 ((z0r n st l).O a)=true->(K8 n (J0 n st) (kpS l) (64*n)).M (a:Int)=some (st.O a):=fun a h=>by
  rw[hM a (by rw[key];exact h)];rw[z8m,Bool.and_eq_true] at h;unfold obM;rw[show ((a:Int)).toNat=a from by omega,if_pos ⟨by omega,h.1⟩]
 constructor
 ·rintro⟨a,ha,hb⟩;rw[key,Bool.and_eq_true] at hb;rw[hMM a hb.1] at hb;exact⟨a,hb.1,by simp at ha;omega,by simpa using hb.2⟩
 ·rintro⟨a,ha,h1,h2⟩;refine⟨a,by simp;omega,?_⟩;rw[key,ha,hMM a ha];simpa using h2
theorem q6e {n:Nat} {st:Sp} (hi:Inv n st) {a:Nat} (ha:Y9 (st.O a)=true):(st.O a).2.1<=(U1 (st.O a).2.1:Int)/\a+U1 (st.O a).2.1<=64*n:=by
 obtain⟨h1,h2,h3⟩:=hi.objs a ha;have hz:=U7 h2;have hP:(J0 n st).P a=true:=by show ob n st a=true;rw[q5i hi];exact ha
 obtain⟨b,hb⟩:=z1f st a hP;obtain⟨rfl,_⟩:=z5k hb;refine⟨?_,(z6o hi a _ hP hb).2.2.1⟩;by_cases h:(st.O a).2.1<=32
 ·rw[q1v h];have hc:=z0b hz.2.2.1 h;unfold wN;have:0<=Y5 (ofV (st.O a).2.1):=by omega
  omega
 ·rw[q1u (by omega)];have:=q5w (s:=(st.O a).2.1) (by omega) hz.2.2.2;omega
end Go.Proofs.YtjgnogflgoihfaaGreatDoor
namespace Go.Proofs.YtjgnogflgoihfaaGreatDoor
open Go.RowKit
attribute [local go_sem] Oper.semAt_some
set_option linter.unusedVariables false
set_option maxRecDepth 100000
set_option maxHeartbeats 16000000
set_option linter.unusedSimpArgs false
theorem q8z {lo hi n cap g l:Nat} {s:Nat->Nat} (I:Nat->World->Prop) (J Jx:World->Prop) {w:World}
  (hm:∀ p w,I p w->p<=64*n/\∃ r,RawAt w lo hi s n cap r/\q2e r/\Box w g 76 (.pointer (some ⟨s 14,0,none⟩)))
  (hq:∀ p w1 w2 x y,I p w1->Out x y w1 w2->((w.heap.size<=x/\y<=w.heap.size+4)\/y=0)->I p w2)
  (hqJ:∀ w1 w2 x y,J w1->Out x y w1 w2->w.heap.size<=x/\y<=w.heap.size+4->J w2) (hqX:∀ w1 w2 x y,Jx w1->Out x y w1 w2->w.heap.size<=x/\y<=w.heap.size+4->Jx w2)
  (hy:∀ p w1 r (k:Nat) b,I p w1->RawAt w1 lo hi s n cap r->nxr r.P (64*n) p=k->r.M (k:Int)=some b->w.heap.size+4<=w1.heap.size->YieldAt Fence.wide 0 Tryz.prog l #[j1q k b] w1 fun e w'=>Sv w.heap.size 4 w1 w'/\((e=.returned (.bool true)/\I (k+1) w')\/(e=.returned (.bool false)/\Jx w')))
  (he:∀ p w1 r,I p w1->RawAt w1 lo hi s n cap r->nxr r.P (64*n) p = -1->J w1) (h0:I 0 w) :
  Calls Tryz.prog 184 #[.func (.yield l) #[] #[],.pointer (some ⟨g,0,none⟩)] w fun e w'=>(∃ v,e=.returned v)/\(J w'\/Jx w'):=by
 obtain⟨_,r0,lE,_,iG⟩:=hm 0 w h0;have kY:Out 0 0 w (w.alloc (.cells #[.func (.yield l) #[] #[]] 203)):=(Out.refl 0 0 w).alloc _;have kD:=lE.quiet kY;have c0:=(iG.kept kY z0).cell;obtain⟨d0,d1,d2,d3,d4,d5⟩:=kD.cells;have HM:=Q3 hm;have HQ:=Q3 hq;have HQJ:=Q3 hqJ;have HQX:=Q3 hqX;have HY:=Q3 hy;have HE:=Q3 he;have HI:=Q3 h0;have HG:Hid (g<w.heap.size):=iG.lt;have HT:Hid (hi<=w.heap.size/\4<=w.heap.size):=⟨lE.top,lE.tab.lt⟩
 clear hm hq hy he h0 iG lE kD hqJ hqX kY;refine(callsIn_wide (n:=0)).1 ?_;refine callsIn_of_wp_marks Tryz.func184 rfl trivial ?_ rfl;simp only[Tryz.ntmps184,List.size_toArray,List.length_cons,List.length_nil,Nat.reduceAdd,Nat.reduceSub,Array.replicate_succ,Array.replicate_zero,List.push_toArray,List.append_toArray,List.nil_append,List.cons_append];gi_wp2_with (first
  | (refine⟨trivial,rfl,?_⟩;gi_at_call 85;refine(callsIn_wide.2 (z2t _ _)).mono ?_;rintro e w1 ⟨rfl,rfl⟩)
  | (refine⟨trivial,rfl,?_⟩;gi_at_call 185;refine(callsIn_wide.2 (q2h _ _)).mono ?_;rintro e w1 ⟨rfl,rfl⟩))
 obtain⟨W1,cZ⟩:∃ W1,(w.alloc (.cells #[.func (.yield l) #[] #[]] 203)).alloc (.cells #[.pointer (some ⟨s 8+1,0,none⟩)] 137)=W1:=⟨_,rfl⟩
 have hs1:W1.heap.size=w.heap.size+2:=by rw[<-cZ];simp
 have jD:Out 0 0 w W1:=by rw[<-cZ];exact((Out.refl 0 0 w).alloc _).alloc _
 have hy1:Box W1 w.heap.size 203 (.func (.yield l) #[] #[]):=by rw[<-cZ];exact J3
 have nG:Box W1 (w.heap.size+1) 137 (.pointer (some ⟨s 8+1,0,none⟩)):=by rw[<-cZ];exact heap_alloc2_new _ _ _
 rw[cZ];clear c0 d0 d1 d2 d3 d4 d5 cZ;have bK:=Q3 jD;have HY1:=Q3 hy1;have HX1:=Q3 nG;have mG:=Q3 hs1;clear jD hy1 nG;refine z3h (gf:=205) (lb:=#[.pointer (some ⟨w.heap.size+1,0,none⟩)]) rfl (enters_of Tryz.func205 (by kernel_rfl) rfl) J (fun c W=>c=.ret/\Jx W) ?H ?done ?stop
 case H=>
  intro eJ gV W2 kX;rw[hs1];have HR:=Q3 gV;have gN:Out 0 0 W1 W2:=by rw[kX];exact((Out.refl 0 0 W1).alloc _).alloc _
  have mV:W2.heap[w.heap.size+2]? = some (.deferred (some [])):=by rw[kX,<-hs1];exact J3
  have nN:W2.heap[w.heap.size+2+1]? = some (.loop (eJ .ready none)):=by rw[kX,<-hs1];exact heap_alloc2_new _ _ _
  refine(z6w (lo:=s 8) (hi:=s 8+2) (b:=s 8+1) (n:=64*n) (g:=w.heap.size+1) (l:=w.heap.size+2+1)
   (fun p W=>I p W/\Box W w.heap.size 203 (.func (.yield l) #[] #[])/\Box W (w.heap.size+1) 137 (.pointer (some ⟨s 8+1,0,none⟩))/\W.heap[w.heap.size+2]? = some (.deferred (some []))/\W.heap[w.heap.size+2+1]? = some (.loop (eJ .ready none)))
   (fun W=>J W/\W.heap[w.heap.size+2]? = some (.deferred (some []))/\W.heap[w.heap.size+2+1]? = some (.loop (eJ .ready none)))
   (fun W=>Jx W/\W.heap[w.heap.size+2]? = some (.deferred (some []))/\W.heap[w.heap.size+2+1]? = some (.loop (eJ .done (some .ret)))) ?hm1 ?hq1 ?hy1 ?he1 (w:=W2) ?hz1).mono ?_
  case hm1=>
   rintro p W ⟨a1,a2,a3,a4,a5⟩;obtain⟨b1,r,b2,b3,b4⟩:=HM.out p W a1;exact⟨b1,r.P,b2.places,a3⟩
  case hq1=>
   rintro p W W' ⟨a1,a2,a3,a4,a5⟩ o;exact⟨HQ.out p W W' 0 0 a1 o (.inr rfl),a2.kept o z0,a3.kept o z0,o.heap a4 z0,o.heap a5 z0⟩
  case hz1=>exact⟨HQ.out 0 W1 W2 0 0 (HQ.out 0 w W1 0 0 HI.out bK.out (.inr rfl)) gN (.inr rfl),HY1.out.kept gN z0,HX1.out.kept gN z0,mV,nN⟩
  case he1=>
   rintro p W S ⟨a1,a2,a3,a4,a5⟩ hS hn;obtain⟨b1,r,b2,b3,b4⟩:=HM.out p W a1;rw[hS.one b2.places] at hn;exact⟨HE.out p W r a1 b2 hn,a4,a5⟩
  case hy1=>
   rintro p W S k ⟨a1,a2,a3,a4,a5⟩ hS hn;obtain⟨b1,r,b2,b3,b4⟩:=HM.out p W a1;rw[hS.one b2.places] at hn;have hk:r.P k=true:=by
    rcases U8 r.P (64*n) p with ⟨e1,_⟩ | ⟨i,e1,_,_,e3,_⟩
    ·omega
    ·rw[show k=i from by omega];exact e3
   obtain⟨⟨kd,sz,se,tg⟩,hb⟩:=b3 k hk;have HYY:=Q3 (fun W' (o:Out (w.heap.size+2+1) (w.heap.size+2+1+1) W W')=>HY.out p W' r k _ (HQ.out p W W' _ _ a1 o (.inl (by omega))) (b2.kept o (.inl (by have:=HT.out;omega)) (.inl (by have:=HT.out;omega))) hn hb (by have:=Q8 a5;have:=o.size;omega));have A:=Q3 (And.intro a2 (And.intro a4 b4));have AX:=Q3 a3;have B2:=Q3 b2;have HB:=Q3 hb;have HL5:=Q3 a5;have qQ:(0:Int)<=(k:Int):=by omega
   refine z3j HR.out a5 rfl ?_;clear a1 a2 a3 a4 a5 b1 b2 b3 b4 hS hn hk hb;gi_wp2;refine⟨HL5.out,?_⟩;intro W3 fJ hl3;have fI:Out (w.heap.size+2+1) (w.heap.size+2+1+1) W W3.drew:=fJ.drew;have B3:=B2.out.kept fI (.inl (by have:=HT.out;omega)) (.inl (by have:=HT.out;omega));obtain⟨d0,d1,d2,d3,d4,d5⟩:=B3.cells;have c0:=(A.out.1.kept fI (.inl (by omega))).cell;have c1:=(A.out.2.2.kept fI (.inl (by have:=A.out.2.2.lt;have:=B2.out.top;have:=HT.out;have:=HG.out;omega))).cell;have nM:=B3.look false (k:Int);rw[show z7u r.M (k:Int)=some (.agg #[.int .i64 (k:Int),.int .i64 kd,.int .i64 sz,.int .i64 se,.int .i64 tg]) from by unfold z7u;rw[HB.out];rfl] at nM;simp only[Option.getD_some,Bool.false_eq_true,if_false] at nM;obtain⟨fn,tmps,assign,body,hy,hR⟩:=HYY.out W3.drew fI;have rB:=Q3 ((z1s (m:=0) hR).mono (R':=fun e W4=>∃ bb:Bool,e=.returned (.bool bb)/\Sv w.heap.size 4 W3.drew W4/\(bb=true->I (k+1) W4)/\(bb=false->Jx W4)) (fun e W4 h=>q2b h));have hmx:Tryz.prog.follows .mixedOrders=true:=by kernel_rfl
   have bN:=Q3 fI;have HL3:=Q3 hl3;unfold j1q at hy;clear hR fJ fI B3 hl3;gi_wp2_with fail;gi_region_with_o (first | (refine⟨rfl,?_⟩;refine RoundIn.mono (F:=Fence.wide.inRound (w.heap.size+2+1)) rB.out ?_;rintro e W4 ⟨bb,rfl,kO,hI4,hx4⟩))
   all_goals
    have bJ:=Q3 (kO);have cV:=Q3 (And.intro hI4 hx4);clear kO hI4 hx4;cases bb
    ·gi_wp2;refine⟨bJ.out.heap HL3.out (by omega) (by omega),?_⟩;intro W5 eL hl6;exact .inr ⟨rfl,HQX.out _ _ _ _ (cV.out.2 (by first | rfl | trivial)) eL (by omega),eL.heap (bJ.out.heap ((bN.out.heap A.out.2.1 (.inl (by omega)))) (by omega) (by omega)) (.inl (by omega)),hl6⟩
    ·gi_wp2;refine⟨bJ.out.heap HL3.out (by omega) (by omega),?_⟩;intro W5 eL hl6;exact .inl ⟨rfl,HQ.out _ _ _ _ _ (cV.out.1 (by first | rfl | trivial)) eL (.inl (by omega)),(eL.heap (bJ.out.heap (A.out.1.kept bN.out (.inl (by omega))) (by omega) (by omega)) (.inl (by omega))),(eL.heap (bJ.out.heap (AX.out.kept bN.out (.inl (by omega))) (by omega) (by omega)) (.inl (by omega))),eL.heap (bJ.out.heap ((bN.out.heap A.out.2.1 (.inl (by omega)))) (by omega) (by omega)) (.inl (by omega)),hl6⟩
  ·rintro e W ⟨hv,⟨a1,a2,a3⟩ | ⟨a1,a2,a3⟩⟩
   ·exact⟨hv,a2,.inl ⟨a1,a3⟩⟩
   ·exact⟨hv,a2,.inr ⟨.ret,⟨rfl,a1⟩,a3⟩⟩
 case done=>
  intro W W' hJ ho hd;have HJ:=Q3 (HQJ.out W W' _ _ hJ ho (by omega));have HD:=Q3 hd;clear hJ ho hd;gi_wp2;refine⟨by simp,.inl ⟨_,_,rfl,run_takeDeferred HD.out,?_⟩⟩;exact⟨_,results_none rfl _ _ _,⟨_,rfl⟩,.inl (HQJ.out _ _ _ _ HJ.out (Y0 _ _ _) (by omega))⟩
 case stop=>
  rintro c W W' ⟨rfl,hJ⟩ ho hd;have HJ:=Q3 (HQX.out W W' _ _ hJ ho (by omega));have HD:=Q3 hd;clear hJ ho hd;gi_wp2;refine⟨by simp,.inl ⟨_,_,rfl,run_takeDeferred HD.out,?_⟩⟩;exact⟨_,results_none rfl _ _ _,⟨_,rfl⟩,.inr (HQX.out _ _ _ _ HJ.out (Y0 _ _ _) (by omega))⟩
end Go.Proofs.YtjgnogflgoihfaaGreatDoor
