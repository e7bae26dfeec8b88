import Derived.Test.YtjgnogflgoihfaaGreatDoorP19
set_option linter.unusedSimpArgs false
set_option linter.unusedVariables false
set_option maxHeartbeats 16000000
set_option maxRecDepth 100000
namespace Go.Proofs.YtjgnogflgoihfaaGreatDoor
open Go.RowKit
section
variable {w:World} {rb:Nat} {s:Nat->Nat}
theorem q6u (hR:cq w rb 0=some (Pq (s 0))) (k m i:Int) (raw:Bool) {b0 b1 b2 b3 b4 e0 a0:Int} (hOp:∀ X,Out 0 0 w X->Kz 72 #[Pq rb,Vz k m] X fun e w'=>e=.returned (.tuple #[Wz b0 b1 b2 b3 b4,Vz e0 a0])/\Out 0 0 X w') (he:e0 ≠ 0):Kz 66 #[Pq rb,Vz k m,Iz i,.bool raw] w fun e w'=>e=.returned (.tuple #[Wz b0 b1 b2 b3 b4,Vz e0 a0])/\Out 0 0 w w':=by
 have oQ:(e0 != 0)=true:=by simpa using he
 clear he;have fV:=Q3 (J8 (w:=w) (o:=Dz k m 32) (o2:=Ez 0 0 0 0 0 81) (o3:=Dz 0 0 46));have fR:=Q3 (J7 (w:=w) (o:=Dz k m 32) (o2:=Ez 0 0 0 0 0 81) (o3:=Dz 0 0 46));have fF:=Q3 (J9 (w:=w) (o:=Dz k m 32) (o2:=Ez 0 0 0 0 0 81) (o3:=Dz 0 0 46));have aH:=Q3 ((((Out.refl 0 0 w).alloc (Dz k m 32)).alloc (Ez 0 0 0 0 0 81)).alloc (Dz 0 0 46));have kY:=Q3 hOp;obtain⟨gv,aN⟩:∃ g,w.heap.size=g:=⟨_,rfl⟩
 have aW:=Q3 aN;obtain⟨V2,aQ⟩:∃ V,((w.alloc (Dz k m 32)).alloc (Ez 0 0 0 0 0 81)).alloc (Dz 0 0 46)=V:=⟨_,rfl⟩
 rw[aQ,aN] at fV fR fF;rw[aQ] at aH;obtain⟨u0,u1,u2,u3⟩:=Q5 fV.out;clear hOp hR;go_enter Tryz.func66,Tryz.ntmps66
 go_wp2_with fail;(try rw[aQ]);(try rw[aN]);clear aQ aN;refine(kY.out _ aH.out).mono ?_;rintro e X3 ⟨rfl,q3⟩;clear u0 u1 u2 u3;have dE:=J0 (w:=X3) (o:=Ez b0 b1 b2 b3 b4 81) (o2:=Dz e0 a0 46);have eG:=J4 (w:=X3) (o:=Ez b0 b1 b2 b3 b4 81) (o2:=Dz e0 a0 46);have o4:=(q3.alloc (Ez b0 b1 b2 b3 b4 81)).alloc (Dz e0 a0 46);obtain⟨y0,y1,y2,y3,y4,y5⟩:=K7 dE;obtain⟨z0,z1,z2,z3⟩:=flt_facts eG;have bY:=Q3 (And.intro dE (And.intro eG o4));have bK:Hid (gv+3<=X3.heap.size):=by have h1:=Q7 fF.out;have h2:=q3.size;exact Nat.le_trans h1 h2
 clear dE eG o4 q3;go_wp2_with fail;obtain⟨V4,bV⟩:∃ V,(X3.alloc (Ez b0 b1 b2 b3 b4 81)).alloc (Dz e0 a0 46)=V:=⟨_,rfl⟩
 obtain⟨gb,bD⟩:∃ g,X3.heap.size=g:=⟨_,rfl⟩
 rw[bV] at bY y0 y1 y2 y3 y4 z0 z1 ⊢;rw[bD] at y0 y1 y2 y3 y4 z0 z1 bK;(try rw[bD]);clear bV bD y5 z2 z3;have bX:=Q3 bK.out;have bJ:=Q3 (aH.out.trans bY.out.2.2);have dY:=Q3 (bY.out.2.2.heap fR.out Oz);have fM:=Q3 (bY.out.2.2.heap fF.out Oz);refine wp_region_held_drew (S:=fun w'=>cq w' gb 0=some (Iz b0)/\cq w' gb 1=some (Iz b1)/\cq w' gb 2=some (Iz b2)/\cq w' gb 3=some (Iz b3)/\cq w' gb 4=some (Iz b4)/\cq w' (gb+1) 0=some (Iz e0)/\cq w' (gb+1) 1=some (Iz a0)) (by kernel_rfl) ?hS61 (fun aB=>?rest61)
 case hS61=>exact⟨y0,y1,y2,y3,y4,z0,z1⟩
 obtain⟨Q0,hZ⟩:∃ Z,V4.drew=Z:=⟨_,rfl⟩
 have OQ:Out 0 0 V4 Q0:=by rw[<-hZ];exact(Out.refl 0 0 _).drew
 rw[hZ] at aB ⊢;clear hZ;have eR:=Q3 (OQ.heap dY.out Oz);have fC:=Q3 (OQ.heap fM.out Oz);have bL:=Q3 (bJ.out.trans OQ);clear OQ;refine tk 0 ?_;refine tk 1 ?_;refine rd1 2 fun KK hK=>?_
 simp only[xa,xb,xc];obtain⟨v0,v1,v2,v3,v4,v5⟩:=K7 eR.out;go_simp;clear v0 v1 v2 v3 v4 v5;have e1:=G1 (x1:=b0) (x2:=b1) (x3:=b2) (x4:=b3) (x5:=b4) eR.out;obtain⟨Q1,hY⟩:∃ V,(((((Q0.setCell ⟨gv+1,0,none⟩ (Iz b0)).setCell ⟨gv+1,1,none⟩ (Iz b1)).setCell ⟨gv+1,2,none⟩ (Iz b2)).setCell ⟨gv+1,3,none⟩ (Iz b3)).setCell ⟨gv+1,4,none⟩ (Iz b4))=V:=⟨_,rfl⟩
 have q8:Out (gv+1) (gv+2) Q0 Q1:=by rw[<-hY];exact(Out.refl _ _ _).set5 Lz _ _ _ _ _
 rw[hY] at e1 ⊢;clear hY;have gG:=Q3 e1;have cW:=Q3 (q8.heap fC.out (.inr (Nat.le_refl _)));have fH:=Q3 (bL.out.then q8 (by have:=aW.out;omega));clear e1;refine hK.out _ _ ⟨q8.cell aB.1 (.inr (by have h1:=bX.out;omega)),q8.cell aB.2.1 (.inr (by have h1:=bX.out;omega)),q8.cell aB.2.2.1 (.inr (by have h1:=bX.out;omega)),q8.cell aB.2.2.2.1 (.inr (by have h1:=bX.out;omega)),q8.cell aB.2.2.2.2.1 (.inr (by have h1:=bX.out;omega)),q8.cell aB.2.2.2.2.2.1 (.inr (by have h1:=bX.out;omega)),q8.cell aB.2.2.2.2.2.2 (.inr (by have h1:=bX.out;omega))⟩ fun aB=>?_
 clear q8 hK KK;refine rd1 3 fun KK hK=>?_
 simp only[xa,xb,xc];obtain⟨c0,c1,c2,c3⟩:=flt_facts cW.out;go_simp;clear c0 c1 c2 c3;have f2:=J3 (x':=e0) (y':=a0) cW.out;obtain⟨Q2,hY⟩:∃ V,(Q1.setCell ⟨gv+2,0,none⟩ (Iz e0)).setCell ⟨gv+2,1,none⟩ (Iz a0)=V:=⟨_,rfl⟩
 have q9:Out (gv+2) (gv+3) Q1 Q2:=by rw[<-hY];exact(Out.refl _ _ _).set2 Lz _ _
 rw[hY] at f2 ⊢;clear hY;have fI:=Q3 f2;have mO:=Q3 (q9.heap gG.out (.inl (Nat.lt_succ_self _)));have iZ:=Q3 (fH.out.then q9 (by have:=aW.out;omega));clear f2;refine hK.out _ _ ⟨q9.cell aB.1 (.inr (by have h1:=bX.out;omega)),q9.cell aB.2.1 (.inr (by have h1:=bX.out;omega)),q9.cell aB.2.2.1 (.inr (by have h1:=bX.out;omega)),q9.cell aB.2.2.2.1 (.inr (by have h1:=bX.out;omega)),q9.cell aB.2.2.2.2.1 (.inr (by have h1:=bX.out;omega)),q9.cell aB.2.2.2.2.2.1 (.inr (by have h1:=bX.out;omega)),q9.cell aB.2.2.2.2.2.2 (.inr (by have h1:=bX.out;omega))⟩ fun aB=>?_
 clear q9 hK KK;refine dn ?_;clear aB;go_wp2;exact bodyPost_ret (J2 Tryz.results66 rfl rfl (F5 mO.out) (J5 fI.out)) rfl ⟨rfl,iZ.out⟩
theorem q6v (hR:cq w rb 0=some (Pq (s 0))) (k m i:Int) (raw:Bool) {b0 b1 b2 b3 b4 a0:Int} (hOp:∀ X,Out 0 0 w X->Kz 72 #[Pq rb,Vz k m] X fun e w'=>e=.returned (.tuple #[Wz b0 b1 b2 b3 b4,Vz 0 a0])/\Out 0 0 X w') {aK:Int} (hs1:-9223372036854775808<=b2) (eL:b2<=9223372036854775807) (aX:J6 b1 b2 i=aK) (hbad:(aK == 0)=true\/((aK == 0)=false/\((raw=true/\(aK == 1)=false)\/(raw=false/\(aK == 1)=true)))):Kz 66 #[Pq rb,Vz k m,Iz i,.bool raw] w fun e w'=>e=.returned (.tuple #[Wz b0 b1 b2 b3 b4,Vz 32 0])/\Out 0 0 w w':=by
 have Hs:=Q3 (And.intro hs1 eL);have cG:=Q3 aX;clear hs1 eL aX;have fV:=Q3 (J8 (w:=w) (o:=Dz k m 32) (o2:=Ez 0 0 0 0 0 81) (o3:=Dz 0 0 46));have fR:=Q3 (J7 (w:=w) (o:=Dz k m 32) (o2:=Ez 0 0 0 0 0 81) (o3:=Dz 0 0 46));have fF:=Q3 (J9 (w:=w) (o:=Dz k m 32) (o2:=Ez 0 0 0 0 0 81) (o3:=Dz 0 0 46));have aH:=Q3 ((((Out.refl 0 0 w).alloc (Dz k m 32)).alloc (Ez 0 0 0 0 0 81)).alloc (Dz 0 0 46));have kY:=Q3 hOp;obtain⟨gv,aN⟩:∃ g,w.heap.size=g:=⟨_,rfl⟩
 have aW:=Q3 aN;obtain⟨V2,aQ⟩:∃ V,((w.alloc (Dz k m 32)).alloc (Ez 0 0 0 0 0 81)).alloc (Dz 0 0 46)=V:=⟨_,rfl⟩
 rw[aQ,aN] at fV fR fF;rw[aQ] at aH;obtain⟨u0,u1,u2,u3⟩:=Q5 fV.out;clear hOp hR;go_enter Tryz.func66,Tryz.ntmps66
 go_wp2_with fail;(try rw[aQ]);(try rw[aN]);clear aQ aN;refine(kY.out _ aH.out).mono ?_;rintro e X3 ⟨rfl,q3⟩;clear u0 u1 u2 u3;have dE:=J0 (w:=X3) (o:=Ez b0 b1 b2 b3 b4 81) (o2:=Dz 0 a0 46);have eG:=J4 (w:=X3) (o:=Ez b0 b1 b2 b3 b4 81) (o2:=Dz 0 a0 46);have o4:=(q3.alloc (Ez b0 b1 b2 b3 b4 81)).alloc (Dz 0 a0 46);obtain⟨y0,y1,y2,y3,y4,y5⟩:=K7 dE;obtain⟨z0,z1,z2,z3⟩:=flt_facts eG;have bY:=Q3 (And.intro dE (And.intro eG o4));have bK:Hid (gv+3<=X3.heap.size):=by have h1:=Q7 fF.out;have h2:=q3.size;exact Nat.le_trans h1 h2
 clear dE eG o4 q3;go_wp2_with fail;obtain⟨V3,bV⟩:∃ V,(X3.alloc (Ez b0 b1 b2 b3 b4 81)).alloc (Dz 0 a0 46)=V:=⟨_,rfl⟩
 obtain⟨gb,bD⟩:∃ g,X3.heap.size=g:=⟨_,rfl⟩
 rw[bV] at bY y0 y1 y2 y3 y4 z0 z1 ⊢;rw[bD] at bY y0 y1 y2 y3 y4 z0 z1 bK;(try rw[bD]);clear bV bD y0 y1 y2 y3 y4 y5 z0 z1 z2 z3;have bX:=Q3 bK.out;refine(U8 b1 b2 i _ Hs.out.1 Hs.out.2).mono ?_;rintro e V4 ⟨rfl,q5⟩;have bJ:=Q3 ((aH.out.trans bY.out.2.2).trans q5);have dY:=Q3 ((bY.out.2.2.trans q5).heap fR.out Oz);have fM:=Q3 ((bY.out.2.2.trans q5).heap fF.out Oz);obtain⟨y0,y1,y2,y3,y4,_⟩:=K7 (q5.heap bY.out.1 Oz);obtain⟨z0,z1,_,_⟩:=flt_facts (q5.heap bY.out.2.1 Oz);rw[cG.out];clear q5 bY;rcases hbad with jQ | ⟨jQ,⟨rfl,iR⟩ | ⟨rfl,iR⟩⟩
 ·go_wp2_with fail;refine wp_region_held_drew (S:=fun w'=>cq w' gb 0=some (Iz b0)/\cq w' gb 1=some (Iz b1)/\cq w' gb 2=some (Iz b2)/\cq w' gb 3=some (Iz b3)/\cq w' gb 4=some (Iz b4)) (by kernel_rfl) ?hS66 (fun aB=>?rest66)
  case hS66=>exact⟨y0,y1,y2,y3,y4⟩
  obtain⟨Qz,hZ⟩:∃ Z,V4.drew=Z:=⟨_,rfl⟩
  have OQ:Out 0 0 V4 Qz:=by rw[<-hZ];exact(Out.refl 0 0 _).drew
  rw[hZ] at aB ⊢;clear hZ;have HRz:=Q3 (OQ.heap dY.out Oz);have HFz:=Q3 (OQ.heap fM.out Oz);have HOz:=Q3 (bJ.out.trans OQ);clear OQ;refine tk 0 ?_;refine rd1 1 fun KK hK=>?_
  go_simp;refine(G0 32 _).mono ?_;rintro e Q0 ⟨rfl,q1⟩;have eR:=Q3 (q1.heap HRz.out Oz);have fC:=Q3 (q1.heap HFz.out Oz);have bL:=Q3 (HOz.out.trans q1);refine hK.out _ _ ⟨q1.cell aB.1 Oz,q1.cell aB.2.1 Oz,q1.cell aB.2.2.1 Oz,q1.cell aB.2.2.2.1 Oz,q1.cell aB.2.2.2.2 Oz⟩ fun aB=>?_
  clear q1 hK KK;refine rd1 2 fun KK hK=>?_
  simp only[xa,xb,xc];obtain⟨v0,v1,v2,v3,v4,v5⟩:=K7 eR.out;go_simp;clear v0 v1 v2 v3 v4 v5;have e1:=G1 (x1:=b0) (x2:=b1) (x3:=b2) (x4:=b3) (x5:=b4) eR.out;obtain⟨Q1,hY⟩:∃ V,(((((Q0.setCell ⟨gv+1,0,none⟩ (Iz b0)).setCell ⟨gv+1,1,none⟩ (Iz b1)).setCell ⟨gv+1,2,none⟩ (Iz b2)).setCell ⟨gv+1,3,none⟩ (Iz b3)).setCell ⟨gv+1,4,none⟩ (Iz b4))=V:=⟨_,rfl⟩
  have q8:Out (gv+1) (gv+2) Q0 Q1:=by rw[<-hY];exact(Out.refl _ _ _).set5 Lz _ _ _ _ _
  rw[hY] at e1 ⊢;clear hY;have gG:=Q3 e1;have cW:=Q3 (q8.heap fC.out (.inr (Nat.le_refl _)));have fH:=Q3 (bL.out.then q8 (by have:=aW.out;omega));clear e1;refine hK.out _ _ ⟨q8.cell aB.1 (.inr (by have h1:=bX.out;omega)),q8.cell aB.2.1 (.inr (by have h1:=bX.out;omega)),q8.cell aB.2.2.1 (.inr (by have h1:=bX.out;omega)),q8.cell aB.2.2.2.1 (.inr (by have h1:=bX.out;omega)),q8.cell aB.2.2.2.2 (.inr (by have h1:=bX.out;omega))⟩ fun aB=>?_
  clear q8 hK KK;refine rd1 3 fun KK hK=>?_
  simp only[xa,xb,xc];obtain⟨c0,c1,c2,c3⟩:=flt_facts cW.out;go_simp;clear c0 c1 c2 c3;have f2:=J3 (x':=32) (y':=0) cW.out;obtain⟨Q2,hY⟩:∃ V,(Q1.setCell ⟨gv+2,0,none⟩ (Iz 32)).setCell ⟨gv+2,1,none⟩ (Iz 0)=V:=⟨_,rfl⟩
  have q9:Out (gv+2) (gv+3) Q1 Q2:=by rw[<-hY];exact(Out.refl _ _ _).set2 Lz _ _
  rw[hY] at f2 ⊢;clear hY;have fI:=Q3 f2;have mO:=Q3 (q9.heap gG.out (.inl (Nat.lt_succ_self _)));have iZ:=Q3 (fH.out.then q9 (by have:=aW.out;omega));clear f2;refine hK.out _ _ ⟨q9.cell aB.1 (.inr (by have h1:=bX.out;omega)),q9.cell aB.2.1 (.inr (by have h1:=bX.out;omega)),q9.cell aB.2.2.1 (.inr (by have h1:=bX.out;omega)),q9.cell aB.2.2.2.1 (.inr (by have h1:=bX.out;omega)),q9.cell aB.2.2.2.2 (.inr (by have h1:=bX.out;omega))⟩ fun aB=>?_
  clear q9 hK KK;refine dn ?_;clear aB;go_wp2;exact bodyPost_ret (J2 Tryz.results66 rfl rfl (F5 mO.out) (J5 fI.out)) rfl ⟨rfl,iZ.out⟩
 ·go_wp2_with fail;refine wp_region_held_drew (S:=fun w'=>cq w' gb 0=some (Iz b0)/\cq w' gb 1=some (Iz b1)/\cq w' gb 2=some (Iz b2)/\cq w' gb 3=some (Iz b3)/\cq w' gb 4=some (Iz b4)) (by kernel_rfl) ?hS71 (fun aB=>?rest71)
  case hS71=>exact⟨y0,y1,y2,y3,y4⟩
  obtain⟨Qz,hZ⟩:∃ Z,V4.drew=Z:=⟨_,rfl⟩
  have OQ:Out 0 0 V4 Qz:=by rw[<-hZ];exact(Out.refl 0 0 _).drew
  rw[hZ] at aB ⊢;clear hZ;have HRz:=Q3 (OQ.heap dY.out Oz);have HFz:=Q3 (OQ.heap fM.out Oz);have HOz:=Q3 (bJ.out.trans OQ);clear OQ;refine tk 0 ?_;refine rd1 1 fun KK hK=>?_
  go_simp;refine(G0 32 _).mono ?_;rintro e Q0 ⟨rfl,q1⟩;have eR:=Q3 (q1.heap HRz.out Oz);have fC:=Q3 (q1.heap HFz.out Oz);have bL:=Q3 (HOz.out.trans q1);refine hK.out _ _ ⟨q1.cell aB.1 Oz,q1.cell aB.2.1 Oz,q1.cell aB.2.2.1 Oz,q1.cell aB.2.2.2.1 Oz,q1.cell aB.2.2.2.2 Oz⟩ fun aB=>?_
  clear q1 hK KK;refine rd1 2 fun KK hK=>?_
  simp only[xa,xb,xc];obtain⟨v0,v1,v2,v3,v4,v5⟩:=K7 eR.out;go_simp;clear v0 v1 v2 v3 v4 v5;have e1:=G1 (x1:=b0) (x2:=b1) (x3:=b2) (x4:=b3) (x5:=b4) eR.out;obtain⟨Q1,hY⟩:∃ V,(((((Q0.setCell ⟨gv+1,0,none⟩ (Iz b0)).setCell ⟨gv+1,1,none⟩ (Iz b1)).setCell ⟨gv+1,2,none⟩ (Iz b2)).setCell ⟨gv+1,3,none⟩ (Iz b3)).setCell ⟨gv+1,4,none⟩ (Iz b4))=V:=⟨_,rfl⟩
  have q8:Out (gv+1) (gv+2) Q0 Q1:=by rw[<-hY];exact(Out.refl _ _ _).set5 Lz _ _ _ _ _
  rw[hY] at e1 ⊢;clear hY;have gG:=Q3 e1;have cW:=Q3 (q8.heap fC.out (.inr (Nat.le_refl _)));have fH:=Q3 (bL.out.then q8 (by have:=aW.out;omega));clear e1;refine hK.out _ _ ⟨q8.cell aB.1 (.inr (by have h1:=bX.out;omega)),q8.cell aB.2.1 (.inr (by have h1:=bX.out;omega)),q8.cell aB.2.2.1 (.inr (by have h1:=bX.out;omega)),q8.cell aB.2.2.2.1 (.inr (by have h1:=bX.out;omega)),q8.cell aB.2.2.2.2 (.inr (by have h1:=bX.out;omega))⟩ fun aB=>?_
  clear q8 hK KK;refine rd1 3 fun KK hK=>?_
  simp only[xa,xb,xc];obtain⟨c0,c1,c2,c3⟩:=flt_facts cW.out;go_simp;clear c0 c1 c2 c3;have f2:=J3 (x':=32) (y':=0) cW.out;obtain⟨Q2,hY⟩:∃ V,(Q1.setCell ⟨gv+2,0,none⟩ (Iz 32)).setCell ⟨gv+2,1,none⟩ (Iz 0)=V:=⟨_,rfl⟩
  have q9:Out (gv+2) (gv+3) Q1 Q2:=by rw[<-hY];exact(Out.refl _ _ _).set2 Lz _ _
  rw[hY] at f2 ⊢;clear hY;have fI:=Q3 f2;have mO:=Q3 (q9.heap gG.out (.inl (Nat.lt_succ_self _)));have iZ:=Q3 (fH.out.then q9 (by have:=aW.out;omega));clear f2;refine hK.out _ _ ⟨q9.cell aB.1 (.inr (by have h1:=bX.out;omega)),q9.cell aB.2.1 (.inr (by have h1:=bX.out;omega)),q9.cell aB.2.2.1 (.inr (by have h1:=bX.out;omega)),q9.cell aB.2.2.2.1 (.inr (by have h1:=bX.out;omega)),q9.cell aB.2.2.2.2 (.inr (by have h1:=bX.out;omega))⟩ fun aB=>?_
  clear q9 hK KK;refine dn ?_;clear aB;go_wp2;exact bodyPost_ret (J2 Tryz.results66 rfl rfl (F5 mO.out) (J5 fI.out)) rfl ⟨rfl,iZ.out⟩
 ·go_wp2_with fail;refine wp_region_held_drew (S:=fun w'=>cq w' gb 0=some (Iz b0)/\cq w' gb 1=some (Iz b1)/\cq w' gb 2=some (Iz b2)/\cq w' gb 3=some (Iz b3)/\cq w' gb 4=some (Iz b4)) (by kernel_rfl) ?hS76 (fun aB=>?rest76)
  case hS76=>exact⟨y0,y1,y2,y3,y4⟩
  obtain⟨Qz,hZ⟩:∃ Z,V4.drew=Z:=⟨_,rfl⟩
  have OQ:Out 0 0 V4 Qz:=by rw[<-hZ];exact(Out.refl 0 0 _).drew
  rw[hZ] at aB ⊢;clear hZ;have HRz:=Q3 (OQ.heap dY.out Oz);have HFz:=Q3 (OQ.heap fM.out Oz);have HOz:=Q3 (bJ.out.trans OQ);clear OQ;refine tk 0 ?_;refine rd1 1 fun KK hK=>?_
  go_simp;refine(G0 32 _).mono ?_;rintro e Q0 ⟨rfl,q1⟩;have eR:=Q3 (q1.heap HRz.out Oz);have fC:=Q3 (q1.heap HFz.out Oz);have bL:=Q3 (HOz.out.trans q1);refine hK.out _ _ ⟨q1.cell aB.1 Oz,q1.cell aB.2.1 Oz,q1.cell aB.2.2.1 Oz,q1.cell aB.2.2.2.1 Oz,q1.cell aB.2.2.2.2 Oz⟩ fun aB=>?_
  clear q1 hK KK;refine rd1 2 fun KK hK=>?_
  simp only[xa,xb,xc];obtain⟨v0,v1,v2,v3,v4,v5⟩:=K7 eR.out;go_simp;clear v0 v1 v2 v3 v4 v5;have e1:=G1 (x1:=b0) (x2:=b1) (x3:=b2) (x4:=b3) (x5:=b4) eR.out;obtain⟨Q1,hY⟩:∃ V,(((((Q0.setCell ⟨gv+1,0,none⟩ (Iz b0)).setCell ⟨gv+1,1,none⟩ (Iz b1)).setCell ⟨gv+1,2,none⟩ (Iz b2)).setCell ⟨gv+1,3,none⟩ (Iz b3)).setCell ⟨gv+1,4,none⟩ (Iz b4))=V:=⟨_,rfl⟩
  have q8:Out (gv+1) (gv+2) Q0 Q1:=by rw[<-hY];exact(Out.refl _ _ _).set5 Lz _ _ _ _ _
  rw[hY] at e1 ⊢;clear hY;have gG:=Q3 e1;have cW:=Q3 (q8.heap fC.out (.inr (Nat.le_refl _)));have fH:=Q3 (bL.out.then q8 (by have:=aW.out;omega));clear e1;refine hK.out _ _ ⟨q8.cell aB.1 (.inr (by have h1:=bX.out;omega)),q8.cell aB.2.1 (.inr (by have h1:=bX.out;omega)),q8.cell aB.2.2.1 (.inr (by have h1:=bX.out;omega)),q8.cell aB.2.2.2.1 (.inr (by have h1:=bX.out;omega)),q8.cell aB.2.2.2.2 (.inr (by have h1:=bX.out;omega))⟩ fun aB=>?_
  clear q8 hK KK;refine rd1 3 fun KK hK=>?_
  simp only[xa,xb,xc];obtain⟨c0,c1,c2,c3⟩:=flt_facts cW.out;go_simp;clear c0 c1 c2 c3;have f2:=J3 (x':=32) (y':=0) cW.out;obtain⟨Q2,hY⟩:∃ V,(Q1.setCell ⟨gv+2,0,none⟩ (Iz 32)).setCell ⟨gv+2,1,none⟩ (Iz 0)=V:=⟨_,rfl⟩
  have q9:Out (gv+2) (gv+3) Q1 Q2:=by rw[<-hY];exact(Out.refl _ _ _).set2 Lz _ _
  rw[hY] at f2 ⊢;clear hY;have fI:=Q3 f2;have mO:=Q3 (q9.heap gG.out (.inl (Nat.lt_succ_self _)));have iZ:=Q3 (fH.out.then q9 (by have:=aW.out;omega));clear f2;refine hK.out _ _ ⟨q9.cell aB.1 (.inr (by have h1:=bX.out;omega)),q9.cell aB.2.1 (.inr (by have h1:=bX.out;omega)),q9.cell aB.2.2.1 (.inr (by have h1:=bX.out;omega)),q9.cell aB.2.2.2.1 (.inr (by have h1:=bX.out;omega)),q9.cell aB.2.2.2.2 (.inr (by have h1:=bX.out;omega))⟩ fun aB=>?_
  clear q9 hK KK;refine dn ?_;clear aB;go_wp2;exact bodyPost_ret (J2 Tryz.results66 rfl rfl (F5 mO.out) (J5 fI.out)) rfl ⟨rfl,iZ.out⟩
theorem j8y (hR:cq w rb 0=some (Pq (s 0))) (k m i:Int) (raw:Bool) {b0 b1 b2 b3 b4 a0:Int} (hOp:∀ X,Out 0 0 w X->Kz 72 #[Pq rb,Vz k m] X fun e w'=>e=.returned (.tuple #[Wz b0 b1 b2 b3 b4,Vz 0 a0])/\Out 0 0 X w') {aK:Int} (hs1:-9223372036854775808<=b2) (eL:b2<=9223372036854775807) (aX:J6 b1 b2 i=aK) (jQ:(aK == 0)=false) (hgood:(raw=true/\(aK == 1)=true)\/(raw=false/\(aK == 1)=false)):Kz 66 #[Pq rb,Vz k m,Iz i,.bool raw] w fun e w'=>e=.returned (.tuple #[Wz b0 b1 b2 b3 b4,Vz 0 a0])/\Out 0 0 w w':=by
 have Hs:=Q3 (And.intro hs1 eL);have cG:=Q3 aX;clear hs1 eL aX;have fV:=Q3 (J8 (w:=w) (o:=Dz k m 32) (o2:=Ez 0 0 0 0 0 81) (o3:=Dz 0 0 46));have fR:=Q3 (J7 (w:=w) (o:=Dz k m 32) (o2:=Ez 0 0 0 0 0 81) (o3:=Dz 0 0 46));have fF:=Q3 (J9 (w:=w) (o:=Dz k m 32) (o2:=Ez 0 0 0 0 0 81) (o3:=Dz 0 0 46));have aH:=Q3 ((((Out.refl 0 0 w).alloc (Dz k m 32)).alloc (Ez 0 0 0 0 0 81)).alloc (Dz 0 0 46));have kY:=Q3 hOp;obtain⟨gv,aN⟩:∃ g,w.heap.size=g:=⟨_,rfl⟩
 have aW:=Q3 aN;obtain⟨V2,aQ⟩:∃ V,((w.alloc (Dz k m 32)).alloc (Ez 0 0 0 0 0 81)).alloc (Dz 0 0 46)=V:=⟨_,rfl⟩
 rw[aQ,aN] at fV fR fF;rw[aQ] at aH;obtain⟨u0,u1,u2,u3⟩:=Q5 fV.out;clear hOp hR;go_enter Tryz.func66,Tryz.ntmps66
 go_wp2_with fail;(try rw[aQ]);(try rw[aN]);clear aQ aN;refine(kY.out _ aH.out).mono ?_;rintro e X3 ⟨rfl,q3⟩;clear u0 u1 u2 u3;have dE:=J0 (w:=X3) (o:=Ez b0 b1 b2 b3 b4 81) (o2:=Dz 0 a0 46);have eG:=J4 (w:=X3) (o:=Ez b0 b1 b2 b3 b4 81) (o2:=Dz 0 a0 46);have o4:=(q3.alloc (Ez b0 b1 b2 b3 b4 81)).alloc (Dz 0 a0 46);obtain⟨y0,y1,y2,y3,y4,y5⟩:=K7 dE;obtain⟨z0,z1,z2,z3⟩:=flt_facts eG;have bY:=Q3 (And.intro dE (And.intro eG o4));have bK:Hid (gv+3<=X3.heap.size):=by have h1:=Q7 fF.out;have h2:=q3.size;exact Nat.le_trans h1 h2
 clear dE eG o4 q3;go_wp2_with fail;obtain⟨V3,bV⟩:∃ V,(X3.alloc (Ez b0 b1 b2 b3 b4 81)).alloc (Dz 0 a0 46)=V:=⟨_,rfl⟩
 obtain⟨gb,bD⟩:∃ g,X3.heap.size=g:=⟨_,rfl⟩
 rw[bV] at bY y0 y1 y2 y3 y4 z0 z1 ⊢;rw[bD] at bY y0 y1 y2 y3 y4 z0 z1 bK;(try rw[bD]);clear bV bD y0 y1 y2 y3 y4 y5 z0 z1 z2 z3;have bX:=Q3 bK.out;refine(U8 b1 b2 i _ Hs.out.1 Hs.out.2).mono ?_;rintro e V4 ⟨rfl,q5⟩;have bJ:=Q3 ((aH.out.trans bY.out.2.2).trans q5);have dY:=Q3 ((bY.out.2.2.trans q5).heap fR.out Oz);have fM:=Q3 ((bY.out.2.2.trans q5).heap fF.out Oz);obtain⟨y0,y1,y2,y3,y4,_⟩:=K7 (q5.heap bY.out.1 Oz);obtain⟨z0,z1,_,_⟩:=flt_facts (q5.heap bY.out.2.1 Oz);rw[cG.out];clear q5 bY;rcases hgood with ⟨rfl,iR⟩ | ⟨rfl,iR⟩
 ·go_wp2_with fail;refine wp_region_held_drew (S:=fun w'=>cq w' gb 0=some (Iz b0)/\cq w' gb 1=some (Iz b1)/\cq w' gb 2=some (Iz b2)/\cq w' gb 3=some (Iz b3)/\cq w' gb 4=some (Iz b4)/\cq w' (gb+1) 0=some (Iz 0)/\cq w' (gb+1) 1=some (Iz a0)) (by kernel_rfl) ?hS81 (fun aB=>?rest81)
  case hS81=>exact⟨y0,y1,y2,y3,y4,z0,z1⟩
  obtain⟨Q0,hZ⟩:∃ Z,V4.drew=Z:=⟨_,rfl⟩
  have OQ:Out 0 0 V4 Q0:=by rw[<-hZ];exact(Out.refl 0 0 _).drew
  rw[hZ] at aB ⊢;clear hZ;have eR:=Q3 (OQ.heap dY.out Oz);have fC:=Q3 (OQ.heap fM.out Oz);have bL:=Q3 (bJ.out.trans OQ);clear OQ;refine tk 0 ?_;refine tk 1 ?_;refine rd1 2 fun KK hK=>?_
  simp only[xa,xb,xc];obtain⟨v0,v1,v2,v3,v4,v5⟩:=K7 eR.out;go_simp;clear v0 v1 v2 v3 v4 v5;have e1:=G1 (x1:=b0) (x2:=b1) (x3:=b2) (x4:=b3) (x5:=b4) eR.out;obtain⟨Q1,hY⟩:∃ V,(((((Q0.setCell ⟨gv+1,0,none⟩ (Iz b0)).setCell ⟨gv+1,1,none⟩ (Iz b1)).setCell ⟨gv+1,2,none⟩ (Iz b2)).setCell ⟨gv+1,3,none⟩ (Iz b3)).setCell ⟨gv+1,4,none⟩ (Iz b4))=V:=⟨_,rfl⟩
  have q8:Out (gv+1) (gv+2) Q0 Q1:=by rw[<-hY];exact(Out.refl _ _ _).set5 Lz _ _ _ _ _
  rw[hY] at e1 ⊢;clear hY;have gG:=Q3 e1;have cW:=Q3 (q8.heap fC.out (.inr (Nat.le_refl _)));have fH:=Q3 (bL.out.then q8 (by have:=aW.out;omega));clear e1;refine hK.out _ _ ⟨q8.cell aB.1 (.inr (by have h1:=bX.out;omega)),q8.cell aB.2.1 (.inr (by have h1:=bX.out;omega)),q8.cell aB.2.2.1 (.inr (by have h1:=bX.out;omega)),q8.cell aB.2.2.2.1 (.inr (by have h1:=bX.out;omega)),q8.cell aB.2.2.2.2.1 (.inr (by have h1:=bX.out;omega)),q8.cell aB.2.2.2.2.2.1 (.inr (by have h1:=bX.out;omega)),q8.cell aB.2.2.2.2.2.2 (.inr (by have h1:=bX.out;omega))⟩ fun aB=>?_
  clear q8 hK KK;refine rd1 3 fun KK hK=>?_
  simp only[xa,xb,xc];obtain⟨c0,c1,c2,c3⟩:=flt_facts cW.out;go_simp;clear c0 c1 c2 c3;have f2:=J3 (x':=0) (y':=a0) cW.out;obtain⟨Q2,hY⟩:∃ V,(Q1.setCell ⟨gv+2,0,none⟩ (Iz 0)).setCell ⟨gv+2,1,none⟩ (Iz a0)=V:=⟨_,rfl⟩
  have q9:Out (gv+2) (gv+3) Q1 Q2:=by rw[<-hY];exact(Out.refl _ _ _).set2 Lz _ _
  rw[hY] at f2 ⊢;clear hY;have fI:=Q3 f2;have mO:=Q3 (q9.heap gG.out (.inl (Nat.lt_succ_self _)));have iZ:=Q3 (fH.out.then q9 (by have:=aW.out;omega));clear f2;refine hK.out _ _ ⟨q9.cell aB.1 (.inr (by have h1:=bX.out;omega)),q9.cell aB.2.1 (.inr (by have h1:=bX.out;omega)),q9.cell aB.2.2.1 (.inr (by have h1:=bX.out;omega)),q9.cell aB.2.2.2.1 (.inr (by have h1:=bX.out;omega)),q9.cell aB.2.2.2.2.1 (.inr (by have h1:=bX.out;omega)),q9.cell aB.2.2.2.2.2.1 (.inr (by have h1:=bX.out;omega)),q9.cell aB.2.2.2.2.2.2 (.inr (by have h1:=bX.out;omega))⟩ fun aB=>?_
  clear q9 hK KK;refine dn ?_;clear aB;go_wp2;exact bodyPost_ret (J2 Tryz.results66 rfl rfl (F5 mO.out) (J5 fI.out)) rfl ⟨rfl,iZ.out⟩
 ·go_wp2_with fail;refine wp_region_held_drew (S:=fun w'=>cq w' gb 0=some (Iz b0)/\cq w' gb 1=some (Iz b1)/\cq w' gb 2=some (Iz b2)/\cq w' gb 3=some (Iz b3)/\cq w' gb 4=some (Iz b4)/\cq w' (gb+1) 0=some (Iz 0)/\cq w' (gb+1) 1=some (Iz a0)) (by kernel_rfl) ?hS86 (fun aB=>?rest86)
  case hS86=>exact⟨y0,y1,y2,y3,y4,z0,z1⟩
  obtain⟨Q0,hZ⟩:∃ Z,V4.drew=Z:=⟨_,rfl⟩
  have OQ:Out 0 0 V4 Q0:=by rw[<-hZ];exact(Out.refl 0 0 _).drew
  rw[hZ] at aB ⊢;clear hZ;have eR:=Q3 (OQ.heap dY.out Oz);have fC:=Q3 (OQ.heap fM.out Oz);have bL:=Q3 (bJ.out.trans OQ);clear OQ;refine tk 0 ?_;refine tk 1 ?_;refine rd1 2 fun KK hK=>?_
  simp only[xa,xb,xc];obtain⟨v0,v1,v2,v3,v4,v5⟩:=K7 eR.out;go_simp;clear v0 v1 v2 v3 v4 v5;have e1:=G1 (x1:=b0) (x2:=b1) (x3:=b2) (x4:=b3) (x5:=b4) eR.out;obtain⟨Q1,hY⟩:∃ V,(((((Q0.setCell ⟨gv+1,0,none⟩ (Iz b0)).setCell ⟨gv+1,1,none⟩ (Iz b1)).setCell ⟨gv+1,2,none⟩ (Iz b2)).setCell ⟨gv+1,3,none⟩ (Iz b3)).setCell ⟨gv+1,4,none⟩ (Iz b4))=V:=⟨_,rfl⟩
  have q8:Out (gv+1) (gv+2) Q0 Q1:=by rw[<-hY];exact(Out.refl _ _ _).set5 Lz _ _ _ _ _
  rw[hY] at e1 ⊢;clear hY;have gG:=Q3 e1;have cW:=Q3 (q8.heap fC.out (.inr (Nat.le_refl _)));have fH:=Q3 (bL.out.then q8 (by have:=aW.out;omega));clear e1;refine hK.out _ _ ⟨q8.cell aB.1 (.inr (by have h1:=bX.out;omega)),q8.cell aB.2.1 (.inr (by have h1:=bX.out;omega)),q8.cell aB.2.2.1 (.inr (by have h1:=bX.out;omega)),q8.cell aB.2.2.2.1 (.inr (by have h1:=bX.out;omega)),q8.cell aB.2.2.2.2.1 (.inr (by have h1:=bX.out;omega)),q8.cell aB.2.2.2.2.2.1 (.inr (by have h1:=bX.out;omega)),q8.cell aB.2.2.2.2.2.2 (.inr (by have h1:=bX.out;omega))⟩ fun aB=>?_
  clear q8 hK KK;refine rd1 3 fun KK hK=>?_
  simp only[xa,xb,xc];obtain⟨c0,c1,c2,c3⟩:=flt_facts cW.out;go_simp;clear c0 c1 c2 c3;have f2:=J3 (x':=0) (y':=a0) cW.out;obtain⟨Q2,hY⟩:∃ V,(Q1.setCell ⟨gv+2,0,none⟩ (Iz 0)).setCell ⟨gv+2,1,none⟩ (Iz a0)=V:=⟨_,rfl⟩
  have q9:Out (gv+2) (gv+3) Q1 Q2:=by rw[<-hY];exact(Out.refl _ _ _).set2 Lz _ _
  rw[hY] at f2 ⊢;clear hY;have fI:=Q3 f2;have mO:=Q3 (q9.heap gG.out (.inl (Nat.lt_succ_self _)));have iZ:=Q3 (fH.out.then q9 (by have:=aW.out;omega));clear f2;refine hK.out _ _ ⟨q9.cell aB.1 (.inr (by have h1:=bX.out;omega)),q9.cell aB.2.1 (.inr (by have h1:=bX.out;omega)),q9.cell aB.2.2.1 (.inr (by have h1:=bX.out;omega)),q9.cell aB.2.2.2.1 (.inr (by have h1:=bX.out;omega)),q9.cell aB.2.2.2.2.1 (.inr (by have h1:=bX.out;omega)),q9.cell aB.2.2.2.2.2.1 (.inr (by have h1:=bX.out;omega)),q9.cell aB.2.2.2.2.2.2 (.inr (by have h1:=bX.out;omega))⟩ fun aB=>?_
  clear q9 hK KK;refine dn ?_;clear aB;go_wp2;exact bodyPost_ret (J2 Tryz.results66 rfl rfl (F5 mO.out) (J5 fI.out)) rfl ⟨rfl,iZ.out⟩
end
section
variable {w:World} {lo hi rb cw co n:Nat} {s:Nat->Nat} {st:Sp}
theorem z5i (k m i x:Int) {b0 b1 b2 b3 b4 e0 a0:Int} (hWd:∀ X,Out 0 0 w X->Kz 66 #[Pq rb,Vz k m,Iz i,.bool true] X fun e w'=>e=.returned (.tuple #[Wz b0 b1 b2 b3 b4,Vz e0 a0])/\Out 0 0 X w') (he:e0 ≠ 0):Kz 27 #[Pq rb,Vz k m,Iz i,Iz x] w fun e w'=>e=.returned (Vz e0 a0)/\Out 0 0 w w':=by
 have oQ:(e0 == 0)=false:=by simpa using he
 clear he;have fV:=Q3 (J0 (w:=w) (o:=Dz k m 32) (o2:=Dz 0 0 46));have fF:=Q3 (J4 (w:=w) (o:=Dz k m 32) (o2:=Dz 0 0 46));have aH:=Q3 (((Out.refl 0 0 w).alloc (Dz k m 32)).alloc (Dz 0 0 46));have jG:=Q3 hWd;obtain⟨gv,aN⟩:∃ g,w.heap.size=g:=⟨_,rfl⟩
 have aW:=Q3 aN;obtain⟨V2,aQ⟩:∃ V,(w.alloc (Dz k m 32)).alloc (Dz 0 0 46)=V:=⟨_,rfl⟩
 rw[aQ,aN] at fV fF;rw[aQ] at aH;obtain⟨u0,u1,u2,u3⟩:=Q5 fV.out;clear hWd;go_enter Tryz.func27,Tryz.ntmps27
 go_wp2_with fail;(try rw[aQ]);(try rw[aN]);clear aQ aN;refine(jG.out _ aH.out).mono ?_;rintro e X3 ⟨rfl,q3⟩;clear u0 u1 u2 u3;have dE:=J0 (w:=X3) (o:=Ez b0 b1 b2 b3 b4 81) (o2:=Dz e0 a0 46);have eG:=J4 (w:=X3) (o:=Ez b0 b1 b2 b3 b4 81) (o2:=Dz e0 a0 46);have o4:=(q3.alloc (Ez b0 b1 b2 b3 b4 81)).alloc (Dz e0 a0 46);have iU:=o4.heap fF.out Oz;obtain⟨y0,y1,y2,y3,y4,y5⟩:=K7 dE;obtain⟨z0,z1,z2,z3⟩:=flt_facts eG;have bY:=Q3 (And.intro dE (And.intro eG (And.intro o4 iU)));have bK:Hid (gv+2<=X3.heap.size):=by have h1:=Q7 fF.out;have h2:=q3.size;exact Nat.le_trans h1 h2
 clear dE eG o4 q3;obtain⟨c0,c1,c2,c3⟩:=flt_facts iU;have f2:=J3 (x':=e0) (y':=a0) iU;have o2:=(Out.refl (gv+1) (gv+2) ((X3.alloc (Ez b0 b1 b2 b3 b4 81)).alloc (Dz e0 a0 46))).set2 (b:=gv+1) (o:=0) (o':=1) Lz (Iz e0) (Iz a0);have HE:=Q3 (And.intro f2 ((aH.out.trans bY.out.2.2.1).then o2 (by have:=aW.out;omega)));clear f2 o2 iU;go_wp2;exact bodyPost_ret (K5 Tryz.results27 rfl (J5 HE.out.1)) rfl ⟨rfl,HE.out.2⟩
theorem j1e (h:RfAt w lo hi s n cw co st) (hR:cq w rb 0=some (Pq (s 0))) (hro:rb<lo\/hi<=rb) (k m i x:Int) {b0 b1 b2 b3 b4 a0:Int} (hWd:∀ X,Out 0 0 w X->Kz 66 #[Pq rb,Vz k m,Iz i,.bool true] X fun e w'=>e=.returned (.tuple #[Wz b0 b1 b2 b3 b4,Vz 0 a0])/\Out 0 0 X w') {a:Nat} (mR:b0+i=(a:Int)) (ha:a<64*n):Kz 27 #[Pq rb,Vz k m,Iz i,Iz x] w fun e w'=>e=.returned (Vz 0 a0)/\RfAt w' lo hi s n cw co { st with W:=z2p st.W a x }/\Out lo hi w w':=by
 have Hh:=Q3 h;have HR:=Q3 (And.intro hR hro);have kO:IntKind.i64.wrap (a:Int)=(a:Int):=by rw[IntKind.wrap_i64];have:=Hh.out.n2;omega
 have Ha:=Q3 ha;obtain⟨M,hM⟩:∃ M,64*n=M:=⟨_,rfl⟩
 have a1:(a:Int)<(M:Int):=by omega
 have a0':(0:Int)<=(a:Int):=by omega
 have HMn:=Q3 hM;clear h hR hro ha hM;have fV:=Q3 (J0 (w:=w) (o:=Dz k m 32) (o2:=Dz 0 0 46));have fF:=Q3 (J4 (w:=w) (o:=Dz k m 32) (o2:=Dz 0 0 46));have aH:=Q3 (((Out.refl 0 0 w).alloc (Dz k m 32)).alloc (Dz 0 0 46));have jG:=Q3 hWd;obtain⟨gv,aN⟩:∃ g,w.heap.size=g:=⟨_,rfl⟩
 have aW:=Q3 aN;obtain⟨V2,aQ⟩:∃ V,(w.alloc (Dz k m 32)).alloc (Dz 0 0 46)=V:=⟨_,rfl⟩
 rw[aQ,aN] at fV fF;rw[aQ] at aH;obtain⟨u0,u1,u2,u3⟩:=Q5 fV.out;clear hWd;go_enter Tryz.func27,Tryz.ntmps27
 go_wp2_with fail;(try rw[aQ]);(try rw[aN]);clear aQ aN;refine(jG.out _ aH.out).mono ?_;rintro e X3 ⟨rfl,q3⟩;clear u0 u1 u2 u3;have dE:=J0 (w:=X3) (o:=Ez b0 b1 b2 b3 b4 81) (o2:=Dz 0 a0 46);have eG:=J4 (w:=X3) (o:=Ez b0 b1 b2 b3 b4 81) (o2:=Dz 0 a0 46);have o4:=(q3.alloc (Ez b0 b1 b2 b3 b4 81)).alloc (Dz 0 a0 46);have iU:=o4.heap fF.out Oz;obtain⟨y0,y1,y2,y3,y4,y5⟩:=K7 dE;obtain⟨z0,z1,z2,z3⟩:=flt_facts eG;have bY:=Q3 (And.intro dE (And.intro eG (And.intro o4 iU)));have bK:Hid (gv+2<=X3.heap.size):=by have h1:=Q7 fF.out;have h2:=q3.size;exact Nat.le_trans h1 h2
 clear dE eG o4 q3;obtain⟨V4,bV⟩:∃ V,(X3.alloc (Ez b0 b1 b2 b3 b4 81)).alloc (Dz 0 a0 46)=V:=⟨_,rfl⟩
 obtain⟨gb,bD⟩:∃ g,X3.heap.size=g:=⟨_,rfl⟩
 rw[bV,bD] at bY y0 z0 z1;rw[bD] at bK;rw[bV] at iU;have dY:=Q3 (Hh.out.quiet (aH.out.trans bY.out.2.2.1));have c1:=dY.out.cells.1;rw[HMn.out] at c1;have c2:=(aH.out.trans bY.out.2.2.1).cell HR.out.1 Oz;clear y1 y2 y3 y4 y5 z1 z2 z3 iU;go_wp2_with fail;(try rw[bV]);(try rw[bD]);clear bV bD z0;refine wp_region_held_drew (S:=fun w'=>cq w' rb 0=some (Pq (s 0))/\cq w' (s 0) 0=some (.slice (some ⟨s 1,0,none⟩) M cw)/\cq w' gb 0=some (Iz b0)) (by kernel_rfl) ?hS61 (fun aB=>?rest61)
 case hS61=>exact⟨c2,c1,y0⟩
 obtain⟨Q0,hZ⟩:∃ Z,V4.drew=Z:=⟨_,rfl⟩
 have OQ:Out 0 0 V4 Q0:=by rw[<-hZ];exact(Out.refl 0 0 _).drew
 rw[hZ] at aB ⊢;clear hZ;refine tk 0 ?_;refine tk 1 ?_;refine tk 2 ?_;refine tk 3 ?_;refine tk 4 ?_;refine tk 5 ?_;refine tk 6 ?_;refine tk 7 ?_;refine tk 8 ?_;refine tk 9 ?_;refine tk 10 ?_;refine tk 11 ?_;refine tk 12 ?_;refine rd1 13 fun KK hK=>?_
 simp only[xa,xb,xc];have hrf:=dY.out.quiet OQ;have c5:=hrf.rw.cell (i:=a) Ha.out;have c6:=hrf.rw.frozen a;go_simp;clear c5 c6;obtain⟨hS1,o8⟩:=hrf.setW Ha.out x;obtain⟨Q1,hY⟩:∃ V,Q0.setCell ⟨s 1,a,none⟩ (Iz x)=V:=⟨_,rfl⟩
 rw[hY] at hS1 o8 ⊢;clear hY hrf;have HS1:=Q3 hS1;have hgbh:hi<=gv:=by have h1:=Hh.out.top;have h2:=aW.out;omega
 have HFe:=Q3 (o8.heap (OQ.heap bY.out.2.1 Oz) (.inr (by have:=bK.out;omega)));have HFr:=Q3 (o8.heap (OQ.heap bY.out.2.2.2 Oz) (.inr (by omega)));have fH:=Q3 ((((aH.out.trans bY.out.2.2.1).trans OQ).any lo hi).trans o8);have c9:=hS1.cells.1;rw[HMn.out] at c9;clear hS1;refine hK.out _ _ ⟨o8.cell aB.1 HR.out.2,c9,o8.cell aB.2.2 (.inr (by have:=bK.out;omega))⟩ fun aB=>?_
 clear o8 c9 hK KK;refine dn ?_;clear aB OQ;have f2:=J3 (x':=0) (y':=a0) HFr.out;have o2:=(Out.refl (gv+1) (gv+2) Q1).set2 (b:=gv+1) (o:=0) (o':=1) Lz (Iz 0) (Iz a0);obtain⟨z0,z1,z2,z3⟩:=flt_facts HFe.out;obtain⟨v0,v1,v2,v3⟩:=flt_facts HFr.out;have HE:=Q3 (And.intro f2 (And.intro (HS1.out.kept o2 (.inl (by omega))) (fH.out.then o2 (by have:=aW.out;omega))));clear f2 o2;go_wp2;exact bodyPost_ret (K5 Tryz.results27 rfl (J5 HE.out.1)) rfl ⟨rfl,HE.out.2.1,HE.out.2.2⟩
end
section
variable {w:World} {lo hi n cap:Nat} {s:Nat->Nat} {r:Raw}
def wrW (r:Raw) (a i v:Int):Nat->Int:=if q3a r a i=0 then z2p r.W (a+i).toNat v else r.W
theorem wrd0 {r:Raw} {n:Nat} {a i:Int} (hM:U7 n r) (h:q3a r a i=0):z4z r a=0/\∃ j:Nat,a+i=j/\j<64*n/\0<=a/\1<=i:=by
 unfold q3a at h;unfold z4z;cases hm:r.M a with
 | none=>rw[hm] at h;simp at h
 | some b=>
  rw[hm] at h;simp only at h ⊢;obtain⟨m1,m2,m3,m4⟩:=hM a b hm;by_cases hv:r.W a.toNat=B6 a b.1 b.2.1
  ·rw[if_pos hv] at h ⊢;by_cases hi:i<1\/b.2.1<=i
   ·rw[if_pos hi] at h;omega
   ·exact⟨rfl,(a+i).toNat,by omega,by omega,m1,by omega⟩
  ·rw[if_neg hv] at h;omega
theorem j7s (h:RawAt w lo hi s n cap r) (hM:U7 n r) (a i v:Int):Kz 83 #[Pq (s 14),Iz a,Iz i,Iz v] w fun e w'=>e=.returned (z7d (q3a r a i) (z4z r a))/\RawAt w' lo hi s n cap { r with W:=wrW r a i v }/\Out lo hi w w':=by
 have h0:Out 0 0 w (w.alloc (Dz 0 0 46)):=(Out.refl 0 0 w).alloc _;have hz:(w.alloc (Dz 0 0 46)).heap[w.heap.size]? = some (Dz 0 0 46):=heap_alloc_new _ _;have HZ:=Q3 hz;have H0:=Q3 h0;have HR:=Q3 (fun w' (o:Out 0 0 w w')=>h.quiet o);have HT:Hid (hi<=w.heap.size):=h.top;have HC:=Q3 (q1p (h.quiet h0) hM a i);unfold z7d at HC;by_cases hc:q3a r a i=0
 ·obtain⟨e2,j,hj,j1,j2,j3⟩:=wrd0 hM hc;have e3:wrW r a i v=z2p r.W (a+i).toNat v:=by unfold wrW;rw[if_pos hc]
  rw[hc,e2] at HC;rw[hc,e2,e3];have hn:=h.n2;have b1:(0:Int)<=a+i:=by omega
  have b2:a+i<((64*n:Nat):Int):=by omega
  have b3:((64*n:Nat):Int)<=262144:=by omega
  have J1:Hid ((a+i).toNat<64*n):=by show _<_;omega
  have NG:Hid (4<=w.heap.size):=h.tab.lt;have h11:s 11<w.heap.size:=by have:=(h.inn 11 (by omega)).2;have:=h.top;simp[ln] at *;omega
  generalize hm:64*n=m at *
  clear h hM h0 hz hc e2 e3 hj j1 hn;go_enter Tryz.func83,Tryz.ntmps83
  go_wp2_with (first
   | (go_at_call 144;refine HC.out.mono ?_;rintro e w1 ⟨rfl,ho⟩;obtain⟨q4,q5,q6,q7⟩:=flt_facts ((ho.alloc (Dz 0 0 46)).heap HZ.out z0);obtain⟨q0,q1,q2,q3⟩:=flt_facts (heap_alloc_new w1 (Dz 0 0 46));have HO:=Q3 (ho.alloc (Dz 0 0 46));obtain⟨c0,c1,c2,c3,c4,c5⟩:=(HR.out _ (H0.out.trans HO.out)).cells;have cU:=(HR.out _ (H0.out.trans HO.out)).words.cell (i:=(a+i).toNat) (by rw[hm];exact J1.out);have hfz:=(HR.out _ (H0.out.trans HO.out)).words.frozen (a+i).toNat;have n1:s 11 ≠ w1.heap.size:=(by have:=(H0.out.trans ho).size;omega);have n2:s 11 ≠ w.heap.size:=(by omega);have n3:w1.heap.size ≠ s 11:=(Ne.symm n1);have n4:w.heap.size ≠ s 11:=(Ne.symm n2);rw[hm] at c0;clear ho))
  have HP:=Q3 ((HR.out _ (H0.out.trans HO.out)).poke (a+i).toNat v);have HW:=Q3 ((HR.out _ (H0.out.trans HO.out)).wide (i:=11) (by omega) HP.out.2);have dD:s 11+1<=w.heap.size:=h11;refine z4m Tryz.results83 rfl rfl (J3 (HP.out.2.heap (HO.out.heap HZ.out z0) (by omega))) ⟨rfl,HP.out.1.kept ((Out.refl w.heap.size (w.heap.size+1) _).set2 z1 _ _) (.inl HT.out) (.inl NG.out),(((H0.out.trans HO.out).any lo hi).trans HW.out).set2 (.inr (Nat.le_refl _)) _ _⟩
 ·have e3:wrW r a i v=r.W:=by unfold wrW;rw[if_neg hc]
  rw[e3];have e4:(q3a r a i == 0)=false:=by simpa using hc
  generalize q3a r a i=u at *
  generalize z4z r a=y at *
  clear h hM h0 hz hc;go_enter Tryz.func83,Tryz.ntmps83
  go_wp2_with (first
   | (go_at_call 144;refine HC.out.mono ?_;rintro e w1 ⟨rfl,ho⟩;obtain⟨q4,q5,q6,q7⟩:=flt_facts ((ho.alloc (Dz u y 46)).heap HZ.out z0);obtain⟨q0,q1,q2,q3⟩:=flt_facts (heap_alloc_new w1 (Dz u y 46));have HO:=Q3 (ho.alloc (Dz u y 46));clear ho))
  refine z4m Tryz.results83 rfl rfl (J3 (HO.out.heap HZ.out z0)) ⟨rfl,(HR.out _ ((H0.out.trans HO.out).set2 (.inr (Nat.le_refl _)) _ _)),((H0.out.trans HO.out).set2 (.inr (Nat.le_refl _)) _ _).any _ _⟩
end
theorem x6j {n:Nat} {st:Sp} {l:List Int} (a:Nat):(z0m n st l).O a=if kpS l a then st.O a else noB:=by
 obtain⟨p1,p2,p3⟩:=z7x n (q7b n st (kpS l)) 8;exact congrFun p2 a
theorem z7w {n:Nat} {st:Sp} {l:List Int} (a:Nat):Y6 ((z0m n st l).O a)=(Y6 (st.O a) && kpS l a):=by
 rw[x6j];cases kpS l a with
 | true=>simp
 | false=>simp[j4u]
theorem j4y {n:Nat} {st:Sp} {l:List Int} (hi:Inv n st) (i:Nat):j1o (V5 n (Q6 n st) (kpS l) (64*n)) i=true ↔ ∃ a,Y6 ((z0m n st l).O a)=true/\a<=i/\i<a+Y8 (st.O a).2.1:=by
 unfold j1o;rw[List.any_eq_true];have hP:∀ a,(V5 n (Q6 n st) (kpS l) (64*n)).P a=(ob n st a && !(decide (a<64*n) && !kpS l a)):=fun a=>(G7 (n:=n) (r:=Q6 n st) (kp:=kpS l) (z0w st) (64*n) a).1
 have hM:∀ a,(V5 n (Q6 n st) (kpS l) (64*n)).P a=true->(V5 n (Q6 n st) (kpS l) (64*n)).M (a:Int)=obM st (a:Int):=fun a h=>(G7 (n:=n) (r:=Q6 n st) (kp:=kpS l) (z0w st) (64*n) a).2.1 (.inl h)
 have key:∀ a,(V5 n (Q6 n st) (kpS l) (64*n)).P a=Y6 ((z0m n st l).O a):=fun a=>by
  rw[hP,z7w,q4g hi];cases e:Y6 (st.O a) with
  | false=>rfl
  | true=>rw[show decide (a<64*n)=true from by simpa using (hi.objs a e).1];simp
 have hMM:∀ a,Y6 ((z0m n st l).O a)=true->(V5 n (Q6 n st) (kpS l) (64*n)).M (a:Int)=some (st.O a):=fun a h=>by
  rw[hM a (by rw[key];exact h)];rw[z7w,Bool.and_eq_true] at h;unfold obM;rw[show ((a:Int)).toNat=a from by omega,if_pos ⟨by omega,h.1⟩]
 constructor
 ·rintro⟨a,ha,hb⟩;rw[key,Bool.and_eq_true] at hb;rw[hMM a hb.1] at hb;exact⟨a,hb.1,by simp at ha;omega,by simpa using hb.2⟩
 ·rintro⟨a,ha,h1,h2⟩;refine⟨a,by simp;omega,?_⟩;rw[key,ha,hMM a ha];simpa using h2
theorem q5e {n:Nat} {st:Sp} (hi:Inv n st) {a:Nat} (ha:Y6 (st.O a)=true):(st.O a).2.1<=(Y8 (st.O a).2.1:Int)/\a+Y8 (st.O a).2.1<=64*n:=by
 obtain⟨h1,h2,h3⟩:=hi.objs a ha;have hz:=U3 h2;have hP:(Q6 n st).P a=true:=by show ob n st a=true;rw[q4g hi];exact ha
 obtain⟨b,hb⟩:=z0w st a hP;obtain⟨rfl,_⟩:=z4x hb;refine⟨?_,(z5y hi a _ hP hb).2.2.1⟩;by_cases h:(st.O a).2.1<=32
 ·rw[q0x h];have hc:=H7 hz.2.2.1 h;unfold wN;have:0<=W8 (ofV (st.O a).2.1):=by omega
  omega
 ·rw[q0w (by omega)];have:=q4w (s:=(st.O a).2.1) (by omega) hz.2.2.2;omega
end Go.Proofs.YtjgnogflgoihfaaGreatDoor
