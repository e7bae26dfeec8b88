import Derived.Test.YtjgnogflgoihfaaGreatDoorP25
set_option linter.unusedSimpArgs false
set_option linter.unusedVariables false
set_option maxHeartbeats 16000000
set_option maxRecDepth 100000
namespace Go.Proofs.YtjgnogflgoihfaaGreatDoor
open Go.RowKit
theorem x3j {r:Int} (h1:2<=r) (h2:r<=5):z1r r=26:=by
 have:r=2\/r=3\/r=4\/r=5:=by omega
 rcases this with e | e | e | e <;> rw[e] <;> rfl
theorem x1x {r:Int} (h:r<2\/5<r):z1r r=2:=by
 unfold z1r z2v;rw[if_neg];simp;omega
theorem j4c {a j:Nat} {k z:Int} {W:Nat->Int} (h1:1<=j) (hr:J6 k z j ≠ 1):z2p (dmW a k z W j) (a+j) (z1r (J6 k z j))=dmW a k z W (j+1):=by
 funext i
 rw[j4b h1];unfold z2p;by_cases e:i=a+j
 ·rw[if_pos e,if_pos ⟨e,hr⟩]
 ·rw[if_neg e,if_neg (fun h=>e h.1)]
theorem x3c {a j:Nat} {k z:Int} {W:Nat->Int} (h1:1<=j) (hr:J6 k z j=1):dmW a k z W j=dmW a k z W (j+1):=by
 funext i
 rw[j4b h1,if_neg (fun h=>h.2 hr)]
section
variable {w:World} {lo hi rb cw co n:Nat} {s:Nat->Nat} {st:Sp}
theorem q6k (k nn t:Int) (hbad:k=4\/(k ≠ 4/\U5 k nn=false)):Kz 22 #[Pq rb,Iz k,Iz nn,Iz t] w fun e w'=>e=.returned (.tuple #[Vz 0 0,Vz 24 0])/\Out 0 0 w w':=by
 have fV:=Q3 (J0 (w:=w) (o:=Dz 0 0 32) (o2:=Dz 0 0 46));have fF:=Q3 (J4 (w:=w) (o:=Dz 0 0 32) (o2:=Dz 0 0 46));have aH:=Q3 (((Out.refl 0 0 w).alloc (Dz 0 0 32)).alloc (Dz 0 0 46));obtain⟨gv,aN⟩:∃ g,w.heap.size=g:=⟨_,rfl⟩
 have aW:=Q3 aN;obtain⟨V2,aQ⟩:∃ V,(w.alloc (Dz 0 0 32)).alloc (Dz 0 0 46)=V:=⟨_,rfl⟩
 rw[aQ,aN] at fV fF;rw[aQ] at aH;rcases hbad with rfl | ⟨hk,hz⟩
 ·go_enter Tryz.func22,Tryz.ntmps22
  go_wp2_with fail;(try rw[aQ]);(try rw[aN]);clear aQ aN;refine(G3 4 nn _).mono ?_;rintro e X1 ⟨rfl,q1⟩;go_wp2_with fail;refine(G0 24 _).mono ?_;rintro e X5 ⟨rfl,q5⟩;have fV5:=(q1.trans q5).heap fV.out z0;have fK:=(q1.trans q5).heap fF.out z0;obtain⟨v0,v1,v2,v3⟩:=Q5 fV5;obtain⟨c0,c1,c2,c3⟩:=flt_facts fK;have e1:=G5 (x1:=0) (x2:=0) fV5;have o1:=(Out.refl gv (gv+1) X5).set2 (b:=gv) (o:=0) (o':=1) z1 (Iz 0) (Iz 0);have f1:=o1.heap fK (.inr (Nat.le_refl _));have f2:=J3 (x':=24) (y':=0) f1;have o2:=(Out.refl (gv+1) (gv+2) ((X5.setCell ⟨gv,0,none⟩ (Iz 0)).setCell ⟨gv,1,none⟩ (Iz 0))).set2 (b:=gv+1) (o:=0) (o':=1) z1 (Iz 24) (Iz 0);have e2:=o2.heap e1 (.inl (Nat.lt_succ_self _));have jA:=Q3 (And.intro e2 (And.intro f2 (((aH.out.trans (q1.trans q5)).then o1 (by have:=aW.out;omega)).then o2 (by have:=aW.out;omega))));clear e1 o1 f1 f2 o2 e2 fV5 fK;go_wp2;exact bodyPost_ret (J2 Tryz.results22 rfl rfl (U1 jA.out.1) (J5 jA.out.2.1)) rfl ⟨rfl,jA.out.2.2⟩
 ·have k4:(k == 4)=false:=by simpa using hk
  go_enter Tryz.func22,Tryz.ntmps22
  go_wp2_with fail;(try rw[aQ]);(try rw[aN]);clear aQ aN;refine(G3 k nn _).mono ?_;rintro e X1 ⟨rfl,q1⟩;rw[hz];go_wp2_with fail;refine(G0 24 _).mono ?_;rintro e X5 ⟨rfl,q5⟩;have fV5:=(q1.trans q5).heap fV.out z0;have fK:=(q1.trans q5).heap fF.out z0;obtain⟨v0,v1,v2,v3⟩:=Q5 fV5;obtain⟨c0,c1,c2,c3⟩:=flt_facts fK;have e1:=G5 (x1:=0) (x2:=0) fV5;have o1:=(Out.refl gv (gv+1) X5).set2 (b:=gv) (o:=0) (o':=1) z1 (Iz 0) (Iz 0);have f1:=o1.heap fK (.inr (Nat.le_refl _));have f2:=J3 (x':=24) (y':=0) f1;have o2:=(Out.refl (gv+1) (gv+2) ((X5.setCell ⟨gv,0,none⟩ (Iz 0)).setCell ⟨gv,1,none⟩ (Iz 0))).set2 (b:=gv+1) (o:=0) (o':=1) z1 (Iz 24) (Iz 0);have e2:=o2.heap e1 (.inl (Nat.lt_succ_self _));have jA:=Q3 (And.intro e2 (And.intro f2 (((aH.out.trans (q1.trans q5)).then o1 (by have:=aW.out;omega)).then o2 (by have:=aW.out;omega))));clear e1 o1 f1 f2 o2 e2 fV5 fK;go_wp2;exact bodyPost_ret (J2 Tryz.results22 rfl rfl (U1 jA.out.1) (J5 jA.out.2.1)) rfl ⟨rfl,jA.out.2.2⟩
theorem j0z (h:RfAt w lo hi s n cw co st) (hI:Inv n st) (hR:cq w rb 0=some (Pq (s 0))) (hro:rb<lo\/hi<=rb) (k nn t:Int) (hk:k ≠ 4) {z:Int} {a:Int} {ec fa:Int} (hz:U5 k nn=true) (hzv:Y9 k nn=z) (z1:-9223372036854775808<=z) (z2:z<=9223372036854775807) (hl:st.last<4611686018427387904) (ha:(alF n st k z t).1=a) (he:(alF n st k z t).2.1=ec) (hf:(alF n st k z t).2.2.1=fa) (fG:ec ≠ 0):Kz 22 #[Pq rb,Iz k,Iz nn,Iz t] w fun e w'=>e=.returned (.tuple #[Vz 0 0,Vz ec fa])/\RfAt w' lo hi s n cw co (alF n st k z t).2.2.2/\Out lo hi w w':=by
 have k4:(k == 4)=false:=by simpa using hk
 have Hh:=Q3 h;have HRb:=Q3 (And.intro hR hro);have gI:Hid (∀ X,Out 0 0 w X->Kz 60 #[Pq (s 0),Iz k,Iz z,Iz t] X fun e w'=>e=.returned (.tuple #[Iz a,Vz ec fa])/\RfAt w' lo hi s n cw co (alF n st k z t).2.2.2/\Out lo hi X w'):=fun X o=>by
  have q:=z1j (Hh.out.quiet o) hI k z t z1 z2 (by omega);rw[ha,he,hf] at q;exact q
 clear hk h hR hro;have oQ:(ec != 0)=true:=by simpa using fG
 generalize (alF n st k z t).2.2.2=S2 at *
 clear ha he hf fG hI z1 z2 hl;have fV:=Q3 (J0 (w:=w) (o:=Dz 0 0 32) (o2:=Dz 0 0 46));have fF:=Q3 (J4 (w:=w) (o:=Dz 0 0 32) (o2:=Dz 0 0 46));have aH:=Q3 (((Out.refl 0 0 w).alloc (Dz 0 0 32)).alloc (Dz 0 0 46));obtain⟨gv,aN⟩:∃ g,w.heap.size=g:=⟨_,rfl⟩
 have aW:=Q3 aN;obtain⟨V2,aQ⟩:∃ V,(w.alloc (Dz 0 0 32)).alloc (Dz 0 0 46)=V:=⟨_,rfl⟩
 rw[aQ,aN] at fV fF;rw[aQ] at aH;go_enter Tryz.func22,Tryz.ntmps22
 go_wp2_with fail;(try rw[aQ]);(try rw[aN]);clear aQ aN;refine(G3 k nn _).mono ?_;rintro e X1 ⟨rfl,q1⟩;rw[hz,hzv];have c9:=(aH.out.trans q1).cell HRb.out.1 Oz;have kZ:=Q3 (aH.out.trans q1);have HV1:=Q3 (q1.heap fV.out Oz);have pJ:=Q3 (q1.heap fF.out Oz);clear hz hzv q1;go_wp2_with fail;clear c9;refine(gI.out _ kZ.out).mono ?_;rintro e X3 ⟨rfl,S3,q3⟩;obtain⟨y0,y1,y2,y3⟩:=flt_facts (heap_alloc_new X3 (Dz ec fa 111));have hgi:hi<=gv:=by have h1:=Hh.out.top;have h2:=aW.out;omega
 have o4:=(Out.refl 0 0 X3).alloc (Dz ec fa 111);have HS4:=Q3 (S3.quiet o4);have HE4:=Q3 (((kZ.out.any lo hi).trans q3).trans (o4.any lo hi));have HV4:=Q3 (o4.heap (q3.heap HV1.out (.inr hgi)) Oz);have fM:=Q3 (o4.heap (q3.heap pJ.out (.inr (by omega))) Oz);clear S3 q3 o4 HV1 pJ kZ;go_wp2_with fail;clear y0 y1 y2 y3;refine(z0h _ _ _).mono ?_;rintro e X5 ⟨rfl,q5⟩;have hf6:=heap_alloc_new X5 (Dz ec fa 46);have o6:=q5.alloc (Dz ec fa 46);have HS6:=Q3 (HS4.out.quiet o6);have HE6:=Q3 (HE4.out.trans (o6.any lo hi));have eS:=Q3 (o6.heap HV4.out Oz);have iA:=Q3 (o6.heap fM.out Oz);have kM:Hid (gv+2<=X5.heap.size):=by have h1:=Q7 fM.out;have h2:=q5.size;exact Nat.le_trans h1 h2
 have HfE:=Q3 hf6;obtain⟨nC,mQ,mP,oI⟩:=flt_facts hf6;clear hf6 o6 q5 HS4 HE4 HV4 fM;go_wp2_with fail;obtain⟨V6,jE⟩:∃ V,X5.alloc (Dz ec fa 46)=V:=⟨_,rfl⟩
 obtain⟨gf,aE⟩:∃ g,X5.heap.size=g:=⟨_,rfl⟩
 rw[jE] at HS6 HE6 eS iA HfE;rw[aE] at HfE kM;(try rw[jE]);(try rw[aE]);clear jE aE nC mQ mP oI;have HVq:=Q3 eS.out;have HFq:=Q3 iA.out;have HEq:=Q3 HE6.out;have HSq:=Q3 HS6.out;obtain⟨x0,x1,_,_⟩:=flt_facts HfE.out;refine wp_region_held_drew (S:=fun w'=>cq w' gf 0=some (Iz ec)/\cq w' gf 1=some (Iz fa)) (by kernel_rfl) ?hS61 (fun aB=>?rest61)
 case hS61=>exact⟨x0,x1⟩
 obtain⟨Q0,hZ⟩:∃ Z,V6.drew=Z:=⟨_,rfl⟩
 have OQ:Out 0 0 V6 Q0:=by rw[<-hZ];exact(Out.refl 0 0 _).drew
 rw[hZ] at aB ⊢;clear hZ;have HV5:=Q3 (OQ.heap HVq.out Oz);have fC:=Q3 (OQ.heap HFq.out Oz);have iG:=Q3 (HEq.out.trans (OQ.any lo hi));have kX:=Q3 (HSq.out.quiet OQ);clear OQ;refine tk 0 ?_;refine tk 1 ?_;refine rd1 2 fun KK hK=>?_
 simp only[xa,xb,xc];obtain⟨v0,v1,v2,v3⟩:=Q5 HV5.out;go_simp;clear v0 v1 v2 v3;have e1:=G5 (x1:=0) (x2:=0) HV5.out;obtain⟨Q1,hY,q8⟩:=s2z Q0 gv 0 0
 rw[hY] at e1 ⊢;clear hY;have HV8:=Q3 e1;have cW:=Q3 (q8.heap fC.out (.inr (Nat.le_refl _)));have HE8:=Q3 (iG.out.then q8 (by have:=aW.out;omega));have HS8:=Q3 (kX.out.kept q8 (.inl hgi));clear e1;refine hK.out _ _ ⟨q8.cell aB.1 (.inr (by have:=kM.out;omega)),q8.cell aB.2 (.inr (by have:=kM.out;omega))⟩ fun aB=>?_
 clear q8 hK KK;refine rd1 3 fun KK hK=>?_
 simp only[xa,xb,xc];obtain⟨c0,c1,c2,c3⟩:=flt_facts cW.out;go_simp;clear c0 c1 c2 c3;have f2:=J3 (x':=ec) (y':=fa) cW.out;obtain⟨Q2,hY⟩:∃ V,(Q1.setCell ⟨gv+1,0,none⟩ (Iz ec)).setCell ⟨gv+1,1,none⟩ (Iz fa)=V:=⟨_,rfl⟩
 have q9:Out (gv+1) (gv+2) Q1 Q2:=by rw[<-hY];exact(Out.refl _ _ _).set2 Lz _ _
 rw[hY] at f2 ⊢;clear hY;have fI:=Q3 f2;have HV9:=Q3 (q9.heap HV8.out (.inl (Nat.lt_succ_self _)));have pK:=Q3 (HE8.out.then q9 (by have:=aW.out;omega));have mY:=Q3 (HS8.out.kept q9 (.inl (by omega)));clear f2;refine hK.out _ _ ⟨q9.cell aB.1 (.inr (by have:=kM.out;omega)),q9.cell aB.2 (.inr (by have:=kM.out;omega))⟩ fun aB=>?_
 clear q9 hK KK;refine dn ?_;clear aB;go_wp2;exact bodyPost_ret (J2 Tryz.results22 rfl rfl (U1 HV9.out) (J5 fI.out)) rfl ⟨rfl,mY.out,pK.out⟩
theorem j8p (h:RfAt w lo hi s n cw co st) (hI:Inv n st) (hR:cq w rb 0=some (Pq (s 0))) (hro:rb<lo\/hi<=rb) (k nn t:Int) (hk:k ≠ 4) {z:Int} {a:Nat} {fa:Int} (hz:U5 k nn=true) (hzv:Y9 k nn=z) (z1:-9223372036854775808<=z) (z2:z<=9223372036854775807) (hl:st.last<4611686018427387904) (ha:(alF n st k z t).1=(a:Int)) (he:(alF n st k z t).2.1=0) (hf:(alF n st k z t).2.2.1=fa) (hzz:1<=z/\z<=1024/\(a:Int)+z<=64*n):Kz 22 #[Pq rb,Iz k,Iz nn,Iz t] w fun e w'=>e=.returned (.tuple #[Vz 2 (a:Int),Vz 0 fa])/\RfAt w' lo hi s n cw co (z1q (alF n st k z t).2.2.2 (dmW a k z (alF n st k z t).2.2.2.W z.toNat))/\Out lo hi w w':=by
 have k4:(k == 4)=false:=by simpa using hk
 have Hh:=Q3 h;have HRb:=Q3 (And.intro hR hro);have gI:Hid (∀ X,Out 0 0 w X->Kz 60 #[Pq (s 0),Iz k,Iz z,Iz t] X fun e w'=>e=.returned (.tuple #[Iz (a:Int),Vz 0 fa])/\RfAt w' lo hi s n cw co (alF n st k z t).2.2.2/\Out lo hi X w'):=fun X o=>by
  have q:=z1j (Hh.out.quiet o) hI k z t z1 z2 (by omega);rw[ha,he,hf] at q;exact q
 clear hk h hR hro;have Hz:=Q3 hzz;generalize (alF n st k z t).2.2.2=S2 at *
 clear ha he hf hI z1 z2 hl hzz;have fV:=Q3 (J0 (w:=w) (o:=Dz 0 0 32) (o2:=Dz 0 0 46));have fF:=Q3 (J4 (w:=w) (o:=Dz 0 0 32) (o2:=Dz 0 0 46));have aH:=Q3 (((Out.refl 0 0 w).alloc (Dz 0 0 32)).alloc (Dz 0 0 46));obtain⟨gv,aN⟩:∃ g,w.heap.size=g:=⟨_,rfl⟩
 have aW:=Q3 aN;obtain⟨V2,aQ⟩:∃ V,(w.alloc (Dz 0 0 32)).alloc (Dz 0 0 46)=V:=⟨_,rfl⟩
 rw[aQ,aN] at fV fF;rw[aQ] at aH;go_enter Tryz.func22,Tryz.ntmps22
 go_wp2_with fail;(try rw[aQ]);(try rw[aN]);clear aQ aN;refine(G3 k nn _).mono ?_;rintro e X1 ⟨rfl,q1⟩;rw[hz,hzv];have c9:=(aH.out.trans q1).cell HRb.out.1 Oz;have kZ:=Q3 (aH.out.trans q1);have HV1:=Q3 (q1.heap fV.out Oz);have pJ:=Q3 (q1.heap fF.out Oz);clear hz hzv q1;go_wp2_with fail;clear c9;refine(gI.out _ kZ.out).mono ?_;rintro e X3 ⟨rfl,S3,q3⟩;obtain⟨y0,y1,y2,y3⟩:=flt_facts (heap_alloc_new X3 (Dz 0 fa 111));have hgi:hi<=gv:=by have h1:=Hh.out.top;have h2:=aW.out;omega
 have o4:=(Out.refl 0 0 X3).alloc (Dz 0 fa 111);have HS4:=Q3 (S3.quiet o4);have HE4:=Q3 (((kZ.out.any lo hi).trans q3).trans (o4.any lo hi));have HV4:=Q3 (o4.heap (q3.heap HV1.out (.inr hgi)) Oz);have fM:=Q3 (o4.heap (q3.heap pJ.out (.inr (by omega))) Oz);clear S3 q3 o4 HV1 pJ kZ;go_wp2_with fail;clear y0 y1 y2 y3;refine(z0h _ _ _).mono ?_;rintro e X5 ⟨rfl,q5⟩;have hf6:=heap_alloc_new X5 (Dz 0 fa 46);have o6:=q5.alloc (Dz 0 fa 46);have HS6:=Q3 (HS4.out.quiet o6);have HE6:=Q3 (HE4.out.trans (o6.any lo hi));have eS:=Q3 (o6.heap HV4.out Oz);have iA:=Q3 (o6.heap fM.out Oz);have kM:Hid (gv+2<=X5.heap.size):=by have h1:=Q7 fM.out;have h2:=q5.size;exact Nat.le_trans h1 h2
 have HfE:=Q3 hf6;obtain⟨nC,mQ,mP,oI⟩:=flt_facts hf6;clear hf6 o6 q5 HS4 HE4 HV4 fM;go_wp2_with fail;obtain⟨V6,jE⟩:∃ V,X5.alloc (Dz 0 fa 46)=V:=⟨_,rfl⟩
 obtain⟨gf,aE⟩:∃ g,X5.heap.size=g:=⟨_,rfl⟩
 rw[jE] at HS6 HE6 eS iA HfE;rw[aE] at HfE kM;(try rw[jE]);(try rw[aE]);clear jE aE nC mQ mP oI;obtain⟨Z,rfl⟩:∃ Z:Nat,z=(Z:Int):=⟨z.toNat,by have:=Hz.out;omega⟩
 go_loopw [15] (fun y wr=>∃ j:Nat,1<=j/\j<=Z/\y=Iz (j:Int)/\RfAt wr lo hi s n cw co (z1q S2 (dmW a k (Z:Int) S2.W j))/\Out lo hi V6 wr) (fun y _=>Z-(intOf y).toNat)
 case atStart=>exact⟨1,Nat.le_refl _,by have:=Hz.out;omega,rfl,by rw[j8u];exact HS6.out,Out.refl _ _ _⟩
 case round=>
  obtain⟨j,j1,j2,rfl,hS,hO⟩:=hrel;have cH:=Q3 (And.intro hS hO);clear hS hO;have j0:(0:Int)<=(j:Int):=by omega
  by_cases hj:j<Z
  ·have g1:(j:Int)<(Z:Int):=by omega
   have zb:(Z:Int)<=1024:=Hz.out.2.1;go_wp2_with fail;refine(U8 k (Z:Int) (j:Int) _ (by omega) (by omega)).mono ?_;rintro e X8 ⟨rfl,q8⟩;have gG:=Q3 (cH.out.1.quiet q8);have fH:=Q3 (cH.out.2.trans (q8.any lo hi));clear q8;obtain⟨aK,aX⟩:∃ r,J6 k (Z:Int) (j:Int)=r:=⟨_,rfl⟩
   rw[aX];have Hrl:=Q3 aX;clear aX;have ha64:a+j<64*n:=by have:=Hz.out.2.2;omega
   obtain⟨M,hM⟩:∃ M,64*n=M:=⟨_,rfl⟩
   have c0:=gG.out.cells.1;rw[hM] at c0;have c5:=gG.out.rw.cell (i:=a+j) ha64;have c6:=gG.out.rw.frozen (a+j);have c9:=(HE6.out.trans fH.out).cell HRb.out.1 HRb.out.2;have m1:(a:Int)+(j:Int)<(M:Int):=by omega
   have m0:(0:Int)<=(a:Int)+(j:Int):=by omega
   have hn:=gG.out.n2;have m2:(a:Int)+(j:Int)<=9223372036854775807:=by omega
   have m3:((a:Int)+(j:Int)).toNat=a+j:=by omega
   clear hn hM;by_cases r2:2<=aK/\aK<=5
   ·obtain⟨r3,r4⟩:=r2;have hr3:(2:Int)<=aK:=r3;have mY:=Q3 (gG.out.setW ha64 26);have hW9:z2p (z1q S2 (dmW a k (Z:Int) S2.W j)).W (a+j) 26=dmW a k (Z:Int) S2.W (j+1):=by
     have h:=j4c (a:=a) (k:=k) (z:=(Z:Int)) (W:=S2.W) j1 (by rw[Hrl.out];omega);rw[Hrl.out] at h;rw[x3j r3 r4] at h;exact h
    have HW9:=Q3 hW9;clear hW9;go_wp2_with fail;go_roundw
    case rel=>exact⟨j+1,by omega,by omega,by go_num,by have h:=mY.out.1;rw[HW9.out] at h;exact h,fH.out.trans mY.out.2⟩
    case measure=>simp[intOf];omega
   ·by_cases r1:aK=1
    ·subst r1;clear c5 c6;go_wp2_with fail;go_roundw
     case rel=>exact⟨j+1,by omega,by omega,by go_num,by rw[<-x3c j1 Hrl.out];exact gG.out,fH.out⟩
     case measure=>simp[intOf];omega
    ·have iR:(aK != 1)=true:=by simpa using r1
     have r5:aK<2\/5<aK:=by omega
     have R5:=Q3 r5;rcases r5 with r5 | r5
     ·have mY:=Q3 (gG.out.setW ha64 2);have hW9:z2p (z1q S2 (dmW a k (Z:Int) S2.W j)).W (a+j) 2=dmW a k (Z:Int) S2.W (j+1):=by
       have h:=j4c (a:=a) (k:=k) (z:=(Z:Int)) (W:=S2.W) j1 (by rw[Hrl.out];omega);rw[Hrl.out] at h;rw[x1x R5.out] at h;exact h
      have HW9:=Q3 hW9;clear hW9;go_wp2_with fail;go_roundw
      case rel=>exact⟨j+1,by omega,by omega,by go_num,by have h:=mY.out.1;rw[HW9.out] at h;exact h,fH.out.trans mY.out.2⟩
      case measure=>simp[intOf];omega
     ·have r6:(2:Int)<=aK:=by omega
      have mY:=Q3 (gG.out.setW ha64 2);have hW9:z2p (z1q S2 (dmW a k (Z:Int) S2.W j)).W (a+j) 2=dmW a k (Z:Int) S2.W (j+1):=by
       have h:=j4c (a:=a) (k:=k) (z:=(Z:Int)) (W:=S2.W) j1 (by rw[Hrl.out];omega);rw[Hrl.out] at h;rw[x1x R5.out] at h;exact h
      have HW9:=Q3 hW9;clear hW9;go_wp2_with fail;go_roundw
      case rel=>exact⟨j+1,by omega,by omega,by go_num,by have h:=mY.out.1;rw[HW9.out] at h;exact h,fH.out.trans mY.out.2⟩
      case measure=>simp[intOf];omega
  ·have g1:(Z:Int)<=(j:Int):=by omega
   have ej:j=Z:=by omega
   subst ej;have HVq:=Q3 (cH.out.2.heap eS.out (.inr hgi));have HFq:=Q3 (cH.out.2.heap iA.out (.inr (by omega)));have HEq:=Q3 (HE6.out.trans cH.out.2);have HSq:=Q3 cH.out.1;obtain⟨x0,x1,_,_⟩:=flt_facts (cH.out.2.heap HfE.out (.inr (by have:=kM.out;omega)));go_wp2_with fail;refine wp_region_held_drew (S:=fun w'=>cq w' gf 0=some (Iz 0)/\cq w' gf 1=some (Iz fa)) (by kernel_rfl) ?hS66 (fun aB=>?rest66)
   case hS66=>exact⟨x0,x1⟩
   obtain⟨Q0,hZ⟩:∃ Z,wr.drew=Z:=⟨_,rfl⟩
   have OQ:Out 0 0 wr Q0:=by rw[<-hZ];exact(Out.refl 0 0 _).drew
   rw[hZ] at aB ⊢;clear hZ;have HV5:=Q3 (OQ.heap HVq.out Oz);have fC:=Q3 (OQ.heap HFq.out Oz);have iG:=Q3 (HEq.out.trans (OQ.any lo hi));have kX:=Q3 (HSq.out.quiet OQ);clear OQ;refine tk 0 ?_;refine tk 1 ?_;refine tk 2 ?_;refine rd1 3 fun KK hK=>?_
   simp only[xa,xb,xc];obtain⟨v0,v1,v2,v3⟩:=Q5 HV5.out;go_simp;clear v0 v1 v2 v3;have e1:=G5 (x1:=2) (x2:=(a:Int)) HV5.out;obtain⟨Q1,hY,q8⟩:=s2z Q0 gv 2 (a:Int)
   rw[hY] at e1 ⊢;clear hY;have HV8:=Q3 e1;have cW:=Q3 (q8.heap fC.out (.inr (Nat.le_refl _)));have HE8:=Q3 (iG.out.then q8 (by have:=aW.out;omega));have HS8:=Q3 (kX.out.kept q8 (.inl hgi));clear e1;refine hK.out _ _ ⟨q8.cell aB.1 (.inr (by have:=kM.out;omega)),q8.cell aB.2 (.inr (by have:=kM.out;omega))⟩ fun aB=>?_
   clear q8 hK KK;refine rd1 4 fun KK hK=>?_
   simp only[xa,xb,xc];obtain⟨c0,c1,c2,c3⟩:=flt_facts cW.out;go_simp;clear c0 c1 c2 c3;have f2:=J3 (x':=0) (y':=fa) cW.out;obtain⟨Q2,hY⟩:∃ V,(Q1.setCell ⟨gv+1,0,none⟩ (Iz 0)).setCell ⟨gv+1,1,none⟩ (Iz fa)=V:=⟨_,rfl⟩
   have q9:Out (gv+1) (gv+2) Q1 Q2:=by rw[<-hY];exact(Out.refl _ _ _).set2 Lz _ _
   rw[hY] at f2 ⊢;clear hY;have fI:=Q3 f2;have HV9:=Q3 (q9.heap HV8.out (.inl (Nat.lt_succ_self _)));have pK:=Q3 (HE8.out.then q9 (by have:=aW.out;omega));have mY:=Q3 (HS8.out.kept q9 (.inl (by omega)));clear f2;refine hK.out _ _ ⟨q9.cell aB.1 (.inr (by have:=kM.out;omega)),q9.cell aB.2 (.inr (by have:=kM.out;omega))⟩ fun aB=>?_
   clear q9 hK KK;refine dn ?_;clear aB;go_wp2;exact bodyPost_ret (J2 Tryz.results22 rfl rfl (U1 HV9.out) (J5 fI.out)) rfl ⟨rfl,(by rw[show ((j:Int)).toNat=j from by omega];exact mY.out),pK.out⟩
end
section
variable {P:Program} {ops:Array Oper} {Q:Exit->Act->World->Prop} {md:Region.Mode} {S:World->Prop} {z:Nat}
def z3s (P:Program) (md:Region.Mode) (ops:Array Oper) (Q:Exit->Act->World->Prop) (S:World->Prop) (z:Nat):Nat->Array Bool->Act->World->Prop
 | 0,aL,a,w=>Region.ready md ops aL=[]/\Q .normal a w
 | fuel+1,aL,a,w=>
  (Region.ready md ops aL=[]->Q .normal a w) ∧
  ∀ i ∈ Region.ready md ops aL,wpOp P ops Q i (fun a' w'=>(i ≠ z->S w')/\z3s P md ops Q S z fuel (aL.setIfInBounds i true) a' w') a w
theorem q1c:∀ (fuel:Nat) (aL:Array Bool) (a:Act) (w:World),z3s P md ops Q S z fuel aL a w->wpAny P md ops Q fuel aL a w
 | 0,_,_,_,h=>h
 | fuel+1,_,_,_,h=>⟨h.1,fun i hi=>wpOp_mono (fun a' w' h'=>q1c fuel _ a' w' h'.2) (h.2 i hi)⟩
def z8g (md:Region.Mode) (ops:Array Oper) (z i:Nat):Bool:=match ops[z]? with
 | some oz=>oz.after.any fun e=>Region.binds md e && e.on == i
 | none=>false
theorem j2k {i:Nat} (h:z8g md ops z i=true):∃ oz,ops[z]? = some oz/\∃ e ∈ oz.after,Region.binds md e=true/\e.on=i:=by
 unfold z8g at h;cases hz:ops[z]? with
 | none=>rw[hz] at h;cases h
 | some oz=>
  rw[hz] at h;refine⟨oz,rfl,?_⟩;dsimp only at h;rw[Array.any_eq_true'] at h;obtain⟨e,he,h2⟩:=h;simp at h2;exact⟨e,he,h2.1,h2.2⟩
theorem q5q {i:Nat} {oi:Oper} {v:Value} (hi:ops[i]? = some oi) (hsel:∀ (j:Nat) (o:Oper) cs b,ops[j]? = some o->o.op ≠ .select cs b)
  (hQ:∀ c a w,Q (.panic c) (a.put oi.dst v) w->Q (.panic c) a w) (hz:∃ oz,ops[z]? = some oz/\∃ e ∈ oz.after,Region.binds md e=true/\e.on=i) :
  ∀ (fuel:Nat) (aL:Array Bool) (a:Act) (w:World),
   (∀ j oj,ops[j]? = some oj->j ≠ i->aL.getD j true=false->(∀ e ∈ oj.after,Region.binds md e=true->e.on ≠ i)->oi.apart ops oj=true) ->
   i ∈ Region.ready md ops aL->YieldsIf P ops S oi v a->S w ->
   z3s P md ops Q S z fuel (aL.setIfInBounds i true) (a.put oi.dst v) w->z3s P md ops Q S z (fuel+1) aL a w:=by
 intro fuel;induction fuel with
 | zero=>
  intro aL a w _ hr hy hS H;refine⟨fun h=>(by rw[h] at hr;cases hr),fun j hj=>?_⟩;by_cases hji:j=i
  ·subst hji;exact hy.wpOp hi hS ⟨fun _=>hS,H⟩
  ·have:=ready_mono hj hji;rw[H.1] at this;cases this
 | succ fuel ih=>
  intro aL a w hfree hr hy hS H;refine⟨fun h=>(by rw[h] at hr;cases hr),fun j hj=>?_⟩;by_cases hji:j=i
  ·subst hji;exact hy.wpOp hi hS ⟨fun _=>hS,H⟩
  ·have h1:=H.2 j (ready_mono hj hji);obtain⟨hjun,oj,hoj,hall⟩:=mem_ready.1 hj;have hnot:∀ e ∈ oj.after,Region.binds md e=true->e.on ≠ i:=fun e he hb heq=>by
    have h1:=hall e he hb;have h0:=(mem_ready.1 hr).1;rw[heq] at h1;rcases Nat.lt_or_ge i aL.size with h' | h'
    ·simp[h'] at h0 h1;rw[h0] at h1;cases h1
    ·simp[Array.getElem?_eq_none h'] at h1
   have hjz:j ≠ z:=by
    intro e;subst e;obtain⟨oz,hoz,e,he,oQ,he3⟩:=hz;rw[hoj] at hoz;cases hoz;exact hnot e he oQ he3
   have h2:=wpOp_putIf hoj (hfree j oj hoj hji hjun hnot) (fun cs b=>hsel i oi cs b hi) (fun cs b=>hsel j oj cs b hoj) hQ hy h1;have hfree':∀ k ok,ops[k]? = some ok->k ≠ i->(aL.setIfInBounds j true).getD k true=false ->
     (∀ e ∈ ok.after,Region.binds md e=true->e.on ≠ i)->oi.apart ops ok=true:=fun k ok hk hki hun iJ=>by
    refine hfree k ok hk hki ?_ iJ;by_cases hjk:j=k
    ·subst hjk;exact hjun
    ·rw[getD_set_ne true hjk] at hun;exact hun
   refine wpOp_mono (fun a' w' h3=>⟨h3.2.1,ih (aL.setIfInBounds j true) a' w' hfree' (ready_mono hr (Ne.symm hji)) h3.1 (h3.2.1 hjz) ?_⟩) h2;rw[Array.setIfInBounds_comm _ _ hji];exact h3.2.2
theorem q8r {i:Nat} {oi:Oper} {v:Value} {fuel:Nat} {aL:Array Bool} {a:Act} {w:World} (hi:ops[i]? = some oi)
  (hs:Region.noSelect ops=true) (hf:Region.free md ops aL i=true) (hr:(Region.ready md ops aL).contains i=true) (hz:z8g md ops z i=true)
  (hQ:∀ c a w,Q (.panic c) (a.put oi.dst v) w->Q (.panic c) a w) (hy:YieldsIf P ops S oi v a) (hS:S w)
  (h:z3s P md ops Q S z fuel (aL.setIfInBounds i true) (a.put oi.dst v) w):z3s P md ops Q S z (fuel+1) aL a w:=
 q5q hi (Region.noSelect_spec hs) hQ (j2k hz) fuel aL a w (Region.free_spec hi hf) (by simpa using hr) hy hS h
theorem tkT (i:Nat) {oi:Oper} {v:Value} {fuel:Nat} {aL l':Array Bool} {a a':Act} {w:World}
  (h:z3s P md ops Q S z fuel l' a' w) (hi:ops[i]? = some oi:=by exact rfl) (hs:Region.noSelect ops=true:=by kernel_rfl) (hf:Region.free md ops aL i=true:=by kernel_rfl) (hr:(Region.ready md ops aL).contains i=true:=by kernel_rfl) (hz:z8g md ops z i=true:=by kernel_rfl)
  (hw:Region.wanted oi (yielded ops a.tmps)=true:=by rfl)
  (hy:∀ w,S w->(execOp a.eval oi).run P w=.ok (.value v) w:=by intro w hSw;(try dsimp only at hSw);go_simp;(try with_reducible rfl))
  (hS:S w:=by assumption)
  (hl:aL.setIfInBounds i true=l':=by (try simp only[List.setIfInBounds_toArray,List.set_cons_zero,List.set_cons_succ]);exact rfl)
  (ha:a.put oi.dst v=a':=by (try simp only[Act.put,xa,xb,xc,xd,xe,xf]);exact rfl)
  (hQ:∀ c a w,Q (.panic c) (a.put oi.dst v) w->Q (.panic c) a w:=by exact fun _ _ _ h=>h):z3s P md ops Q S z (fuel+1) aL a w:=by
 subst hl ha;exact q8r hi hs hf hr hz hQ (Or.inl ⟨hw,hy⟩) hS h
theorem q8q {o:Oper} {fuel:Nat} {aL:Array Bool} {a:Act} {w:World} (hr:Region.ready md ops aL=[z]) (ho:ops[z]? = some o)
  (h:∀ K':Act->World->Prop,Shut (∀ a w,z3s P md ops Q S z fuel (aL.setIfInBounds z true) a w->K' a w)->if Region.wanted o (yielded ops a.tmps)=true then Oper.wp P o a w K' Q else K' (a.put o.dst undef) w):z3s P md ops Q S z (fuel+1) aL a w:=by
 refine⟨fun h0=>(by rw[hr] at h0;cases h0),fun j hj=>?_⟩;rw[hr] at hj;simp at hj;subst hj;exact wpOp_step ho (fun K' hK=>h K' (fun a w hW=>hK a w ⟨fun e=>absurd rfl e,hW⟩))
theorem q8p {aL:Array Bool} {a:Act} {w:World} (hr:Region.ready md ops aL=[]) (h:Q .normal a w) :
  ∀ fuel,z3s P md ops Q S z fuel aL a w
 | 0=>⟨hr,h⟩
 | _+1=>⟨fun _=>h,by rw[hr];simp⟩
theorem q8t {id:Nat} {a:Act} {w:World} (hm:P.follows .mixedOrders=true) (hS:S w.drew)
  (h:S w.drew->z3s P .any ops Q S z ops.size (Array.replicate ops.size false) a w.drew):(Code.region id ops true).wp P Q a w:=
 wp_region_any hm (q1c _ _ _ _ (h hS))
end
section
variable {w:World} {lo hi rb cw co n:Nat} {s:Nat->Nat} {st:Sp}
theorem z8q {p:Option Addr} {bl cb:Nat} (hz:U5 4 bl=false):Kz 65 #[Pq rb,.slice p bl cb] w fun e w'=>e=.returned (.tuple #[Vz 0 0,Vz 24 0])/\Out 0 0 w w':=by
 have fV:=Q3 (J0 (w:=w) (o:=Dz 0 0 32) (o2:=Dz 0 0 46));have fF:=Q3 (J4 (w:=w) (o:=Dz 0 0 32) (o2:=Dz 0 0 46));have aH:=Q3 (((Out.refl 0 0 w).alloc (Dz 0 0 32)).alloc (Dz 0 0 46));obtain⟨gv,aN⟩:∃ g,w.heap.size=g:=⟨_,rfl⟩
 have aW:=Q3 aN;obtain⟨V2,aQ⟩:∃ V,(w.alloc (Dz 0 0 32)).alloc (Dz 0 0 46)=V:=⟨_,rfl⟩
 rw[aQ,aN] at fV fF;rw[aQ] at aH;go_enter Tryz.func65,Tryz.ntmps65
 go_wp2_with fail;(try rw[aQ]);(try rw[aN]);clear aQ aN;refine(G3 4 (bl:Int) _).mono ?_;rintro e X1 ⟨rfl,q1⟩;rw[hz];go_wp2_with fail;refine(G0 24 _).mono ?_;rintro e X5 ⟨rfl,q5⟩;have fV5:=(q1.trans q5).heap fV.out z0;have fK:=(q1.trans q5).heap fF.out z0;obtain⟨v0,v1,v2,v3⟩:=Q5 fV5;obtain⟨c0,c1,c2,c3⟩:=flt_facts fK;have e1:=G5 (x1:=0) (x2:=0) fV5;have o1:=(Out.refl gv (gv+1) X5).set2 (b:=gv) (o:=0) (o':=1) z1 (Iz 0) (Iz 0);have f1:=o1.heap fK (.inr (Nat.le_refl _));have f2:=J3 (x':=24) (y':=0) f1;have o2:=(Out.refl (gv+1) (gv+2) ((X5.setCell ⟨gv,0,none⟩ (Iz 0)).setCell ⟨gv,1,none⟩ (Iz 0))).set2 (b:=gv+1) (o:=0) (o':=1) z1 (Iz 24) (Iz 0);have e2:=o2.heap e1 (.inl (Nat.lt_succ_self _));have jA:=Q3 (And.intro e2 (And.intro f2 (((aH.out.trans (q1.trans q5)).then o1 (by have:=aW.out;omega)).then o2 (by have:=aW.out;omega))));clear e1 o1 f1 f2 o2 e2 fV5 fK;go_wp2;exact bodyPost_ret (J2 Tryz.results65 rfl rfl (U1 jA.out.1) (J5 jA.out.2.1)) rfl ⟨rfl,jA.out.2.2⟩
theorem z9x (h:RfAt w lo hi s n cw co st) (hI:Inv n st) (hR:cq w rb 0=some (Pq (s 0))) (hro:rb<lo\/hi<=rb) {p:Option Addr} {bl cb:Nat} {z:Int} {a:Int} {ec fa:Int} (hz:U5 4 bl=true) (hzv:Y9 4 bl=z) (z1:-9223372036854775808<=z) (z2:z<=9223372036854775807) (hl:st.last<4611686018427387904) (ha:(alF n st 4 z 0).1=a) (he:(alF n st 4 z 0).2.1=ec) (hf:(alF n st 4 z 0).2.2.1=fa) (fG:ec ≠ 0):Kz 65 #[Pq rb,.slice p bl cb] w fun e w'=>e=.returned (.tuple #[Vz 0 0,Vz ec fa])/\RfAt w' lo hi s n cw co (alF n st 4 z 0).2.2.2/\Out lo hi w w':=by
 have Hh:=Q3 h;have HRb:=Q3 (And.intro hR hro);have gI:Hid (∀ X,Out 0 0 w X->Kz 60 #[Pq (s 0),Iz 4,Iz z,Iz 0] X fun e w'=>e=.returned (.tuple #[Iz a,Vz ec fa])/\RfAt w' lo hi s n cw co (alF n st 4 z 0).2.2.2/\Out lo hi X w'):=fun X o=>by
  have q:=z1j (Hh.out.quiet o) hI 4 z 0 z1 z2 (by omega);rw[ha,he,hf] at q;exact q
 clear h hR hro;have oQ:(ec != 0)=true:=by simpa using fG
 generalize (alF n st 4 z 0).2.2.2=S2 at *
 clear ha he hf fG hI z1 z2 hl;have fV:=Q3 (J0 (w:=w) (o:=Dz 0 0 32) (o2:=Dz 0 0 46));have fF:=Q3 (J4 (w:=w) (o:=Dz 0 0 32) (o2:=Dz 0 0 46));have aH:=Q3 (((Out.refl 0 0 w).alloc (Dz 0 0 32)).alloc (Dz 0 0 46));obtain⟨gv,aN⟩:∃ g,w.heap.size=g:=⟨_,rfl⟩
 have aW:=Q3 aN;obtain⟨V2,aQ⟩:∃ V,(w.alloc (Dz 0 0 32)).alloc (Dz 0 0 46)=V:=⟨_,rfl⟩
 rw[aQ,aN] at fV fF;rw[aQ] at aH;go_enter Tryz.func65,Tryz.ntmps65
 go_wp2_with fail;(try rw[aQ]);(try rw[aN]);clear aQ aN;refine(G3 4 (bl:Int) _).mono ?_;rintro e X1 ⟨rfl,q1⟩;rw[hz,hzv];have c9:=(aH.out.trans q1).cell HRb.out.1 Oz;have kZ:=Q3 (aH.out.trans q1);have HV1:=Q3 (q1.heap fV.out Oz);have pJ:=Q3 (q1.heap fF.out Oz);clear hz hzv q1;go_wp2_with fail;clear c9;refine(gI.out _ kZ.out).mono ?_;rintro e X3 ⟨rfl,S3,q3⟩;obtain⟨y0,y1,y2,y3⟩:=flt_facts (heap_alloc_new X3 (Dz ec fa 111));have hgi:hi<=gv:=by have h1:=Hh.out.top;have h2:=aW.out;omega
 have o4:=(Out.refl 0 0 X3).alloc (Dz ec fa 111);have HS4:=Q3 (S3.quiet o4);have HE4:=Q3 (((kZ.out.any lo hi).trans q3).trans (o4.any lo hi));have HV4:=Q3 (o4.heap (q3.heap HV1.out (.inr hgi)) Oz);have fM:=Q3 (o4.heap (q3.heap pJ.out (.inr (by omega))) Oz);clear S3 q3 o4 HV1 pJ kZ;go_wp2_with fail;clear y0 y1 y2 y3;refine(z0h _ _ _).mono ?_;rintro e X5 ⟨rfl,q5⟩;have hf6:=heap_alloc_new X5 (Dz ec fa 46);have o6:=q5.alloc (Dz ec fa 46);have HS6:=Q3 (HS4.out.quiet o6);have HE6:=Q3 (HE4.out.trans (o6.any lo hi));have eS:=Q3 (o6.heap HV4.out Oz);have iA:=Q3 (o6.heap fM.out Oz);have kM:Hid (gv+2<=X5.heap.size):=by have h1:=Q7 fM.out;have h2:=q5.size;exact Nat.le_trans h1 h2
 have HfE:=Q3 hf6;obtain⟨nC,mQ,mP,oI⟩:=flt_facts hf6;clear hf6 o6 q5 HS4 HE4 HV4 fM;go_wp2_with fail;obtain⟨V6,jE⟩:∃ V,X5.alloc (Dz ec fa 46)=V:=⟨_,rfl⟩
 obtain⟨gf,aE⟩:∃ g,X5.heap.size=g:=⟨_,rfl⟩
 rw[jE] at HS6 HE6 eS iA HfE;rw[aE] at HfE kM;(try rw[jE]);(try rw[aE]);clear jE aE nC mQ mP oI;have HVq:=Q3 eS.out;have HFq:=Q3 iA.out;have HEq:=Q3 HE6.out;have HSq:=Q3 HS6.out;obtain⟨x0,x1,_,_⟩:=flt_facts HfE.out;refine wp_region_held_drew (S:=fun w'=>cq w' gf 0=some (Iz ec)/\cq w' gf 1=some (Iz fa)) (by kernel_rfl) ?hS72 (fun aB=>?rest72)
 case hS72=>exact⟨x0,x1⟩
 obtain⟨Q0,hZ⟩:∃ Z,V6.drew=Z:=⟨_,rfl⟩
 have OQ:Out 0 0 V6 Q0:=by rw[<-hZ];exact(Out.refl 0 0 _).drew
 rw[hZ] at aB ⊢;clear hZ;have HV5:=Q3 (OQ.heap HVq.out Oz);have fC:=Q3 (OQ.heap HFq.out Oz);have iG:=Q3 (HEq.out.trans (OQ.any lo hi));have kX:=Q3 (HSq.out.quiet OQ);clear OQ;refine tk 0 ?_;refine tk 1 ?_;refine rd1 2 fun KK hK=>?_
 simp only[xa,xb,xc];obtain⟨v0,v1,v2,v3⟩:=Q5 HV5.out;go_simp;clear v0 v1 v2 v3;have e1:=G5 (x1:=0) (x2:=0) HV5.out;obtain⟨Q1,hY,q8⟩:=s2z Q0 gv 0 0
 rw[hY] at e1 ⊢;clear hY;have HV8:=Q3 e1;have cW:=Q3 (q8.heap fC.out (.inr (Nat.le_refl _)));have HE8:=Q3 (iG.out.then q8 (by have:=aW.out;omega));have HS8:=Q3 (kX.out.kept q8 (.inl hgi));clear e1;refine hK.out _ _ ⟨q8.cell aB.1 (.inr (by have:=kM.out;omega)),q8.cell aB.2 (.inr (by have:=kM.out;omega))⟩ fun aB=>?_
 clear q8 hK KK;refine rd1 3 fun KK hK=>?_
 simp only[xa,xb,xc];obtain⟨c0,c1,c2,c3⟩:=flt_facts cW.out;go_simp;clear c0 c1 c2 c3;have f2:=J3 (x':=ec) (y':=fa) cW.out;obtain⟨Q2,hY⟩:∃ V,(Q1.setCell ⟨gv+1,0,none⟩ (Iz ec)).setCell ⟨gv+1,1,none⟩ (Iz fa)=V:=⟨_,rfl⟩
 have q9:Out (gv+1) (gv+2) Q1 Q2:=by rw[<-hY];exact(Out.refl _ _ _).set2 Lz _ _
 rw[hY] at f2 ⊢;clear hY;have fI:=Q3 f2;have HV9:=Q3 (q9.heap HV8.out (.inl (Nat.lt_succ_self _)));have pK:=Q3 (HE8.out.then q9 (by have:=aW.out;omega));have mY:=Q3 (HS8.out.kept q9 (.inl (by omega)));clear f2;refine hK.out _ _ ⟨q9.cell aB.1 (.inr (by have:=kM.out;omega)),q9.cell aB.2 (.inr (by have:=kM.out;omega))⟩ fun aB=>?_
 clear q9 hK KK;refine dn ?_;clear aB;go_wp2;exact bodyPost_ret (J2 Tryz.results65 rfl rfl (U1 HV9.out) (J5 fI.out)) rfl ⟨rfl,mY.out,pK.out⟩
theorem q3g (h:RfAt w lo hi s n cw co st) (hI:Inv n st) (hR:cq w rb 0=some (Pq (s 0))) (hro:rb<lo\/hi<=rb) {p:Option Addr} {bs:List Int} {cb:Nat} (hB:z1m w p bs) (hpo:bs ≠ []->∀ g cK,p=some ⟨g,cK,none⟩->g<lo\/hi<=g) {z:Int} {a:Nat} {fa:Int} (hz:U5 4 bs.length=true) (hzv:Y9 4 bs.length=z) (z1:-9223372036854775808<=z) (z2:z<=9223372036854775807) (hl:st.last<4611686018427387904) (ha:(alF n st 4 z 0).1=(a:Int)) (he:(alF n st 4 z 0).2.1=0) (hf:(alF n st 4 z 0).2.2.1=fa) (hll:bs.length<=4096) (hza:a+2+(bs.length+7) / 8<=64*n) (hzero:∀ i,a+2<=i->i<a+2+(bs.length+7) / 8->(alF n st 4 z 0).2.2.2.W i=0):Kz 65 #[Pq rb,.slice p bs.length cb] w fun e w'=>e=.returned (.tuple #[Vz 2 (a:Int),Vz 0 fa])/\RfAt w' lo hi s n cw co (z1q (alF n st 4 z 0).2.2.2 (mtW n a (alF n st 4 z 0).2.2.2.W bs))/\Out lo hi w w':=by
 have Hh:=Q3 h;have HRb:=Q3 (And.intro hR hro);have gI:Hid (∀ X,Out 0 0 w X->Kz 60 #[Pq (s 0),Iz 4,Iz z,Iz 0] X fun e w'=>e=.returned (.tuple #[Iz (a:Int),Vz 0 fa])/\RfAt w' lo hi s n cw co (alF n st 4 z 0).2.2.2/\Out lo hi X w'):=fun X o=>by
  have q:=z1j (Hh.out.quiet o) hI 4 z 0 z1 z2 (by omega);rw[ha,he,hf] at q;exact q
 clear h hR hro;generalize (alF n st 4 z 0).2.2.2=S2 at *
 have Hz:=Q3 (And.intro hza hzero);have HBy:=Q3 (And.intro hB hpo);have hli:(bs.length:Int)<=4096:=by omega
 obtain⟨bl,hbl⟩:∃ bl,bs.length=bl:=⟨_,rfl⟩
 rw[hbl] at hli hz hzv ⊢;have Hbl:=Q3 hbl;clear ha he hf hI z1 z2 hl hza hzero hB hpo hll hbl;have fV:=Q3 (J0 (w:=w) (o:=Dz 0 0 32) (o2:=Dz 0 0 46));have fF:=Q3 (J4 (w:=w) (o:=Dz 0 0 32) (o2:=Dz 0 0 46));have aH:=Q3 (((Out.refl 0 0 w).alloc (Dz 0 0 32)).alloc (Dz 0 0 46));obtain⟨gv,aN⟩:∃ g,w.heap.size=g:=⟨_,rfl⟩
 have aW:=Q3 aN;obtain⟨V2,aQ⟩:∃ V,(w.alloc (Dz 0 0 32)).alloc (Dz 0 0 46)=V:=⟨_,rfl⟩
 rw[aQ,aN] at fV fF;rw[aQ] at aH;go_enter Tryz.func65,Tryz.ntmps65
 go_wp2_with fail;(try rw[aQ]);(try rw[aN]);clear aQ aN;refine(G3 4 (bl:Int) _).mono ?_;rintro e X1 ⟨rfl,q1⟩;rw[hz,hzv];have c9:=(aH.out.trans q1).cell HRb.out.1 Oz;have kZ:=Q3 (aH.out.trans q1);have HV1:=Q3 (q1.heap fV.out Oz);have pJ:=Q3 (q1.heap fF.out Oz);clear hz hzv q1;go_wp2_with fail;clear c9;refine(gI.out _ kZ.out).mono ?_;rintro e X3 ⟨rfl,S3,q3⟩;obtain⟨y0,y1,y2,y3⟩:=flt_facts (heap_alloc_new X3 (Dz 0 fa 111));have hgi:hi<=gv:=by have h1:=Hh.out.top;have h2:=aW.out;omega
 have o4:=(Out.refl 0 0 X3).alloc (Dz 0 fa 111);have HS4:=Q3 (S3.quiet o4);have HE4:=Q3 (((kZ.out.any lo hi).trans q3).trans (o4.any lo hi));have HV4:=Q3 (o4.heap (q3.heap HV1.out (.inr hgi)) Oz);have fM:=Q3 (o4.heap (q3.heap pJ.out (.inr (by omega))) Oz);clear S3 q3 o4 HV1 pJ kZ;go_wp2_with fail;clear y0 y1 y2 y3;refine(z0h _ _ _).mono ?_;rintro e X5 ⟨rfl,q5⟩;have hf6:=heap_alloc_new X5 (Dz 0 fa 46);have o6:=q5.alloc (Dz 0 fa 46);have HS6:=Q3 (HS4.out.quiet o6);have HE6:=Q3 (HE4.out.trans (o6.any lo hi));have eS:=Q3 (o6.heap HV4.out Oz);have iA:=Q3 (o6.heap fM.out Oz);have kM:Hid (gv+2<=X5.heap.size):=by have h1:=Q7 fM.out;have h2:=q5.size;exact Nat.le_trans h1 h2
 have HfE:=Q3 hf6;obtain⟨nC,mQ,mP,oI⟩:=flt_facts hf6;clear hf6 o6 q5 HS4 HE4 HV4 fM;have ha1:a+1<64*n:=by have:=Hz.out.1;omega
 obtain⟨M,hM⟩:∃ M,64*n=M:=⟨_,rfl⟩
 have HMn:=Q3 hM;have c0:=HS6.out.cells.1;rw[hM] at c0;have c5:=HS6.out.rw.cell (i:=a+1) ha1;have c6:=HS6.out.rw.frozen (a+1);have c9:=HE6.out.cell HRb.out.1 HRb.out.2;have m1:(a:Int)+1<(M:Int):=by omega
 have hn:=HS6.out.n2;have m2:(a:Int)+1<=9223372036854775807:=by omega
 have m3:((a:Int)+1).toNat=a+1:=by omega
 have HS7:=Q3 (HS6.out.setW ha1 (bl:Int));clear hn;go_wp2_with fail;obtain⟨V7,hV7⟩:∃ V,(X5.alloc (Dz 0 fa 46)).setCell ⟨s 1,a+1,none⟩ (Iz (bl:Int))=V:=⟨_,rfl⟩
 obtain⟨gf,aE⟩:∃ g,X5.heap.size=g:=⟨_,rfl⟩
 have HV7:=Q3 (HS7.out.2.heap eS.out (.inr hgi));have HF7:=Q3 (HS7.out.2.heap iA.out (.inr (by omega)));have HfE7:=Q3 (HS7.out.2.heap HfE.out (.inr (by have:=kM.out;omega)));have HE7:=Q3 (HE6.out.trans HS7.out.2);rw[hV7] at HS7 HV7 HF7 HfE7 HE7 ⊢;rw[aE] at HfE7 kM;(try rw[aE]);have HS8:Hid (RfAt V7 lo hi s n cw co (z1q S2 (dtW a S2.W bs bl))):=by
  have h:=HS7.out.1;have e:z2p S2.W (a+1) (bl:Int)=dtW a S2.W bs bl:=by
   funext i
   rw[<-Hbl.out,j8w Hz.out.2 i];rfl
  rw[e] at h;exact h
 clear hV7 aE HS6 HE6 eS iA HfE HS7 c0 c5 c6 c9 m1 m2 m3 nC mQ mP oI;go_loopw [11] (fun y wr=>∃ j:Nat,j<=bl/\y=Iz ((j:Int)-1)/\RfAt wr lo hi s n cw co (z1q S2 (dtW a S2.W bs j))/\Out lo hi V7 wr) (fun y _=>(intOf y+1).toNat)
 case atStart=>exact⟨bl,Nat.le_refl _,rfl,HS8.out,Out.refl _ _ _⟩
 case round=>
  obtain⟨j,j2,rfl,hS,hO⟩:=hrel;have cH:=Q3 (And.intro hS hO);clear hS hO;by_cases hj:1<=j
  ·obtain⟨k,rfl⟩:∃ k,j=k+1:=⟨j-1,by omega⟩
   rw[show (((k+1:Nat):Int)-1)=(k:Int) from by omega];have k0:(0:Int)<=(k:Int):=by omega
   have k1:(k:Int)<(bl:Int):=by omega
   obtain⟨b,hb⟩:∃ b,bs[k]? = some b:=⟨_,List.getElem?_eq_getElem (by have:=Hbl.out;omega)⟩
   have hbb:=HBy.out.1.1 b (List.mem_of_getElem? hb);rcases HBy.out.1.2 with e | ⟨g,cK,rfl,hcb⟩
   ·rw[e] at hb;simp at hb
   have mS:=HBy.out.2 (fun e0=>by rw[e0] at hb;simp at hb) g cK rfl;have c7:=(HE7.out.trans cH.out.2).cell (hcb k b hb) mS;obtain⟨e8,he8⟩:∃ e,k / 8=e:=⟨_,rfl⟩
   have ha64:a+2+e8<64*n:=by have:=Hz.out.1;have:=Hbl.out;omega
   have c0:=cH.out.1.cells.1;rw[HMn.out] at c0;have c5:=cH.out.1.rw.cell (i:=a+2+e8) ha64;obtain⟨x,hx⟩:∃ x,dtW a S2.W bs (k+1) (a+2+e8)=x:=⟨_,rfl⟩
   have c5:cq wr (s 1) (a+2+e8)=some (Iz x):=by refine c5.trans ?_;show some (Value.int .i64 (dtW a S2.W bs (k+1) (a+2+e8)))=_;rw[hx]
   have c9:=(HE7.out.trans cH.out.2).cell HRb.out.1 HRb.out.2;have hn:=cH.out.1.n2;have hq8:Int.tdiv (k:Int) 8=(e8:Int):=by rw[Int.tdiv_eq_ediv_of_nonneg (by omega)];omega
   have hwj:IntKind.i64.wrap (e8:Int)=(e8:Int):=by rw[IntKind.wrap_i64];omega
   have hwr2:IntKind.i64.wrap ((a:Int)+2)=(a:Int)+2:=by rw[IntKind.wrap_i64];omega
   have hwr3:IntKind.i64.wrap ((a:Int)+2+(e8:Int))=(a:Int)+2+(e8:Int):=by rw[IntKind.wrap_i64];omega
   have m1:(a:Int)+2+(e8:Int)<(M:Int):=by have:=HMn.out;omega
   have m0:(0:Int)<=(a:Int)+2+(e8:Int):=by omega
   have m3:((a:Int)+2+(e8:Int)).toNat=a+2+e8:=by omega
   clear hcb hn;go_wp2_with fail;refine q8t (S:=fun w'=>cq w' rb 0=some (Pq (s 0))/\cq w' (s 0) 0=some (.slice (some ⟨s 1,0,none⟩) M cw)/\cq w' (s 1) (a+2+e8)=some (Iz x)/\cq w' g (cK+k)=some (.int .u8 b)) (z:=34) (by kernel_rfl) ?hS77 (fun aB=>?rest77)
   case hS77=>exact⟨c9,c0,c5,c7⟩
   obtain⟨Q0,hZ⟩:∃ Z,wr.drew=Z:=⟨_,rfl⟩
   have OQ:Out 0 0 wr Q0:=by rw[<-hZ];exact(Out.refl 0 0 _).drew
   rw[hZ] at aB ⊢;clear hZ;refine tkT 0 ?_;refine tkT 1 ?_;refine tkT 2 ?_;refine tkT 3 ?_;refine tkT 4 ?_;refine tkT 5 ?_;refine tkT 6 ?_;refine tkT 7 ?_;refine tkT 8 ?_;refine tkT 9 ?_;refine tkT 10 ?_;refine tkT 11 ?_;refine tkT 12 ?_;refine tkT 13 ?_;refine tkT 14 ?_;refine tkT 15 ?_;refine tkT 16 ?_;refine tkT 17 ?_;refine tkT 18 ?_;refine tkT 19 ?_;refine tkT 20 ?_;refine tkT 21 ?_;refine tkT 22 ?_;refine tkT 23 ?_;refine tkT 24 ?_;refine tkT 25 ?_;refine tkT 26 ?_;refine tkT 27 ?_;refine tkT 28 ?_;refine tkT 29 ?_;refine tkT 30 ?_;refine tkT 31 ?_;refine tkT 32 ?_;refine tkT 33 ?_;refine q8q (by kernel_rfl) rfl (fun KK hK=>?_);simp only[xa,xb,xc];have hrf:=cH.out.1.quiet OQ;have c5':=hrf.rw.cell (i:=a+2+e8) ha64;have c6:=hrf.rw.frozen (a+2+e8);go_simp;clear c5' c6;have hv:IntKind.i64.wrap (IntKind.i64.wrap (x*256)+IntKind.i64.wrap b)=wrap64 (x*256+b):=by
    rw[IntKind.wrap_i64,IntKind.wrap_i64,IntKind.wrap_i64];unfold wrap64;omega
   rw[hv];have mY:=Q3 (hrf.setW ha64 (wrap64 (x*256+b)));obtain⟨Q1,hY⟩:∃ V,Q0.setCell ⟨s 1,a+2+e8,none⟩ (Iz (wrap64 (x*256+b)))=V:=⟨_,rfl⟩
   rw[hY] at mY ⊢;clear hY hv hrf;have iZ:=Q3 (cH.out.2.trans ((OQ.any lo hi).trans mY.out.2));have HS10:Hid (RfAt Q1 lo hi s n cw co (z1q S2 (dtW a S2.W bs k))):=by
    have h:=mY.out.1;have e:z2p (z1q S2 (dtW a S2.W bs (k+1))).W (a+2+e8) (wrap64 (x*256+b))=dtW a S2.W bs k:=by
     funext i
     rw[x3f hb i,he8,hx];rfl
    rw[e] at h;exact h
   refine hK.out _ _ ?_;clear hK KK;(try simp only[Act.put,xa,xb,xc,xd,xe,xf]);refine q8p (by kernel_rfl) ?_ _;clear c0 c5 c7 c9 mY;go_wp2_with fail;go_roundw
   case rel=>exact⟨k,by omega,rfl,HS10.out,iZ.out⟩
   case measure=>simp[intOf]
  ·have ej:j=0:=by omega
   subst ej;have HVq:=Q3 (cH.out.2.heap HV7.out (.inr hgi));have HFq:=Q3 (cH.out.2.heap HF7.out (.inr (by omega)));have HEq:=Q3 (HE7.out.trans cH.out.2);have HSq:=Q3 cH.out.1;rw[x5z Hz.out.1] at HSq;obtain⟨x0,x1,_,_⟩:=flt_facts (cH.out.2.heap HfE7.out (.inr (by have:=kM.out;omega)));go_wp2_with fail;refine wp_region_held_drew (S:=fun w'=>cq w' gf 0=some (Iz 0)/\cq w' gf 1=some (Iz fa)) (by kernel_rfl) ?hS112 (fun aB=>?rest112)
   case hS112=>exact⟨x0,x1⟩
   obtain⟨Q0,hZ⟩:∃ Z,wr.drew=Z:=⟨_,rfl⟩
   have OQ:Out 0 0 wr Q0:=by rw[<-hZ];exact(Out.refl 0 0 _).drew
   rw[hZ] at aB ⊢;clear hZ;have HV5:=Q3 (OQ.heap HVq.out Oz);have fC:=Q3 (OQ.heap HFq.out Oz);have iG:=Q3 (HEq.out.trans (OQ.any lo hi));have kX:=Q3 (HSq.out.quiet OQ);clear OQ;refine tk 0 ?_;refine tk 1 ?_;refine tk 2 ?_;refine rd1 3 fun KK hK=>?_
   simp only[xa,xb,xc];obtain⟨v0,v1,v2,v3⟩:=Q5 HV5.out;go_simp;clear v0 v1 v2 v3;have e1:=G5 (x1:=2) (x2:=(a:Int)) HV5.out;obtain⟨Q1,hY,q8⟩:=s2z Q0 gv 2 (a:Int)
   rw[hY] at e1 ⊢;clear hY;have HV8:=Q3 e1;have cW:=Q3 (q8.heap fC.out (.inr (Nat.le_refl _)));have HE8:=Q3 (iG.out.then q8 (by have:=aW.out;omega));have HS8:=Q3 (kX.out.kept q8 (.inl hgi));clear e1;refine hK.out _ _ ⟨q8.cell aB.1 (.inr (by have:=kM.out;omega)),q8.cell aB.2 (.inr (by have:=kM.out;omega))⟩ fun aB=>?_
   clear q8 hK KK;refine rd1 4 fun KK hK=>?_
   simp only[xa,xb,xc];obtain⟨c0,c1,c2,c3⟩:=flt_facts cW.out;go_simp;clear c0 c1 c2 c3;have f2:=J3 (x':=0) (y':=fa) cW.out;obtain⟨Q2,hY⟩:∃ V,(Q1.setCell ⟨gv+1,0,none⟩ (Iz 0)).setCell ⟨gv+1,1,none⟩ (Iz fa)=V:=⟨_,rfl⟩
   have q9:Out (gv+1) (gv+2) Q1 Q2:=by rw[<-hY];exact(Out.refl _ _ _).set2 Lz _ _
   rw[hY] at f2 ⊢;clear hY;have fI:=Q3 f2;have HV9:=Q3 (q9.heap HV8.out (.inl (Nat.lt_succ_self _)));have pK:=Q3 (HE8.out.then q9 (by have:=aW.out;omega));have mY:=Q3 (HS8.out.kept q9 (.inl (by omega)));clear f2;refine hK.out _ _ ⟨q9.cell aB.1 (.inr (by have:=kM.out;omega)),q9.cell aB.2 (.inr (by have:=kM.out;omega))⟩ fun aB=>?_
   clear q9 hK KK;refine dn ?_;clear aB;go_wp2;exact bodyPost_ret (J2 Tryz.results65 rfl rfl (U1 HV9.out) (J5 fI.out)) rfl ⟨rfl,mY.out,pK.out⟩
end
end Go.Proofs.YtjgnogflgoihfaaGreatDoor
