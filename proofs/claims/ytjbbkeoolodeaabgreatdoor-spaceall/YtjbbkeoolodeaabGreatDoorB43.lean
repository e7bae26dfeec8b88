import Derived.Test.YtjbbkeoolodeaabGreatDoorB25
import Derived.Test.YtjbbkeoolodeaabGreatDoorB26
import Derived.Test.YtjbbkeoolodeaabGreatDoorB27
import Derived.Test.YtjbbkeoolodeaabGreatDoorB42
import Derived.Test.YtjbbkeoolodeaabGreatDoorB23
import Derived.Test.YtjbbkeoolodeaabGreatDoorB41
namespace Go.Proofs.YtjbbkeoolodeaabGreatDoor
open Go.RowKit
set_option linter.unusedVariables false
set_option maxRecDepth 100000
set_option maxHeartbeats 16000000
set_option linter.unusedSimpArgs false
def ASt (B b:Nat) (V:Nat->Value) (X:Nat->List Value) (C:Nat->Nat->Nat × (Nat->Nat->Int)) (col:Nat->Nat) (w:World) (F0 F1 F2:Nat) (wr:World) (i k:Nat):Prop:=
 ∃ V' X' col' p',Kp B wr b V' X' C col' none p'/\(p' 0<=i/\p' 1<=i/\p' 2<=k)/\(∀ j,j<8->V' j=V j/\X' j=X j)/\(((X' 8).length=F0+8*i/\(X' 11).length=F0+8*i)/\((X' 9).length=F1+8*i/\(X' 12).length=F1+8*i)/\((X' 10).length=F2+8*k/\(X' 13).length=F2+8*k))/\Fix col col' w wr
theorem j2g {B b:Nat} {w:World} {V:Nat->Value} {X:Nat->List Value} {C:Nat->Nat->Nat × (Nat->Nat->Int)} {col:Nat->Nat} {N0 N2 F0 F1 F2:Nat}
  (h:Kp B w b V X C col none (fun _=>0)) (hl:x0v X N0 N2 F0 F1 F2) (hN:N0<=40/\N2<=40/\F0<=7000/\F1<=7000/\F2<=7000) :
  Calls Tryz.prog 45 #[.pointer (some ⟨b,2,none⟩)] w fun e w'=>e=.returned (.bool true)/\ASt B b V X C col w F0 F1 F2 w' N0 N2:=by
 obtain⟨⟨l2,l3,l4,l5,l6,l7⟩,lf0,lf1,lf2⟩:=hl;obtain⟨aS2,cS2,eS2,rS2⟩:=F5 (h.own 2 (by omega) (by omega));have z2:=h.cell 2 (by omega);rw[l2] at eS2 rS2;rw[eS2] at z2;have HZ2:=Z0 z2;have HR2:=Z0 rS2;have HE2:=Z0 eS2;have HL2:=Z0 l2;clear z2 rS2 eS2 l2;obtain⟨aS3,cS3,eS3,rS3⟩:=F5 (h.own 3 (by omega) (by omega));have z3:=h.cell 3 (by omega);rw[l3] at eS3 rS3;rw[eS3] at z3;have HZ3:=Z0 z3;have HR3:=Z0 rS3;have HE3:=Z0 eS3;have HL3:=Z0 l3;clear z3 rS3 eS3 l3;obtain⟨aS4,cS4,eS4,rS4⟩:=F5 (h.own 4 (by omega) (by omega));have z4:=h.cell 4 (by omega);rw[l4] at eS4 rS4;rw[eS4] at z4;have HZ4:=Z0 z4;have HR4:=Z0 rS4;have HE4:=Z0 eS4;have HL4:=Z0 l4;clear z4 rS4 eS4 l4;obtain⟨aS5,cS5,eS5,rS5⟩:=F5 (h.own 5 (by omega) (by omega));have z5:=h.cell 5 (by omega);rw[l5] at eS5 rS5;rw[eS5] at z5;have HZ5:=Z0 z5;have HR5:=Z0 rS5;have HE5:=Z0 eS5;have HL5:=Z0 l5;clear z5 rS5 eS5 l5;obtain⟨aS6,cS6,eS6,rS6⟩:=F5 (h.own 6 (by omega) (by omega));have z6:=h.cell 6 (by omega);rw[l6] at eS6 rS6;rw[eS6] at z6;have HZ6:=Z0 z6;have HR6:=Z0 rS6;have HE6:=Z0 eS6;have HL6:=Z0 l6;clear z6 rS6 eS6 l6;obtain⟨aS7,cS7,eS7,rS7⟩:=F5 (h.own 7 (by omega) (by omega));have z7:=h.cell 7 (by omega);rw[l7] at eS7 rS7;rw[eS7] at z7;have HZ7:=Z0 z7;have HR7:=Z0 rS7;have HE7:=Z0 eS7;have HL7:=Z0 l7;clear z7 rS7 eS7 l7;have HK:=Z0 h;have HF:=Z0 (And.intro lf0 (And.intro lf1 lf2));have HN:=Z0 hN;have n2:(N0:Int)<=40:=by omega
 have n3:(N2:Int)<=40:=by omega
 clear h lf0 lf1 lf2 hN;go_enter Tryz.func45,Tryz.ntmps45
 go_wp2_with fail;go_loopw [3] (fun y wr=>∃ i:Nat,i<=N0/\y=.int .i64 (i:Int)/\Out 0 0 w wr) (fun y _=>N0-(intOf y).toNat)
 case atStart=>exact⟨0,Nat.zero_le _,rfl,Out.refl _ _ _⟩
 case round=>
  obtain⟨i,i1,rfl,ho⟩:=hrel;have HO:=Z0 ho;have d2:=ho.cell HZ2.out z0;have b0:(0:Int)<=(i:Int):=by omega
  by_cases hi:i<N0
  ·have b1:(i:Int)<(N0:Int):=by omega
   have d3:=ho.cell HZ3.out z0;have d4:=ho.cell HZ4.out z0;have d5:=ho.cell HZ5.out z0;obtain⟨g2,rfl,r2⟩:=HR2.out (by omega);obtain⟨v2,h2⟩:∃ v,(X 2)[i]? = some v:=⟨_,List.getElem?_eq_getElem (by have:=HL2.out;omega)⟩
   obtain⟨g3,rfl,r3⟩:=HR3.out (by omega);obtain⟨v3,h3⟩:∃ v,(X 3)[i]? = some v:=⟨_,List.getElem?_eq_getElem (by have:=HL3.out;omega)⟩
   obtain⟨g4,rfl,r4⟩:=HR4.out (by omega);obtain⟨v4,h4⟩:∃ v,(X 4)[i]? = some v:=⟨_,List.getElem?_eq_getElem (by have:=HL4.out;omega)⟩
   obtain⟨g5,rfl,r5⟩:=HR5.out (by omega);obtain⟨v5,h5⟩:∃ v,(X 5)[i]? = some v:=⟨_,List.getElem?_eq_getElem (by have:=HL5.out;omega)⟩
   have q2:=HK.out.lf 0 i v2 (by omega) (Nat.zero_le _) h2;have q3:=HK.out.wr 0 i v3 (by omega) h3;have q4:=HK.out.lf 1 i v4 (by omega) (Nat.zero_le _) h4;have q5:=HK.out.wr 1 i v5 (by omega) h5;obtain⟨a2,c2,rfl⟩:=OwnF.shape (t:=0) q2.1;obtain⟨a3,c3,e3,r3'⟩:=id q3;subst e3;obtain⟨a4,c4,rfl⟩:=OwnF.shape (t:=1) q4.1;obtain⟨a5,c5,e5,r5'⟩:=id q5;subst e5;clear r3' r5';have e2:=ho.cell (r2 i _ h2) z0;have e3:=ho.cell (r3 i _ h3) z0;have e4:=ho.cell (r4 i _ h4) z0;have e5:=ho.cell (r5 i _ h5) z0;have HS0:Hid (∀ W,Out 0 0 w W->Calls Tryz.prog 84 #[.slice a2 (C 0 i).1 c2,.slice a3 (C 0 i).1 c3] W fun e w'=>e=.returned (.bool true)/\Out 0 0 W w'):=fun W o=>z1k ((OwnF.el (t:=0) q2.1).quiet o) (q3.el.quiet o) (by have:=q2.2.1;omega)
   have HS1:Hid (∀ W,Out 0 0 w W->Calls Tryz.prog 85 #[.slice a4 (C 1 i).1 c4,.slice a5 (C 1 i).1 c5] W fun e w'=>e=.returned (.bool true)/\Out 0 0 W w'):=fun W o=>z0r ((OwnF.el (t:=1) q4.1).quiet o) (q5.el.quiet o) (by have:=q4.2.1;omega)
   clear q2 q3 q4 q5 h2 h3 h4 h5 r2 r3 r4 r5;generalize (C 0 i).1=m0 at *
   generalize (C 1 i).1=m1 at *
   clear ho;go_wp2_with fail;refine wp_region_held_drew (S:=fun w'=>w'.cell? ⟨b,2,none⟩=some (.slice (some ⟨g2,0,none⟩) N0 cS2)/\w'.cell? ⟨g2,i,none⟩=some (.slice a2 m0 c2)/\w'.cell? ⟨b,3,none⟩=some (.slice (some ⟨g3,0,none⟩) N0 cS3)/\w'.cell? ⟨g3,i,none⟩=some (.slice a3 m0 c3)/\w'.cell? ⟨b,4,none⟩=some (.slice (some ⟨g4,0,none⟩) N0 cS4)/\w'.cell? ⟨g4,i,none⟩=some (.slice a4 m1 c4)/\w'.cell? ⟨b,5,none⟩=some (.slice (some ⟨g5,0,none⟩) N0 cS5)/\w'.cell? ⟨g5,i,none⟩=some (.slice a5 m1 c5)/\Out 0 0 w w') (by kernel_rfl) ?hS1 (fun hHeld=>?rest1)
   case hS1=>exact⟨d2,e2,d3,e3,d4,e4,d5,e5,HO.out.drew⟩
   refine tk 0 ?_;refine tk 1 ?_;refine tk 2 ?_;refine tk 3 ?_;refine tk 4 ?_;refine tk 5 ?_;refine tk 6 ?_;refine tk 7 ?_;refine tk 8 ?_;refine tk 9 ?_;refine tk 10 ?_;refine tk 11 ?_;refine tk 12 ?_;refine tk 13 ?_;refine rd1 14 fun KK hK=>?_
   simp only[xa,xb,xc];go_simp;refine(HS0.out _ hHeld.2.2.2.2.2.2.2.2).mono ?_;rintro e V14 ⟨rfl,q14⟩;refine hK.out _ _ ?hS16 (fun hHeld2=>?rest16)
   case hS16=>exact⟨q14.cell hHeld.1 z0,q14.cell hHeld.2.1 z0,q14.cell hHeld.2.2.1 z0,q14.cell hHeld.2.2.2.1 z0,q14.cell hHeld.2.2.2.2.1 z0,q14.cell hHeld.2.2.2.2.2.1 z0,q14.cell hHeld.2.2.2.2.2.2.1 z0,q14.cell hHeld.2.2.2.2.2.2.2.1 z0,hHeld.2.2.2.2.2.2.2.2.trans q14⟩
   clear hK KK;replace hHeld:=hHeld2;clear hHeld2;refine tk 15 ?_;refine tk 16 ?_;refine tk 17 ?_;refine tk 18 ?_;refine tk 19 ?_;refine tk 20 ?_;refine tk 21 ?_;refine tk 22 ?_;refine tk 23 ?_;refine tk 24 ?_;refine tk 25 ?_;refine tk 26 ?_;refine tk 27 ?_;refine tk 28 ?_;refine tk 29 ?_;refine tk 30 ?_;refine rd1 31 fun KK hK=>?_
   simp only[xa,xb,xc];go_simp;refine(HS1.out _ hHeld.2.2.2.2.2.2.2.2).mono ?_;rintro e V31 ⟨rfl,q31⟩;refine hK.out _ _ ?hS33 (fun hHeld2=>?rest33)
   case hS33=>exact⟨q31.cell hHeld.1 z0,q31.cell hHeld.2.1 z0,q31.cell hHeld.2.2.1 z0,q31.cell hHeld.2.2.2.1 z0,q31.cell hHeld.2.2.2.2.1 z0,q31.cell hHeld.2.2.2.2.2.1 z0,q31.cell hHeld.2.2.2.2.2.2.1 z0,q31.cell hHeld.2.2.2.2.2.2.2.1 z0,hHeld.2.2.2.2.2.2.2.2.trans q31⟩
   clear hK KK;replace hHeld:=hHeld2;clear hHeld2;refine tk 32 ?_;refine tk 33 ?_;refine dn ?_;have hE:=hHeld.2.2.2.2.2.2.2.2;clear hHeld;go_wp2
   all_goals go_roundw
   case rel=>exact⟨i+1,by omega,by go_num,hE⟩
   case measure=>simp[intOf];omega
  ·have:N0=i:=by omega
   subst this;clear ho hi;go_wp2_with fail;clear d2 b0 i1;go_loopw [4] (fun y wr=>∃ i:Nat,i<=N2/\y=.int .i64 (i:Int)/\Out 0 0 w wr) (fun y _=>N2-(intOf y).toNat)
   case atStart=>exact⟨0,Nat.zero_le _,rfl,HO.out⟩
   case round=>
    clear HO;obtain⟨i,i1,rfl,ho⟩:=hrel;have HO:=Z0 ho;have d6:=ho.cell HZ6.out z0;have b0:(0:Int)<=(i:Int):=by omega
    by_cases hi:i<N2
    ·have b1:(i:Int)<(N2:Int):=by omega
     have d7:=ho.cell HZ7.out z0;obtain⟨g6,rfl,r6⟩:=HR6.out (by omega);obtain⟨v6,h6⟩:∃ v,(X 6)[i]? = some v:=⟨_,List.getElem?_eq_getElem (by have:=HL6.out;omega)⟩
     obtain⟨g7,rfl,r7⟩:=HR7.out (by omega);obtain⟨v7,h7⟩:∃ v,(X 7)[i]? = some v:=⟨_,List.getElem?_eq_getElem (by have:=HL7.out;omega)⟩
     have q6:=HK.out.lf 2 i v6 (by omega) (Nat.zero_le _) h6;have q7:=HK.out.wr 2 i v7 (by omega) h7;obtain⟨a6,c6,rfl⟩:=OwnF.shape (t:=2) q6.1;obtain⟨a7,c7,e7,r7'⟩:=id q7;subst e7;clear r7';have e6:=ho.cell (r6 i _ h6) z0;have e7:=ho.cell (r7 i _ h7) z0;have HS2:Hid (∀ W,Out 0 0 w W->Calls Tryz.prog 73 #[.slice a6 (C 2 i).1 c6,.slice a7 (C 2 i).1 c7] W fun e w'=>e=.returned (.bool true)/\Out 0 0 W w'):=fun W o=>z0e ((OwnF.el (t:=2) q6.1).quiet o) (q7.el.quiet o) (by have:=q6.2.1;omega)
     clear q6 q7 h6 h7 r6 r7;generalize (C 2 i).1=m2 at *
     clear ho;go_wp2_with fail;refine wp_region_held_drew (S:=fun w'=>w'.cell? ⟨b,6,none⟩=some (.slice (some ⟨g6,0,none⟩) N2 cS6)/\w'.cell? ⟨g6,i,none⟩=some (.slice a6 m2 c6)/\w'.cell? ⟨b,7,none⟩=some (.slice (some ⟨g7,0,none⟩) N2 cS7)/\w'.cell? ⟨g7,i,none⟩=some (.slice a7 m2 c7)/\Out 0 0 w w') (by kernel_rfl) ?hS36 (fun hHeld=>?rest36)
     case hS36=>exact⟨d6,e6,d7,e7,HO.out.drew⟩
     refine tk 0 ?_;refine tk 1 ?_;refine tk 2 ?_;refine tk 3 ?_;refine tk 4 ?_;refine tk 5 ?_;refine tk 6 ?_;refine tk 7 ?_;refine tk 8 ?_;refine tk 9 ?_;refine tk 10 ?_;refine tk 11 ?_;refine tk 12 ?_;refine tk 13 ?_;refine rd1 14 fun KK hK=>?_
     simp only[xa,xb,xc];go_simp;refine(HS2.out _ hHeld.2.2.2.2).mono ?_;rintro e V14 ⟨rfl,q14⟩;refine hK.out _ _ ?hS51 (fun hHeld2=>?rest51)
     case hS51=>exact⟨q14.cell hHeld.1 z0,q14.cell hHeld.2.1 z0,q14.cell hHeld.2.2.1 z0,q14.cell hHeld.2.2.2.1 z0,hHeld.2.2.2.2.trans q14⟩
     clear hK KK;replace hHeld:=hHeld2;clear hHeld2;refine tk 15 ?_;refine dn ?_;have hE:=hHeld.2.2.2.2;clear hHeld;go_wp2
     all_goals go_roundw
     case rel=>exact⟨i+1,by omega,by go_num,hE⟩
     case measure=>simp[intOf];omega
    ·have:N2=i:=by omega
     subst this;have HA:Hid (ASt B b V X C col w F0 F1 F2 wr 0 0):=⟨V,X,col,fun _=>0,HK.out.quiet ho,⟨Nat.zero_le _,Nat.zero_le _,Nat.zero_le _⟩,fun _ _=>⟨rfl,rfl⟩,HF.out,(Fix.refl _ _).out ho⟩
     clear ho hi;go_wp2_with fail;clear d6 b0 i1 HO HK;go_loopw [5] (fun y wr=>∃ i:Nat,i<=N0/\y=.int .i64 (i:Int)/\ASt B b V X C col w F0 F1 F2 wr i 0) (fun y _=>N0-(intOf y).toNat)
     case atStart=>exact⟨0,Nat.zero_le _,rfl,HA.out⟩
     case round=>
      clear HA;obtain⟨i,i1,rfl,hA⟩:=hrel;have HA:=Z0 hA;obtain⟨V',X',col',p',k1,k2,k3,k4,k5⟩:=hA;have d2:=k1.cell 2 (by omega);rw[(k3 2 (by omega)).1,HE2.out] at d2;have b0:(0:Int)<=(i:Int):=by omega
      by_cases hi:i<N0
      ·have b1:(i:Int)<(N0:Int):=by omega
       obtain⟨g2,e2,r9⟩:=HR2.out (by omega);clear r9;obtain⟨v2,h2⟩:∃ v,(X 2)[i]? = some v:=⟨_,List.getElem?_eq_getElem (by have:=HL2.out;omega)⟩
       have o2:=k1.own 2 (by omega) (by omega);rw[(k3 2 (by omega)).1,(k3 2 (by omega)).2,HE2.out,HL2.out,e2] at o2;have r2:=z4s o2 h2;rw[e2] at d2;obtain⟨col2,t1,t2,t3,t4,t5⟩:=k1.take (t:=0) (i:=i) (by omega) k2.1 (by rw[(k3 2 (by omega)).2];exact h2);have HH:=Z0 (q3d t1 t2 t3 t4 (K:=F0+8*i) k4.1 (by have:=HN.out;omega));have HF3:=Z0 (k5.trans t5);have HP:=Z0 (And.intro k2 (And.intro k3 k4));obtain⟨av,cv,rfl⟩:=t2.shape;generalize (C 0 i).1=nn at *
       clear k1 k2 k3 k4 k5 t1 t2 t3 t4 t5 o2 h2 e2;go_wp2_with fail;refine HH.out.mono ?_;rintro e w2 ⟨rfl,he⟩;obtain⟨V2,X2,col3,m1,m2,m3,m4⟩:=he;have d4:=m1.cell 4 (by omega);have s4:V2 4=V 4/\X2 4=X 4:=⟨(m3 4 (by omega) (by omega)).1.trans (HP.out.2.1 4 (by omega)).1,(m3 4 (by omega) (by omega)).2.trans (HP.out.2.1 4 (by omega)).2⟩
       rw[s4.1,HE4.out] at d4;obtain⟨g4,e4,r9⟩:=HR4.out (by omega);clear r9;obtain⟨v4,h4⟩:∃ v,(X 4)[i]? = some v:=⟨_,List.getElem?_eq_getElem (by have:=HL4.out;omega)⟩
       have o4:=m1.own 4 (by omega) (by omega);rw[s4.1,s4.2,HE4.out,HL4.out,e4] at o4;have r4:=z4s o4 h4;rw[e4] at d4;obtain⟨col4,t1,t2,t3,t4,t5⟩:=m1.take (t:=1) (i:=i) (by omega) (by show (if 1=0 then i+1 else p' 1)<=i;rw[if_neg (by omega)];exact HP.out.1.2.1) (by rw[s4.2];exact h4);have HH4:=Z0 (q3i t1 t2 t3 t4 (K:=F1+8*i) (by rw[(m3 9 (by omega) (by omega)).2,(m3 12 (by omega) (by omega)).2];exact HP.out.2.2.2.1) (by have:=HN.out;omega));have HF4:=Z0 ((HF3.out.trans m4).trans t5);have HM:=Z0 (And.intro m2 m3);obtain⟨av4,cv4,rfl⟩:=t2.shape;generalize (C 1 i).1=nn4 at *
       clear m1 m2 m3 m4 t1 t2 t3 t4 t5 o4 h4 s4 HH HF3 d2 r2 e4;go_wp2_with fail;refine HH4.out.mono ?_;rintro e w3 ⟨rfl,he⟩;obtain⟨V3,X3,col5,u1,u2,u3,u4⟩:=he;have HE:Hid (ASt B b V X C col w F0 F1 F2 w3 (i+1) 0):=by
        have q1:=HP.out;have q2:=HM.out;refine⟨V3,X3,col5,_,u1,⟨?_,?_,?_⟩,fun j hj=>?_,⟨?_,?_,?_⟩,HF4.out.trans u4⟩
        ·show (if 0=1 then i+1 else if 0=0 then i+1 else p' 0)<=i+1
         rw[if_neg (by omega),if_pos rfl];exact Nat.le_refl _
        ·show (if 1=1 then i+1 else if 1=0 then i+1 else p' 1)<=i+1
         rw[if_pos rfl];exact Nat.le_refl _
        ·show (if 2=1 then i+1 else if 2=0 then i+1 else p' 2)<=0
         rw[if_neg (by omega),if_neg (by omega)];exact q1.1.2.2
        ·obtain⟨x1,x2⟩:=u3 j (by omega) (by omega);obtain⟨x3,x4⟩:=q2.2 j (by omega) (by omega);obtain⟨x5,x6⟩:=q1.2.1 j hj;exact⟨x1.trans (x3.trans x5),x2.trans (x4.trans x6)⟩
        ·rw[(u3 8 (by omega) (by omega)).2,(u3 11 (by omega) (by omega)).2,q2.1.1,q2.1.2];exact⟨rfl,rfl⟩
        ·rw[u2.1,u2.2];exact⟨rfl,rfl⟩
        ·rw[(u3 10 (by omega) (by omega)).2,(u3 13 (by omega) (by omega)).2,(q2.2 10 (by omega) (by omega)).2,(q2.2 13 (by omega) (by omega)).2];exact q1.2.2.2.2
       clear u1 u2 u3 u4 HH4 HF4 HM HP HA d4 r4;go_wp2;go_roundw
       case rel=>exact⟨i+1,by omega,by go_num,HE.out⟩
       case measure=>simp[intOf];omega
      ·have:N0=i:=by omega
       subst this;clear hi i1 k1 k2 k3 k4 k5;go_wp2_with fail;clear d2 b0;go_loopw [6] (fun y wr=>∃ i:Nat,i<=N2/\y=.int .i64 (i:Int)/\ASt B b V X C col w F0 F1 F2 wr N0 i) (fun y _=>N2-(intOf y).toNat)
       case atStart=>exact⟨0,Nat.zero_le _,rfl,HA.out⟩
       case round=>
        clear HA;obtain⟨i,i1,rfl,hA⟩:=hrel;have HA:=Z0 hA;obtain⟨V',X',col',p',k1,k2,k3,k4,k5⟩:=hA;have d6:=k1.cell 6 (by omega);rw[(k3 6 (by omega)).1,HE6.out] at d6;have b0:(0:Int)<=(i:Int):=by omega
        by_cases hi:i<N2
        ·have b1:(i:Int)<(N2:Int):=by omega
         obtain⟨g6,e6,r9⟩:=HR6.out (by omega);clear r9;obtain⟨v6,h6⟩:∃ v,(X 6)[i]? = some v:=⟨_,List.getElem?_eq_getElem (by have:=HL6.out;omega)⟩
         have o6:=k1.own 6 (by omega) (by omega);rw[(k3 6 (by omega)).1,(k3 6 (by omega)).2,HE6.out,HL6.out,e6] at o6;have r6:=z4s o6 h6;rw[e6] at d6;obtain⟨col2,t1,t2,t3,t4,t5⟩:=k1.take (t:=2) (i:=i) (by omega) k2.2.2 (by rw[(k3 6 (by omega)).2];exact h6);have HH:=Z0 (q2g t1 t2 t3 t4 (K:=F2+8*i) k4.2.2 (by have:=HN.out;omega));have HF3:=Z0 (k5.trans t5);have HP:=Z0 (And.intro k2 (And.intro k3 k4));obtain⟨av,cv,rfl⟩:=t2.shape;generalize (C 2 i).1=nn at *
         clear k1 k2 k3 k4 k5 t1 t2 t3 t4 t5 o6 h6 e6;go_wp2_with fail;refine HH.out.mono ?_;rintro e w2 ⟨rfl,he⟩;obtain⟨V3,X3,col5,u1,u2,u3,u4⟩:=he;have HE:Hid (ASt B b V X C col w F0 F1 F2 w2 N0 (i+1)):=by
          have q1:=HP.out;refine⟨V3,X3,col5,_,u1,⟨?_,?_,?_⟩,fun j hj=>?_,⟨?_,?_,?_⟩,HF3.out.trans u4⟩
          ·show (if 0=2 then i+1 else p' 0)<=N0
           rw[if_neg (by omega)];exact q1.1.1
          ·show (if 1=2 then i+1 else p' 1)<=N0
           rw[if_neg (by omega)];exact q1.1.2.1
          ·show (if 2=2 then i+1 else p' 2)<=i+1
           rw[if_pos rfl];exact Nat.le_refl _
          ·obtain⟨x1,x2⟩:=u3 j (by omega) (by omega);obtain⟨x5,x6⟩:=q1.2.1 j hj;exact⟨x1.trans x5,x2.trans x6⟩
          ·rw[(u3 8 (by omega) (by omega)).2,(u3 11 (by omega) (by omega)).2];exact q1.2.2.1
          ·rw[(u3 9 (by omega) (by omega)).2,(u3 12 (by omega) (by omega)).2];exact q1.2.2.2.1
          ·rw[u2.1,u2.2];exact⟨rfl,rfl⟩
         clear u1 u2 u3 u4 HH HF3 HP HA d6 r6;go_wp2;go_roundw
         case rel=>exact⟨i+1,by omega,by go_num,HE.out⟩
         case measure=>simp[intOf];omega
        ·have:N2=i:=by omega
         subst this;have HHo:=Z0 (j5h k1 fun t ht=>by
          have hc:t=0\/t=1\/t=2:=by omega
          have:=HN.out;rcases hc with rfl | rfl | rfl
          ·rw[k4.1.1,k4.1.2];exact⟨rfl,by omega⟩
          ·rw[k4.2.1.1,k4.2.1.2];exact⟨rfl,by omega⟩
          ·rw[k4.2.2.1,k4.2.2.2];exact⟨rfl,by omega⟩)
         have HQ:Hid (∀ w',Out 0 0 wr w'->ASt B b V X C col w F0 F1 F2 w' N0 N2):=fun w' o=>⟨V',X',col',p',k1.quiet o,k2,k3,k4,k5.out o⟩
         clear hi i1 k1 k2 k3 k4 k5;go_wp2_with (go_at_call 91;refine HHo.out.mono ?_;rintro e w2 ⟨rfl,o2⟩);go_ret;exact⟨rfl,HQ.out _ o2⟩
theorem j0h {col col':Nat->Nat} {w w':World} (h:Fix col col' w w') {lo hi:Nat} (h7:∀ k,(k<4\/(lo<=k/\k<hi))->col k=7) (hg:4<=lo) (hlh:lo<=hi) (hs:hi<=w.heap.size):∃ m,Out 4 lo w m/\Out hi w'.heap.size m w':=by
 obtain⟨⟨h1,h2,h3,h4,h5⟩,_⟩:=h;obtain⟨H,hH⟩:∃ H:Array Obj,H=Array.ofFn (n:=w'.heap.size) fun i=>if i.val<lo then w'.heap[i.val] else if q:i.val<w.heap.size then w.heap[i.val] else w'.heap[i.val]:=⟨_,rfl⟩
 have hsz:H.size=w'.heap.size:=by rw[hH];simp
 have hat:∀ k,k<w'.heap.size->H[k]? = if k<lo then w'.heap[k]? else if k<w.heap.size then w.heap[k]? else w'.heap[k]? :=fun k hk=>by
  rw[hH,Array.getElem?_eq_getElem (by simpa using hk)];simp only[Array.getElem_ofFn];by_cases q:k<lo
  ·rw[if_pos q,if_pos q,Array.getElem?_eq_getElem hk]
  ·rw[if_neg q,if_neg q];by_cases q2:k<w.heap.size
   ·rw[dif_pos q2,if_pos q2,Array.getElem?_eq_getElem q2]
   ·rw[dif_neg q2,if_neg q2,Array.getElem?_eq_getElem hk]
 have same:∀ k,k<w.heap.size->col k=7->w'.heap[k]? = w.heap[k]? :=fun k hk hc=>h5 k hk (fun q=>q hc)
 refine⟨{ w' with heap:=H },⟨h1,h2,h3,by show _<=H.size;omega,fun k hk hk2=>?_⟩,⟨rfl,rfl,rfl,by show H.size<=_;omega,fun k hk hk2=>?_⟩⟩
 ·show H[k]? = _
  rw[hat k (by omega)];by_cases q:k<lo
  ·rw[if_pos q];exact same k hk (h7 k (.inl (by omega)))
  ·rw[if_neg q,if_pos hk]
 ·have hk3:k<w'.heap.size:=by have:k<H.size:=hk;omega
  show w'.heap[k]? = H[k]?
  rw[hat k hk3];by_cases q:k<lo
  ·rw[if_pos q]
  ·rw[if_neg q,if_pos (by omega)];exact same k (by omega) (h7 k (.inr (by omega)))
theorem SpAt.fix {col col':Nat->Nat} {w w':World} {lo hi n cap:Nat} {s:Nat->Nat} {st:Sp} (h:SpAt w lo hi s n cap st) (f:Fix col col' w w') (h7:∀ k,(k<4\/(lo<=k/\k<hi))->col k=7) (hlh:lo<=hi):SpAt w' lo hi s n cap st:=by
 obtain⟨m,o1,o2⟩:=j0h f h7 h.1.glob hlh h.1.top;exact(h.kept o1 (.inr (Nat.le_refl _)) (.inl (Nat.le_refl _))).kept o2 (.inl (Nat.le_refl _)) (.inl (by have:=h.1.glob;omega))
theorem RfAt.fix {col col':Nat->Nat} {w w':World} {lo hi n cw co:Nat} {s:Nat->Nat} {st:Sp} (h:RfAt w lo hi s n cw co st) (f:Fix col col' w w') (h7:∀ k,(k<4\/(lo<=k/\k<hi))->col k=7) (hlh:lo<=hi):RfAt w' lo hi s n cw co st:=by
 obtain⟨m,o1,o2⟩:=j0h f h7 h.glob hlh h.top;exact(h.kept o1 (.inr (Nat.le_refl _))).kept o2 (.inl (Nat.le_refl _))
structure PS (B:Nat) (w:World) (b lo hi lo' hi':Nat) (s sr:Nat->Nat) (n cap cw co:Nat) (st:Sp) (col:Nat->Nat) (z:Bool) (c:Nat):Prop where
 sp:SpAt w lo hi s n cap st
 rf:RfAt w lo' hi' sr n cw co st
 ks:KS B w b (.pointer (some ⟨s 14,0,none⟩)) (.pointer (some ⟨sr 0,0,none⟩)) col z c
 c7:∀ k,(k<4\/(lo<=k/\k<hi)\/(lo'<=k/\k<hi'))->col k=7
 le:lo<=hi/\lo'<=hi'/\n<=24
section
variable {B:Nat} {w w':World} {b lo hi lo' hi' n cap cw co c c':Nat} {s sr:Nat->Nat} {st:Sp} {col col':Nat->Nat} {z z':Bool}
theorem PS.quiet (h:PS B w b lo hi lo' hi' s sr n cap cw co st col z c) (o:Out 0 0 w w'):PS B w' b lo hi lo' hi' s sr n cap cw co st col z c:=
 ⟨h.sp.quiet o,h.rf.quiet o,h.ks.quiet o,h.c7,h.le⟩
theorem PS.fix (h:PS B w b lo hi lo' hi' s sr n cap cw co st col z c) (f:Fix col col' w w') (k:KS B w' b (.pointer (some ⟨s 14,0,none⟩)) (.pointer (some ⟨sr 0,0,none⟩)) col' z' c'):PS B w' b lo hi lo' hi' s sr n cap cw co st col' z' c':=
 ⟨h.sp.fix f (fun k hk=>h.c7 k (by omega)) h.le.1,h.rf.fix f (fun k hk=>h.c7 k (by omega)) h.le.2.1,k,fun k hk=>f.2 k (by have h1:=h.sp.1.top;have h2:=h.rf.top;have h3:=h.sp.1.glob;have h4:=h.le;omega) (h.c7 k hk),h.le⟩
theorem PS.two (h:PS B w b lo hi lo' hi' s sr n cap cw co st col z c):Two w b lo hi lo' hi' s sr n cap cw co st:=⟨h.sp,h.rf,h.ks.cells.1,h.ks.cells.2⟩
theorem j4f {v0 v1:Value} (h:KS B w b v0 v1 col true c) (hc:c<=800):Calls Tryz.prog 45 #[.pointer (some ⟨b,2,none⟩)] w fun e w'=>e=.returned (.bool true)/\∃ col',KS B w' b v0 v1 col' false (c+32)/\Fix col col' w w':=by
 obtain⟨V,X,C,p,N0,N2,F0,F1,F2,k1,k2,k3,k4,k5⟩:=h;have e:=k5 rfl;subst e;refine(j2g k1 k2 (by omega)).mono ?_;rintro e w' ⟨rfl,V',X',col',p',r1,r2,r3,r4,r5⟩;obtain⟨⟨q2,q3,q4,q5,q6,q7⟩,q8,q9,q10⟩:=k2;refine⟨rfl,col',⟨V',X',C,p',N0,N2,_,_,_,r1,⟨⟨?_,?_,?_,?_,?_,?_⟩,r4.1,r4.2.1,r4.2.2⟩,by omega,by rw[(r3 0 (by omega)).1,(r3 1 (by omega)).1];exact k4,fun e=>by cases e⟩,r5⟩
 ·rw[(r3 2 (by omega)).2];exact q2
 ·rw[(r3 3 (by omega)).2];exact q3
 ·rw[(r3 4 (by omega)).2];exact q4
 ·rw[(r3 5 (by omega)).2];exact q5
 ·rw[(r3 6 (by omega)).2];exact q6
 ·rw[(r3 7 (by omega)).2];exact q7
theorem z5w (h:PS B w b lo hi lo' hi' s sr n cap cw co st col z c) (o0 o2 o3 o4:Int) (lp:Option Addr) (ll lc:Nat):Calls Tryz.prog 10 #[.pointer (some ⟨b,0,none⟩),.agg #[.int .i64 o0,.int .i64 18,.int .i64 o2,.int .i64 o3,.int .i64 o4,.slice lp ll lc]] w fun e w'=>e=.returned (.bool true)/\Out 0 0 w w':=by
 obtain⟨X,hX⟩:∃ X,s 14=X:=⟨_,rfl⟩
 obtain⟨Y,hY⟩:∃ Y,sr 0=Y:=⟨_,rfl⟩
 obtain⟨v,hv⟩:∃ v,nxr (q6g n (Z6 n st) 8) (64*n) 0=v:=⟨_,rfl⟩
 have HA:Hid (∀ W,Out 0 0 w W->Calls Tryz.prog 38 #[.pointer (some ⟨X,0,none⟩)] W fun e w'=>e=.returned (.int .i64 v)/\Out 0 0 W w'):=fun W o=>by
  have q:=j2s (h.sp.quiet o).1 (B7 st);rw[hX,hv] at q;exact q
 have HB:Hid (∀ W,Out 0 0 w W->Calls Tryz.prog 39 #[.pointer (some ⟨Y,0,none⟩)] W fun e w'=>e=.returned (.int .i64 v)/\Out 0 0 W w'):=fun W o=>by
  have q:=q2u (h.rf.quiet o) h.sp.2;rw[hY,hv] at q;exact q
 obtain⟨p0,p1⟩:=h.ks.cells;rw[hX] at p0;rw[hY] at p1;clear h hX hY hv;go_enter Tryz.func10,Tryz.ntmps10
 go_wp2_with fail;obtain⟨W,hW⟩:∃ W,w.alloc (.cells #[.int .i64 o0,.int .i64 18,.int .i64 o2,.int .i64 o3,.int .i64 o4,.slice lp ll lc] 32)=W:=⟨_,rfl⟩
 have oW:Out 0 0 w W:=by rw[<-hW];exact(Out.refl 0 0 _).alloc _
 replace p0:=oW.cell p0 z0;replace p1:=oW.cell p1 z0;rw[hW];clear hW;refine wp_region_held_drew (S:=fun w'=>w'.cell? ⟨b,0,none⟩=some (.pointer (some ⟨X,0,none⟩))/\w'.cell? ⟨b,1,none⟩=some (.pointer (some ⟨Y,0,none⟩))/\Out 0 0 w w') (by kernel_rfl) ?hS1 (fun hHeld=>?rest1)
 case hS1=>exact⟨p0,p1,oW.drew⟩
 refine tk 0 ?_;refine tk 1 ?_;refine tk 2 ?_;refine tk 3 ?_;refine tk 5 ?_;refine tk 6 ?_;refine tk 7 ?_;refine tk 8 ?_;refine rd1 4 fun KK hK=>?_
 simp only[xa,xb,xc];go_simp;refine(HA.out _ hHeld.2.2).mono ?_;rintro e V1 ⟨rfl,q1⟩;refine hK.out _ _ ?hS10 (fun hHeld2=>?rest10)
 case hS10=>exact⟨q1.cell hHeld.1 z0,q1.cell hHeld.2.1 z0,hHeld.2.2.trans q1⟩
 clear hK KK;replace hHeld:=hHeld2;clear hHeld2;refine rd1 9 fun KK hK=>?_
 simp only[xa,xb,xc];go_simp;refine(HB.out _ hHeld.2.2).mono ?_;rintro e V2 ⟨rfl,q2⟩;refine hK.out _ _ ?hS11 (fun hHeld2=>?rest11)
 case hS11=>exact⟨q2.cell hHeld.1 z0,q2.cell hHeld.2.1 z0,hHeld.2.2.trans q2⟩
 clear hK KK;replace hHeld:=hHeld2;clear hHeld2;refine tk 10 ?_;refine tk 11 ?_;refine dn ?_;have hE:=hHeld.2.2;clear hHeld;go_wp2;go_ret;exact⟨rfl,hE⟩
theorem z5q (h:PS B w b lo hi lo' hi' s sr n cap cw co st col z c) (hc:c<=800) (o0 o2 o3 o4:Int) (lp:Option Addr) (ll lc:Nat):Calls Tryz.prog 10 #[.pointer (some ⟨b,0,none⟩),.agg #[.int .i64 o0,.int .i64 20,.int .i64 o2,.int .i64 o3,.int .i64 o4,.slice lp ll lc]] w fun e w'=>e=.returned (.bool true)/\∃ col',PS B w' b lo hi lo' hi' s sr n cap cw co st col' z (c+2)/\Fix col col' w w':=by
 have HP:=Z0 h;have Hc:=Z0 hc;obtain⟨p0,p1⟩:=h.ks.cells;clear h hc;go_enter Tryz.func10,Tryz.ntmps10
 go_wp2_with fail;obtain⟨W,hW⟩:∃ W,w.alloc (.cells #[.int .i64 o0,.int .i64 20,.int .i64 o2,.int .i64 o3,.int .i64 o4,.slice lp ll lc] 32)=W:=⟨_,rfl⟩
 have oW:Out 0 0 w W:=by rw[<-hW];exact(Out.refl 0 0 _).alloc _
 replace p0:=oW.cell p0 z0;replace p1:=oW.cell p1 z0;rw[hW];clear hW;have P1:=HP.out.quiet oW;refine wp_region_held_drew (S:=fun w'=>w'.cell? ⟨b,0,none⟩=some (.pointer (some ⟨s 14,0,none⟩))/\w'.cell? ⟨b,1,none⟩=some (.pointer (some ⟨sr 0,0,none⟩))) (by kernel_rfl) ?hS14 (fun hHeld=>?rest14)
 case hS14=>exact⟨p0,p1⟩
 obtain⟨Z,hZ⟩:∃ Z,W.drew=Z:=⟨_,rfl⟩
 have oZ:Out 0 0 W Z:=by rw[<-hZ];exact(Out.refl 0 0 _).drew
 replace P1:=P1.quiet oZ;rw[hZ] at hHeld ⊢;clear hZ p0 p1;refine tk 0 ?_;refine tk 1 ?_;refine tk 2 ?_;refine tk 3 ?_;refine tk 4 ?_;refine tk 5 ?_;refine tk 6 ?_;refine tk 8 ?_;refine tk 9 ?_;refine tk 10 ?_;refine tk 11 ?_;refine rd1 7 fun KK hK=>?_
 simp only[xa,xb,xc];go_simp;refine(q7f P1.sp.1 (B7 st)).mono ?_;rintro e W1 ⟨gw,cw1,gp,cp,vb,rfl,d1,q1⟩;refine hK.out _ _ ?hS26 (fun hHeld2=>?rest26)
 case hS26=>exact⟨q1.cell hHeld.1 z0,q1.cell hHeld.2 z0⟩
 clear hK KK;replace hHeld:=hHeld2;clear hHeld2;refine rd1 12 fun KK hK=>?_
 simp only[xa,xb,xc];go_simp;refine(z6z (P1.rf.quiet q1) P1.sp.2 rfl).mono ?_;rintro e W2 ⟨gw2,cw2,gp2,cp2,vb2,rfl,d2,q2⟩;refine hK.out _ _ ?hS27 (fun hHeld2=>?rest27)
 case hS27=>exact⟨q2.cell hHeld.1 z0,q2.cell hHeld.2 z0⟩
 clear hK KK;replace hHeld:=hHeld2;clear hHeld2;refine rd1 13 fun KK hK=>?_
 simp only[xa,xb,xc];go_simp;refine(q7c P1.ks (by have:=Hc.out;omega) q1 q2 d1 d2 P1.le.2.2 true).mono ?_;rintro e W3 ⟨rfl,colA,kA,fA⟩;have P2:=P1.fix fA kA;clear d1 d2 q1 q2;refine hK.out _ _ ?hS28 (fun hHeld2=>?rest28)
 case hS28=>exact kA.cells
 clear kA;clear hK KK;replace hHeld:=hHeld2;clear hHeld2;refine tk 14 ?_;refine tk 15 ?_;refine tk 16 ?_;refine tk 17 ?_;refine tk 18 ?_;refine tk 19 ?_;refine tk 20 ?_;refine tk 21 ?_;refine tk 23 ?_;refine tk 24 ?_;refine tk 25 ?_;refine tk 26 ?_;refine rd1 22 fun KK hK=>?_
 simp only[xa,xb,xc];go_simp;refine(q7f P2.sp.1 (B7 st)).mono ?_;rintro e W4 ⟨gw,cw1,gp,cp,vb,rfl,d1,q1⟩;refine hK.out _ _ ?hS41 (fun hHeld2=>?rest41)
 case hS41=>exact⟨q1.cell hHeld.1 z0,q1.cell hHeld.2 z0⟩
 clear hK KK;replace hHeld:=hHeld2;clear hHeld2;refine rd1 27 fun KK hK=>?_
 simp only[xa,xb,xc];go_simp;refine(z6z (P2.rf.quiet q1) P2.sp.2 rfl).mono ?_;rintro e W5 ⟨gw2,cw2,gp2,cp2,vb2,rfl,d2,q2⟩;refine hK.out _ _ ?hS42 (fun hHeld2=>?rest42)
 case hS42=>exact⟨q2.cell hHeld.1 z0,q2.cell hHeld.2 z0⟩
 clear hK KK;replace hHeld:=hHeld2;clear hHeld2;refine rd1 28 fun KK hK=>?_
 simp only[xa,xb,xc];go_simp;refine(q7c P2.ks (by have:=Hc.out;omega) q1 q2 d1 d2 P2.le.2.2 false).mono ?_;rintro e W6 ⟨rfl,colB,kA,fB⟩;have P3:=P2.fix fB kA;clear d1 d2 q1 q2;refine hK.out _ _ ?hS43 (fun hHeld2=>?rest43)
 case hS43=>exact kA.cells
 clear kA;clear hK KK;replace hHeld:=hHeld2;clear hHeld2;refine tk 29 ?_;refine tk 30 ?_;refine dn ?_;have FIN:Hid (∃ col',PS B W6 b lo hi lo' hi' s sr n cap cw co st col' z (c+2)/\Fix col col' w W6):=⟨colB,P3,((((Fix.refl col w).out oW).out oZ).trans fA).trans fB⟩
 clear hHeld P3 P2 P1 fA fB;go_wp2;go_ret;exact⟨rfl,FIN.out⟩
theorem z8d (h:PS B w b lo hi lo' hi' s sr n cap cw co st col true c) (hc:c<=700):Calls Tryz.prog 11 #[.pointer (some ⟨b,0,none⟩)] w fun e w'=>e=.returned (.bool true)/\∃ col',PS B w' b lo hi lo' hi' s sr n cap cw co st col' false (c+36)/\Fix col col' w w':=by
 have H1:=Z0 (z5w h 0 0 0 0 none 0 0);have HP:=Z0 h;have Hc:=Z0 hc;clear h hc;go_enter Tryz.func11,Tryz.ntmps11
 go_wp2_with fail;refine H1.out.mono ?_;rintro e w1 ⟨rfl,o1⟩;have H2:=Z0 (z5q (HP.out.quiet o1) (by have:=Hc.out;omega) 0 0 0 0 none 0 0);have F1:Hid (Fix col col w w1):=(Fix.refl _ _).out o1;clear o1 H1;go_wp2_with fail;refine H2.out.mono ?_;rintro e w2 ⟨rfl,col2,P2,f2⟩;have H3:=Z0 (j4f P2.ks (by have:=Hc.out;omega));have HP2:=Z0 P2;have F2:=Z0 (F1.out.trans f2);clear P2 f2 H2 F1;go_wp2_with fail;refine H3.out.mono ?_;rintro e w3 ⟨rfl,col3,K3,f3⟩;have P3:=HP2.out.fix f3 K3;have H4:=Z0 (z5q P3 (by have:=Hc.out;omega) 0 0 0 0 none 0 0);have F3:=Z0 (F2.out.trans f3);clear P3 K3 f3 H3 F2;go_wp2_with fail;refine H4.out.mono ?_;rintro e w4 ⟨rfl,col4,P4,f4⟩;have FIN:Hid (∃ col',PS B w4 b lo hi lo' hi' s sr n cap cw co st col' false (c+36)/\Fix col col' w w4):=⟨col4,P4,F3.out.trans f4⟩
 clear P4 f4 H4 F3;go_wp2;go_ret;exact⟨rfl,FIN.out⟩
end
def q7w (n:Nat) (st:Sp) (x:Int):Int:=match (J5 (Z6 n st) (64*n))[(wth x (J5 (Z6 n st) (64*n)).length).toNat]? with | some q=>(q.1:Int) | none=>-1
theorem j5p {l:List (Nat × Blk)} {i:Nat} {q:Nat × Blk} (h:l[i]? = some q):(bks l)[i*5]? = some (.int .i64 (q.1:Int)):=by
 induction l generalizing i with
 | nil=>cases h
 | cons p l ih=>
  rw[q5v];cases i with
  | zero=>
   simp at h;subst h;rfl
  | succ i=>
   rw[show (i+1)*5=i*5+5 from by omega];exact ih (by simpa using h)
section
variable {w:World} {b lo hi lo' hi' n cap cw co:Nat} {s sr:Nat->Nat} {st:Sp}
theorem q0j (h:Two w b lo hi lo' hi' s sr n cap cw co st) (hn:n<=24) (x:Int) (x1:-9223372036854775808<=x) (x2:x<=9223372036854775807):Calls Tryz.prog 21 #[.pointer (some ⟨b,0,none⟩),.int .i64 x] w fun e w'=>e=.returned (.int .i64 (q7w n st x))/\Out 0 0 w w':=by
 have HBl:=Z0 (z3y h.rf h.sp.2);have hlen:=z4o (Z6 n st) (64*n);obtain⟨L,hL⟩:∃ L,J5 (Z6 n st) (64*n)=L:=⟨_,rfl⟩
 obtain⟨m,hm⟩:∃ m,L.length=m:=⟨_,rfl⟩
 have hV:q7w n st x=match L[(wth x (m:Int)).toNat]? with | some q=>(q.1:Int) | none=>-1:=by unfold q7w;rw[hL,hm]
 rw[hL] at HBl hlen;obtain⟨Y,hY⟩:∃ Y,sr 0=Y:=⟨_,rfl⟩
 have p1:=h.p1;rw[hY] at p1 HBl;rw[hm] at hlen;have m1:(m:Int)<=1536:=by omega
 have HV:=Z0 hV;have HL:=Z0 hm;clear h hL hV hY;by_cases hz:m=0
 ·go_enter Tryz.func21,Tryz.ntmps21
  go_wp2_with fail;refine HBl.out.mono ?_;rintro e w1 ⟨v,rfl,hv,o1⟩;obtain⟨oo,cc,rfl⟩:=z0s hv;rw[HL.out,hz];clear hv hm;go_wp2;go_ret;refine⟨?_,o1⟩;rw[HV.out,show L[(wth x (m:Int)).toNat]? = none from by
   have:=HL.out;exact List.getElem?_eq_none (by omega)]
  rfl
 ·have mz:((m:Int) == 0)=false:=by simp;omega
  obtain⟨k,hk,hkm⟩:=j8t x (m:Int) (by omega);have HWi:=Z0 (fun w=>z8y x (m:Int) w x1 x2 (by omega) (by omega));rw[hk] at HWi;have k0:(0:Int)<=(k:Int):=by omega
  obtain⟨q,hq⟩:∃ q,L[k]? = some q:=⟨L[k]'(by have:=HL.out;omega),List.getElem?_eq_getElem _⟩
  have HQ:Hid (q7w n st x=(q.1:Int)):=by
   show _=_
   rw[HV.out,hk,show ((k:Nat):Int).toNat=k from by omega,hq]
  have HK:=Z0 (j5p hq);have mp:0<m:=by omega
  clear hk hq hm;go_enter Tryz.func21,Tryz.ntmps21
  go_wp2_with fail;refine HBl.out.mono ?_;rintro e w1 ⟨v,rfl,hv,o1⟩;have hv':=hv;unfold F8 at hv';rw[HL.out] at hv';obtain⟨g,cc,rfl,_,_⟩:=hv'.form mp;have d0:=hv'.cells (g:=g) rfl (k*5) _ HK.out;rw[Addr.add_lit,Nat.zero_add] at d0;have HO:=Z0 o1;clear hv hv' o1;go_wp2_with (go_at_call 24;refine Z5 (HWi.out _) ?_);go_ret;exact⟨by rw[HQ.out];rfl,HO.out⟩
end
end Go.Proofs.YtjbbkeoolodeaabGreatDoor
