import Derived.Test.YtjbbkeoolodeaabGreatDoorB43
import Derived.Test.YtjbbkeoolodeaabGreatDoorB33
import Derived.Test.YtjbbkeoolodeaabGreatDoorB41
import Derived.Test.YtjbbkeoolodeaabGreatDoorB13
import Derived.Test.YtjbbkeoolodeaabGreatDoorB07
namespace Go.Proofs.YtjbbkeoolodeaabGreatDoor
open Go.RowKit
set_option linter.unusedVariables false
set_option maxRecDepth 100000
set_option maxHeartbeats 16000000
set_option linter.unusedSimpArgs false
theorem x2p {B b:Nat} {w:World} {V:Nat->Value} {X:Nat->List Value} {C:Nat->Nat->Nat × (Nat->Nat->Int)} {col:Nat->Nat} {p:Nat->Nat} {x y:Value} {n:Nat} {f:Nat->Nat->Int} {N0 N2:Nat} {q:Bool} (h:Kp B w b V X C col none p) (hx:ElAt w x n 5 f) (hy:ElAt w y n 5 f) (hn:n<=1536) (hM:(X 2).length=N0/\(X 6).length=N2) (hN:N0<=100/\N2<=100) (hmany:30<N0+N2) :
  Calls Tryz.prog 34 #[.pointer (some ⟨b,2,none⟩),x,y,.bool q] w fun e w'=>e=.returned (.bool true)/\Out 0 0 w w':=by
 have HS:=Z0 (z0e hx hy (by omega));have HMany:Hid (∀ W,Out 0 0 w W->Calls Tryz.prog 74 #[.pointer (some ⟨b,2,none⟩)] W fun e w'=>e=.returned (.bool true)/\Out 0 0 W w'):=fun W o=>by
  have q:=z9v (h.quiet o) hM.1 hM.2 hN;rw[show decide (30<N0+N2)=true from by simp;omega] at q;exact q
 clear h hx hy hn hM hN hmany;go_enter Tryz.func34,Tryz.ntmps34
 go_wp2_with fail;refine HS.out.mono ?_;rintro e w1 ⟨rfl,o1⟩;have HO:=Z0 o1;clear o1;go_wp2_with fail;refine(HMany.out _ HO.out).mono ?_;rintro e w2 ⟨rfl,o2⟩;have HO2:=Z0 (HO.out.trans o2);clear o2;go_wp2;go_ret;exact⟨rfl,HO2.out⟩
theorem x2q {B b:Nat} {w:World} {V:Nat->Value} {X:Nat->List Value} {C:Nat->Nat->Nat × (Nat->Nat->Int)} {col:Nat->Nat} {p:Nat->Nat} {x y:Value} {n:Nat} {f:Nat->Nat->Int} {N0 N2 F2:Nat} (h:Kp B w b V X C col none p) (hx:OwnF B w 2 x n f) (hy:ElAt w y n 5 f) (hn:n<=1536) (hc:∀ g,x.ownBlock=some g->col g=8) (hM:(X 2).length=N0/\(X 6).length=N2) (hK:(X 10).length=F2/\(X 13).length=F2) (hK2:F2<=8000) (hfew:N0+N2<=30) :
  Calls Tryz.prog 34 #[.pointer (some ⟨b,2,none⟩),x,y,.bool false] w fun e w'=>e=.returned (.bool true)/\x3n B b V X C p 10 13 (F2+8) col w w':=by
 have HS:=Z0 (z0e hx.el hy (by omega));have HMany:Hid (∀ W,Out 0 0 w W->Calls Tryz.prog 74 #[.pointer (some ⟨b,2,none⟩)] W fun e w'=>e=.returned (.bool false)/\Out 0 0 W w'):=fun W o=>by
  have q:=z9v (h.quiet o) hM.1 hM.2 (by omega);rw[show decide (30<N0+N2)=false from by simp;omega] at q;exact q
 have HMk:Hid (∀ W,Out 0 0 w W->Calls Tryz.prog 75 #[.pointer (some ⟨b,2,none⟩),x] W fun e w'=>e=.returned (.tuple #[])/\x3n B b V X C p 10 13 (F2+8) col W w'):=fun W o=>q2g (h.quiet o) (hx.quiet o) hn hc hK hK2
 clear h hx hy hn hM hK hK2 hfew hc;go_enter Tryz.func34,Tryz.ntmps34
 go_wp2_with fail;refine HS.out.mono ?_;rintro e w1 ⟨rfl,o1⟩;have HO:=Z0 o1;clear o1;go_wp2_with fail;refine(HMany.out _ HO.out).mono ?_;rintro e w2 ⟨rfl,o2⟩;have HO2:=Z0 (HO.out.trans o2);clear o2;go_wp2_with fail;refine(HMk.out _ HO2.out).mono ?_;rintro e w3 ⟨rfl,V3,X3,col3,k1,k2,k3,k4⟩;have FIN:Hid (x3n B b V X C p 10 13 (F2+8) col w w3):=⟨V3,X3,col3,k1,k2,k3,((Fix.refl col w).out HO2.out).trans k4⟩
 clear k1 k2 k3 k4;go_wp2;go_ret;exact⟨rfl,FIN.out⟩
theorem x2o {B b:Nat} {w:World} {V:Nat->Value} {X:Nat->List Value} {C:Nat->Nat->Nat × (Nat->Nat->Int)} {col:Nat->Nat} {p:Nat->Nat} {x y:Value} {N0 N2:Nat} (h:Kp B w b V X C col none p) (hx:LeftC B w col 2 N2 x (C 2 N2).1 (C 2 N2).2) (hy:WereC w col y (C 2 N2).1 5 (C 2 N2).2) (h0:(X 2).length=N0) (hM:(X 6).length=N2/\(X 7).length=N2) (hfew:N0+N2<=30) :
  Calls Tryz.prog 34 #[.pointer (some ⟨b,2,none⟩),x,y,.bool true] w fun e w'=>e=.returned (.bool true)/\∃ V' X' col',Kp B w' b V' X' C col' none p/\((X' 6).length=N2+1/\(X' 7).length=N2+1)/\(∀ j,j ≠ 6->j ≠ 7->V' j=V j/\X' j=X j)/\Fix col col' w w':=by
 obtain⟨i2,hi2,hz0,hz1,hz2⟩:=Q3 q6k;have hxo:OwnF B w 2 x (C 2 N2).1 (C 2 N2).2:=hx.1;have HS:=Z0 (z0e hxo.el hy.el (by have:=hx.2.1;omega));obtain⟨a6,c6,ex⟩:=hxo.shape;obtain⟨a7,c7,ey,-⟩:=id hy;obtain⟨m,hm⟩:∃ m,(C 2 N2).1=m:=⟨_,rfl⟩
 rw[hm] at ex ey;subst ex ey;have HMany:Hid (∀ W,Out 0 0 w W->Calls Tryz.prog 74 #[.pointer (some ⟨b,2,none⟩)] W fun e w'=>e=.returned (.bool false)/\Out 0 0 W w'):=fun W o=>by
  have q:=z9v (h.quiet o) h0 hM.1 (by omega);rw[show decide (30<N0+N2)=false from by simp;omega] at q;exact q
 have HK:=Z0 h;have HX:=Z0 (And.intro hx hy);have HM:=Z0 hM;have HFew:=Z0 hfew;clear h hx hy h0 hM hfew hxo hm;go_enter Tryz.func34,Tryz.ntmps34
 go_wp2_with fail;refine HS.out.mono ?_;rintro e w1 ⟨rfl,o1⟩;have HO:=Z0 o1;clear o1;go_wp2_with fail;refine(HMany.out _ HO.out).mono ?_;rintro e w2 ⟨rfl,o2⟩;have HO2:=Z0 (HO.out.trans o2);clear o2;have HK2:=Z0 (HK.out.quiet HO2.out);have HX2:Hid (LeftC B w2 col 2 N2 (.slice a6 m c6) (C 2 N2).1 (C 2 N2).2/\WereC w2 col (.slice a7 m c7) (C 2 N2).1 5 (C 2 N2).2):=⟨HX.out.1.chg (P:=fun c=>c=9) (Chg.of_out HO2.out _ _) (by omega),HX.out.2.chg (P:=fun c=>c=9) (Chg.of_out HO2.out _ _) (by omega)⟩
 obtain⟨aS,capS,eS⟩:=Q8 (HK2.out.own 6 (by omega) (by omega));have c2:=HK2.out.cell 6 (by omega);rw[HM.out.1] at eS;rw[eS] at c2;have HE1:=Z0 eS;have HL1:=Z0 HM.out.1;clear eS;go_wp2_with (at_builtin;refine B6 _ rfl _ _ 50 rfl B 70 i2 (.slice none 0 0) 1 24 Tryz.underlying50 hi2 hz0 hz1 hz2 rfl (by decide) _ N2 (X 6) rfl (by have q:=X8 (HK2.out.own 6 (by omega) (by omega)) ((Out.refl 0 0 _).alloc (.cells #[.slice a6 m c6] 70)) (Nat.zero_le _);rw[HE1.out,HL1.out] at q;exact q) ⟨w2.heap.size,0,none⟩ 1 1 [.slice a6 m c6] rfl rfl (J9 _ _ _) (z1v _ rfl) (by decide) ?c3 ?c4 ?c5 ?_)
 case c3=>unfold maxLen;have:=HFew.out;omega
 case c4=>have:=HFew.out;omega
 case c5=>have:=HK2.out.hB;simp;omega
 intro g1 cp1 wA1 own1 gr1;have own1':wA1.ownsRow B (tyS 6) 1 (.slice (some ⟨g1,0,none⟩) ((X 6).length+1) cp1) ((X 6).length+1) (X 6 ++ [.slice a6 m c6]):=by rw[HL1.out];exact own1
 have gr1':z5o (w2.alloc (.cells #[.slice a6 m c6] 70)) wA1 (V 6) g1:=by rw[HE1.out];exact gr1.grew
 obtain⟨hb1,V1,X1,col1,k1,k2,k3,k4,k5,k6⟩:=HK2.out.push (i:=6) (by omega) (by omega) ((Out.refl 0 0 _).alloc _) own1' gr1' (fun t ht e hp=>by
  obtain rfl:t=2:=by omega
  rw[HL1.out];exact HX2.out.1) (fun t ht e=>by omega) (fun t ht e=>by omega) (fun t ht e=>by omega)
 have d2:=G4 hb1 (i:=6) (by omega);have df:=G7 hb1 6;rw[HE1.out] at d2;rw[HL1.out] at k1 k4 k6;obtain⟨M1,hM1⟩:∃ M1,N2+1=M1:=⟨_,rfl⟩
 rw[hM1] at k1 k4 k6 ⊢;have HM1:=Z0 hM1;obtain⟨W2,hW2⟩:∃ W2,wA1.setCell ⟨b,6,none⟩ (.slice (some ⟨g1,0,none⟩) M1 cp1)=W2:=⟨_,rfl⟩
 rw[hW2] at k4 k6;obtain⟨aT,capT,eT⟩:=Q8 (HK2.out.own 7 (by omega) (by omega));rw[HM.out.2] at eT;have e3:=k4.cell 7 (by omega);rw[(k3 7 (by omega)).1,eT] at e3;have HK3:=Z0 k4;have HE2:Hid (V1 7=.slice aT N2 capT):=(k3 7 (by omega)).1.trans eT;have HL2:Hid ((X1 7).length=N2):=by show (X1 7).length=N2;rw[(k3 7 (by omega)).2];exact HM.out.2
 have HR:=Z0 (And.intro k2 (And.intro k3 (And.intro k5 k6)));clear own1 gr1 own1' gr1' hb1 k1 k2 k3 k4 k5 k6 eT hM1;go_wp2_with (at_builtin;refine B6 _ rfl _ _ 50 rfl B 70 i2 (.slice none 0 0) 1 24 Tryz.underlying50 hi2 hz0 hz1 hz2 rfl (by decide) _ N2 (X1 7) rfl (by have q:=X8 (HK3.out.own 7 (by omega) (by omega)) ((Out.refl 0 0 _).alloc (.cells #[.slice a7 m c7] 70)) (Nat.zero_le _);rw[HE2.out,HL2.out] at q;exact q) ⟨W2.heap.size,0,none⟩ 1 1 [.slice a7 m c7] rfl rfl (J9 _ _ _) (z1v _ rfl) (by decide) ?c3 ?c4 ?c5 ?_)
 case c3=>unfold maxLen;have:=HFew.out;omega
 case c4=>have:=HFew.out;omega
 case c5=>have:=HK3.out.hB;simp;omega
 intro g2 cp2 wA2 own1 gr1;have own1':wA2.ownsRow B (tyS 7) 1 (.slice (some ⟨g2,0,none⟩) ((X1 7).length+1) cp2) ((X1 7).length+1) (X1 7 ++ [.slice a7 m c7]):=by rw[HL2.out];exact own1
 have gr1':z5o (W2.alloc (.cells #[.slice a7 m c7] 70)) wA2 (V1 7) g2:=by rw[HE2.out];exact gr1.grew
 obtain⟨hb2,V3,X3,col3,r1,r2,r3,r4,r5,r6⟩:=HK3.out.push (i:=7) (by omega) (by omega) ((Out.refl 0 0 _).alloc _) own1' gr1' (fun t ht e hp=>by omega) (fun t ht e=>by
  obtain rfl:t=2:=by omega
  rw[HL2.out];exact HX2.out.2.pushed HR.out.2.2.1 (by omega) HR.out.2.2.2) (fun t ht e=>by omega) (fun t ht e=>by omega)
 have f3:=G4 hb2 (i:=7) (by omega);have ff:=G7 hb2 7;rw[HE2.out] at f3;rw[HL2.out] at r4 r6;rw[HM1.out] at r4 r6 ⊢;obtain⟨W4,hW4⟩:∃ W4,wA2.setCell ⟨b,7,none⟩ (.slice (some ⟨g2,0,none⟩) M1 cp2)=W4:=⟨_,rfl⟩
 rw[hW4] at r4 r6;have FIN:Hid (∃ V' X' col',Kp B W4 b V' X' C col' none p/\((X' 6).length=N2+1/\(X' 7).length=N2+1)/\(∀ j,j ≠ 6->j ≠ 7->V' j=V j/\X' j=X j)/\Fix col col' w W4):=by
  obtain⟨y2,y3,y5,y6⟩:=HR.out;refine⟨V3,X3,col3,r4,⟨?_,?_⟩,fun j j6 j7=>⟨(r3 j j7).1.trans (y3 j j6).1,(r3 j j7).2.trans (y3 j j6).2⟩,((((Fix.refl col w).out HO2.out).trans (Fix.of y6 (by omega) fun k hk h7=>by rw[y5 k hk];exact h7)).trans (Fix.of r6 (by omega) fun k hk h7=>by rw[r5 k hk];exact h7))⟩
  ·rw[(r3 6 (by omega)).2,y2,List.length_append,HM.out.1];rfl
  ·rw[r2,List.length_append,HL2.out];rfl
 clear own1 gr1 own1' gr1' hb2 r1 r2 r3 r4 r5 r6 hW2 c2 d2 df e3;go_wp2;go_ret;exact⟨rfl,FIN.out⟩
theorem x2l {B b n c:Nat} {st:Sp} {v0 v1:Value} {col:Nat->Nat} {z:Bool} {w0 w1 w:World} {vb vb':Value} (h:KS B w0 b v0 v1 col z c) (hc:c<=900) (o1:Out 0 0 w0 w1) (o2:Out 0 0 w1 w)
  (d1:F8 w1 w0.heap.size vb (J5 (Z6 n st) (64*n))) (d2:F8 w w1.heap.size vb' (J5 (Z6 n st) (64*n))) (hn:n<=24) (q:Bool) :
  Calls Tryz.prog 34 #[.pointer (some ⟨b,2,none⟩),vb,vb',.bool q] w fun e w'=>e=.returned (.bool true)/\∃ col',KS B w' b v0 v1 col' z (c+1)/\Fix col col' w0 w':=by
 obtain⟨V,X,C,p,N0,N2,F0,F1,F2,k1,k2,k3,k4,k5⟩:=h;have hBB:=k1.hB;have s1:=o1.size;have s2:=o2.size;have hlen:=z4o (Z6 n st) (64*n);obtain⟨L,hL⟩:∃ L,J5 (Z6 n st) (64*n)=L:=⟨_,rfl⟩
 rw[hL] at d1 d2 hlen;unfold F8 at d1 d2;have d1':=X8 d1 o2 (Nat.zero_le _);have A2:OwnF B w 2 vb L.length (fO L):=⟨_,z3d d1' hBB,fun j i hj hi=>j6q _ j i hj hi⟩
 have B2:OwnF B w 2 vb' L.length (fO L):=⟨_,z3d d2 (by omega),fun j i hj hi=>j6q _ j i hj hi⟩
 have b5:=fun g hg=>Z8 d1 g hg
 have b10:=fun g hg=>Z8 d2 g hg
 have oo:Out 0 0 w0 w:=o1.trans o2;have hl6:L.length<=1536:=by omega
 obtain⟨⟨q2,q3,q4,q5,q6,q7⟩,q8,q9,q10⟩:=id k2;by_cases hm:30<N0+N2
 ·refine(x2p (k1.quiet oo) A2.el B2.el hl6 ⟨q2,q6⟩ (by omega) hm).mono ?_;rintro e w' ⟨rfl,ho⟩;exact⟨rfl,col,⟨V,X,C,p,N0,N2,F0,F1,F2,(k1.quiet oo).quiet ho,k2,by omega,k4,k5⟩,((Fix.refl col w0).out oo).out ho⟩
 ·have hfew:N0+N2<=30:=by omega
  cases q with
  | false=>
   obtain⟨colN,hcN⟩:∃ cN:Nat->Nat,cN=fun y=>if vb.ownBlock=some y then 8 else col y:=⟨_,rfl⟩
   have hag:∀ y,y<w0.heap.size->colN y=col y:=fun y hy=>by
    rw[hcN];exact if_neg (fun e=>by have:=(b5 y e).1;omega)
   have kk:Kp B w b V X C colN none p:=(k1.recol fun y hy _=>hag y hy).quiet oo;refine(x2q kk A2 B2.el hl6 (fun g hg=>by rw[hcN];exact if_pos hg) ⟨q2,q6⟩ q10 (by omega) hfew).mono ?_;rintro e w' ⟨rfl,V',X',col',r1,r2,r3,r4⟩;refine⟨rfl,col',⟨V',X',C,p,N0,N2,F0,F1,F2+8,r1,⟨⟨?_,?_,?_,?_,?_,?_⟩,?_,?_,r2⟩,by omega,by rw[(r3 0 (by omega) (by omega)).1,(r3 1 (by omega) (by omega)).1];exact k4,k5⟩,?_⟩
   ·rw[(r3 2 (by omega) (by omega)).2];exact q2
   ·rw[(r3 3 (by omega) (by omega)).2];exact q3
   ·rw[(r3 4 (by omega) (by omega)).2];exact q4
   ·rw[(r3 5 (by omega) (by omega)).2];exact q5
   ·rw[(r3 6 (by omega) (by omega)).2];exact q6
   ·rw[(r3 7 (by omega) (by omega)).2];exact q7
   ·rw[(r3 8 (by omega) (by omega)).2,(r3 11 (by omega) (by omega)).2];exact q8
   ·rw[(r3 9 (by omega) (by omega)).2,(r3 12 (by omega) (by omega)).2];exact q9
   ·exact(((Fix.refl col w0).re (c2:=colN) fun k hk h7=>by rw[hag k hk];exact h7).out oo).trans r4
  | true=>
   obtain⟨C',hC'⟩:∃ C':Nat->Nat->Nat × (Nat->Nat->Int),C'=fun t i=>if t=2/\i=N2 then (L.length,fO L) else C t i:=⟨_,rfl⟩
   have hCM:C' 2 N2=(L.length,fO L):=by rw[hC'];exact if_pos ⟨rfl,rfl⟩
   obtain⟨colN,hcN⟩:∃ cN:Nat->Nat,cN=fun y=>if vb.ownBlock=some y then 100+3*N2+2 else if w1.heap.size<=y then 6 else col y:=⟨_,rfl⟩
   have hag:∀ y,y<w0.heap.size->colN y=col y:=fun y hy=>by
    rw[hcN]
    show (if vb.ownBlock=some y then _ else if w1.heap.size<=y then 6 else col y)=col y
    rw[if_neg (fun e=>by have:=(b5 y e).1;omega),if_neg (by omega)]
   have kk:Kp B w b V X C' colN none p:=((k1.setC (C':=C') fun t i ht hi=>by
    rw[hC'];refine if_neg (fun e=>?_);obtain⟨e1,e2⟩:=e;subst e1;rw[show 2+2*2=6 from rfl,show 3+2*2=7 from rfl] at hi;omega).recol fun y hy _=>hag y hy).quiet oo
   have c6:∀ y,w1.heap.size<=y->colN y=6:=fun y hy=>by
    rw[hcN]
    show (if vb.ownBlock=some y then _ else if w1.heap.size<=y then 6 else col y)=6
    rw[if_neg (fun e=>by have:=(b5 y e).2;omega),if_pos hy]
   have hlf:LeftC B w colN 2 N2 vb (C' 2 N2).1 (C' 2 N2).2:=by
    rw[hCM];exact⟨A2,hl6,fun g hg=>by rw[hcN];exact if_pos hg⟩
   have hwr:WereC w colN vb' (C' 2 N2).1 5 (C' 2 N2).2:=by
    rw[hCM];obtain⟨a,cap,rfl⟩:=B2.shape;refine⟨a,cap,rfl,fun h0=>?_⟩;obtain⟨g,cap',e,e2,e3,_,e4⟩:=B2.open h0;cases e;exact⟨g,rfl,e3,c6 g (b10 g rfl).1,e4⟩
   refine(x2o kk hlf hwr q2 ⟨q6,q7⟩ hfew).mono ?_;rintro e w' ⟨rfl,V',X',col',r1,r2,r3,r4⟩;refine⟨rfl,col',⟨V',X',C',p,N0,N2+1,F0,F1,F2,r1,⟨⟨?_,?_,?_,?_,r2.1,r2.2⟩,?_,?_,?_⟩,by omega,by rw[(r3 0 (by omega) (by omega)).1,(r3 1 (by omega) (by omega)).1];exact k4,k5⟩,?_⟩
   ·rw[(r3 2 (by omega) (by omega)).2];exact q2
   ·rw[(r3 3 (by omega) (by omega)).2];exact q3
   ·rw[(r3 4 (by omega) (by omega)).2];exact q4
   ·rw[(r3 5 (by omega) (by omega)).2];exact q5
   ·rw[(r3 8 (by omega) (by omega)).2,(r3 11 (by omega) (by omega)).2];exact q8
   ·rw[(r3 9 (by omega) (by omega)).2,(r3 12 (by omega) (by omega)).2];exact q9
   ·rw[(r3 10 (by omega) (by omega)).2,(r3 13 (by omega) (by omega)).2];exact q10
   ·exact(((Fix.refl col w0).re (c2:=colN) fun k hk h7=>by rw[hag k hk];exact h7).out oo).trans r4
section
variable {B:Nat} {w w':World} {b lo hi lo' hi' n cap cw co c c':Nat} {s sr:Nat->Nat} {st:Sp} {col col':Nat->Nat} {z z':Bool}
theorem x2s (h:PS B w b lo hi lo' hi' s sr n cap cw co st col z c) (hc:c<=800) (o0 o2 o3 o4:Int) (lp:Option Addr) (ll lc:Nat):Calls Tryz.prog 10 #[.pointer (some ⟨b,0,none⟩),.agg #[.int .i64 o0,.int .i64 16,.int .i64 o2,.int .i64 o3,.int .i64 o4,.slice lp ll lc]] w fun e w'=>e=.returned (.bool true)/\∃ col',PS B w' b lo hi lo' hi' s sr n cap cw co st col' z (c+2)/\Fix col col' w w':=by
 have HP:=Z0 h;have Hc:=Z0 hc;obtain⟨p0,p1⟩:=h.ks.cells;clear h hc;go_enter Tryz.func10,Tryz.ntmps10
 go_wp2_with fail;obtain⟨W,hW⟩:∃ W,w.alloc (.cells #[.int .i64 o0,.int .i64 16,.int .i64 o2,.int .i64 o3,.int .i64 o4,.slice lp ll lc] 32)=W:=⟨_,rfl⟩
 have oW:Out 0 0 w W:=by rw[<-hW];exact(Out.refl 0 0 _).alloc _
 replace p0:=oW.cell p0 z0;replace p1:=oW.cell p1 z0;rw[hW];clear hW;have P1:=HP.out.quiet oW;refine wp_region_held_drew (S:=fun w'=>w'.cell? ⟨b,0,none⟩=some (.pointer (some ⟨s 14,0,none⟩))/\w'.cell? ⟨b,1,none⟩=some (.pointer (some ⟨sr 0,0,none⟩))) (by kernel_rfl) ?hS1 (fun hHeld=>?rest1)
 case hS1=>exact⟨p0,p1⟩
 obtain⟨Z,hZ⟩:∃ Z,W.drew=Z:=⟨_,rfl⟩
 have oZ:Out 0 0 W Z:=by rw[<-hZ];exact(Out.refl 0 0 _).drew
 replace P1:=P1.quiet oZ;rw[hZ] at hHeld ⊢;clear hZ p0 p1;refine tk 0 ?_;refine tk 1 ?_;refine tk 2 ?_;refine tk 3 ?_;refine tk 4 ?_;refine tk 5 ?_;refine tk 6 ?_;refine tk 8 ?_;refine tk 9 ?_;refine tk 10 ?_;refine tk 11 ?_;refine rd1 7 fun KK hK=>?_
 simp only[xa,xb,xc];go_simp;refine(q1v P1.sp.1 (B7 st)).mono ?_;rintro e W1 ⟨va1,rfl,d1,q1⟩;refine hK.out _ _ ?hS13 (fun hHeld2=>?rest13)
 case hS13=>exact⟨q1.cell hHeld.1 z0,q1.cell hHeld.2 z0⟩
 clear hK KK;replace hHeld:=hHeld2;clear hHeld2;refine rd1 12 fun KK hK=>?_
 simp only[xa,xb,xc];go_simp;refine(z3y (P1.rf.quiet q1) P1.sp.2).mono ?_;rintro e W2 ⟨vc1,rfl,d2,q2⟩;refine hK.out _ _ ?hS14 (fun hHeld2=>?rest14)
 case hS14=>exact⟨q2.cell hHeld.1 z0,q2.cell hHeld.2 z0⟩
 clear hK KK;replace hHeld:=hHeld2;clear hHeld2;refine rd1 13 fun KK hK=>?_
 simp only[xa,xb,xc];go_simp;refine(x2l P1.ks (by have:=Hc.out;omega) q1 q2 d1 d2 P1.le.2.2 true).mono ?_;rintro e W3 ⟨rfl,colA,kA,fA⟩;have P2:=P1.fix fA kA;clear d1 d2 q1 q2;refine hK.out _ _ ?hS15 (fun hHeld2=>?rest15)
 case hS15=>exact kA.cells
 clear kA;clear hK KK;replace hHeld:=hHeld2;clear hHeld2;refine tk 14 ?_;refine tk 15 ?_;refine tk 16 ?_;refine tk 17 ?_;refine tk 18 ?_;refine tk 19 ?_;refine tk 20 ?_;refine tk 21 ?_;refine tk 23 ?_;refine tk 24 ?_;refine tk 25 ?_;refine tk 26 ?_;refine rd1 22 fun KK hK=>?_
 simp only[xa,xb,xc];go_simp;refine(q1v P2.sp.1 (B7 st)).mono ?_;rintro e W4 ⟨va2,rfl,d1,q1⟩;refine hK.out _ _ ?hS28 (fun hHeld2=>?rest28)
 case hS28=>exact⟨q1.cell hHeld.1 z0,q1.cell hHeld.2 z0⟩
 clear hK KK;replace hHeld:=hHeld2;clear hHeld2;refine rd1 27 fun KK hK=>?_
 simp only[xa,xb,xc];go_simp;refine(z3y (P2.rf.quiet q1) P2.sp.2).mono ?_;rintro e W5 ⟨vc2,rfl,d2,q2⟩;refine hK.out _ _ ?hS29 (fun hHeld2=>?rest29)
 case hS29=>exact⟨q2.cell hHeld.1 z0,q2.cell hHeld.2 z0⟩
 clear hK KK;replace hHeld:=hHeld2;clear hHeld2;refine rd1 28 fun KK hK=>?_
 simp only[xa,xb,xc];go_simp;refine(x2l P2.ks (by have:=Hc.out;omega) q1 q2 d1 d2 P2.le.2.2 false).mono ?_;rintro e W6 ⟨rfl,colB,kA,fB⟩;have P3:=P2.fix fB kA;clear d1 d2 q1 q2;refine hK.out _ _ ?hS30 (fun hHeld2=>?rest30)
 case hS30=>exact kA.cells
 clear kA;clear hK KK;replace hHeld:=hHeld2;clear hHeld2;refine tk 29 ?_;refine tk 30 ?_;refine dn ?_;have FIN:Hid (∃ col',PS B W6 b lo hi lo' hi' s sr n cap cw co st col' z (c+2)/\Fix col col' w W6):=⟨colB,P3,((((Fix.refl col w).out oW).out oZ).trans fA).trans fB⟩
 clear hHeld P3 P2 P1 fA fB;go_wp2;go_ret;exact⟨rfl,FIN.out⟩
end
def afM (n:Nat) (st:Sp) (a:Nat):Bool:=decide (0<=nxr (ob n st) (64*n) a)
def afA (n:Nat) (st:Sp) (a:Nat):Int:=if 0<=nxr (ob n st) (64*n) a then nxr (ob n st) (64*n) a else 0
def afO (n:Nat) (st:Sp) (a:Nat):Blk:=if 0<=nxr (ob n st) (64*n) a then st.O (nxr (ob n st) (64*n) a).toNat else noB
theorem x3e {n:Nat} {st:Sp} {a k:Nat} (h:nxr (ob n st) (64*n) a=(k:Int)):afM n st a=true/\afA n st a=(k:Int)/\afO n st a=st.O k:=by
 unfold afM afA afO;rw[h];exact⟨by simp,if_pos (by omega),(if_pos (by omega)).trans (by rw[show ((k:Nat):Int).toNat=k from by omega])⟩
theorem x3d {n:Nat} {st:Sp} {a:Nat} (h:nxr (ob n st) (64*n) a = -1):afM n st a=false/\afA n st a=0/\afO n st a=noB:=by
 unfold afM afA afO;rw[h];exact⟨by simp,if_neg (by omega),if_neg (by omega)⟩
theorem x3f {w:World} {g:Nat} {x0 x1 x2 x3 x4:Value} {T:TypeId} (h:w.heap[g]? = some (.cells #[x0,x1,x2,x3,x4] T (0,0))):w.cell? ⟨g,0,none⟩=some x0/\w.cell? ⟨g,1,none⟩=some x1/\w.cell? ⟨g,2,none⟩=some x2/\w.cell? ⟨g,3,none⟩=some x3/\w.cell? ⟨g,4,none⟩=some x4/\∀ i,w.frozen? ⟨g,i,none⟩=false:=by
 simp[World.cell?,World.frozen?,h]
theorem set5 {w:World} {g:Nat} {x0 x1 x2 x3 x4 y0 y1 y2 y3 y4:Value} {T:TypeId} (h:w.heap[g]? = some (.cells #[x0,x1,x2,x3,x4] T (0,0))) :
  (((((w.setCell ⟨g,0,none⟩ y0).setCell ⟨g,1,none⟩ y1).setCell ⟨g,2,none⟩ y2).setCell ⟨g,3,none⟩ y3).setCell ⟨g,4,none⟩ y4).heap[g]? = some (.cells #[y0,y1,y2,y3,y4] T (0,0)):=by
 simp[World.setCell,Array.getElem?_modify,h]
theorem out5 (w:World) (g:Nat) (y0 y1 y2 y3 y4:Value):Out g (g+1) w (((((w.setCell ⟨g,0,none⟩ y0).setCell ⟨g,1,none⟩ y1).setCell ⟨g,2,none⟩ y2).setCell ⟨g,3,none⟩ y3).setCell ⟨g,4,none⟩ y4):=
 (((((Out.refl _ _ _).setCell (p:=⟨g,0,none⟩) z1 _).setCell (p:=⟨g,1,none⟩) z1 _).setCell (p:=⟨g,2,none⟩) z1 _).setCell (p:=⟨g,3,none⟩) z1 _).setCell (p:=⟨g,4,none⟩) z1 _
section
variable {w:World} {b lo hi lo' hi' n cap cw co:Nat} {s sr:Nat->Nat} {st:Sp}
theorem x2h (h:Two w b lo hi lo' hi' s sr n cap cw co st) {a:Nat} (ha:a<=64*n) {x:Int} (hx:x+1=(a:Int)):Calls Tryz.prog 78 #[.pointer (some ⟨b,0,none⟩),.int .i64 x] w fun e w'=>e=.returned (.tuple #[q6a (afA n st a) (afO n st a),.bool (afM n st a)])/\Out 0 0 w w':=by
 have h2:=h.rf.n2;obtain⟨M,hM⟩:∃ M,64*n=M:=⟨_,rfl⟩
 have M1:(M:Int)<=262144:=by omega
 have M0:(0:Int)<=(M:Int):=by omega
 obtain⟨g,hg⟩:∃ g,w.heap.size=g:=⟨_,rfl⟩
 obtain⟨W,hW⟩:∃ W,w.alloc (.cells #[.int .i64 0,.int .i64 0,.int .i64 0,.int .i64 0,.int .i64 0] 97)=W:=⟨_,rfl⟩
 have o1:Out 0 0 w W:=by rw[<-hW];exact(Out.refl 0 0 _).alloc _
 have f0:W.heap[g]? = some (.cells #[.int .i64 0,.int .i64 0,.int .i64 0,.int .i64 0,.int .i64 0] 97 (0,0)):=by rw[<-hW,<-hg];exact heap_alloc_new _ _
 have hT:=h.quiet o1;have c2:=hT.rf.cells.2.2.1;rw[hM] at c2;have p1:=hT.p1;have HH:=Z0 hT;have HI:=Z0 h.sp.2;have HM:=Z0 hM;have HO:=Z0 o1;have HF:=Z0 f0;have hne:sr 4 ≠ g:=by have:=h.rf.inn 4 (by omega);have:=h.rf.top;omega
 have HG:Hid (w.heap.size<=g):=by show _<=_;omega
 have HA:=Z0 ha;obtain⟨c0,c1,c3,c4,c5,cf⟩:=x3f f0;have x1:-1<=x:=by omega
 have x2:x<=262144:=by omega
 have x3:x+1=(a:Int):=hx;clear h h2 hM hT o1 f0 ha hx;go_enter Tryz.func78,Tryz.ntmps78
 go_wp2_with fail;(try rw[hW]);(try rw[hg]);clear hW;(try rw[x3]);go_loopw [1] (fun y wr=>∃ i:Nat,y=.int .i64 (i:Int)/\a<=i/\i<=M/\(∀ j,a<=j->j<i->ob n st j=false)/\wr=W) (fun y _=>M-(intOf y).toNat)
 case atStart=>exact⟨a,rfl,Nat.le_refl _,by have:=HA.out;have:=HM.out;omega,fun j h1 h2=>by omega,rfl⟩
 case round=>
  obtain⟨i,rfl,i1,i2,hz,rfl⟩:=hrel;have b0:(0:Int)<=(i:Int):=by omega
  by_cases hi:i<M
  ·have b1:(i:Int)<(M:Int):=by omega
   have hm:=HM.out;have d0:=HH.out.rf.ro.cell (i:=i*5) (by omega);have d1:=HH.out.rf.ro.cell (i:=i*5+1) (by omega);have d2:=HH.out.rf.ro.cell (i:=i*5+2) (by omega);have d3:=HH.out.rf.ro.cell (i:=i*5+3) (by omega);have d4:=HH.out.rf.ro.cell (i:=i*5+4) (by omega);have hob:=z9j HI.out i;cases hb:Q7 (st.O i) with
   | false=>
    rw[z3g,hb,if_neg (by simp)] at d1;have HZ:Hid (∀ j,a<=j->j<i+1->ob n st j=false):=fun j j1 j2=>by
     by_cases e:j=i
     ·rw[e,hob];exact hb
     ·exact hz j j1 (by omega)
    clear hb d0 d2 d3 d4 hm hz hob c0 c1 c3 c4 c5 cf;go_wp2_with fail;exact⟨⟨i+1,by congr 1,by omega,by omega,HZ.out,trivial⟩,by simp[intOf] <;> omega⟩
   | true=>
    have hN:nxr (ob n st) (64*n) a=(i:Int):=z3n (by omega) i1 (by rw[hob];exact hb) hz;have HR:=Z0 (x3e hN);obtain⟨o0,o1,o2,o3,o4⟩:=q2o (st:=st) hb;obtain⟨b1',b2,b3,b4,hO⟩:∃ b1 b2 b3 b4,st.O i=(b1,b2,b3,b4):=⟨_,_,_,_,rfl⟩
    rw[hO] at o1 o2 o3 o4 HR;dsimp only at o1 o2 o3 o4;rw[o0] at d0;rw[o1] at d1;rw[o2] at d2;rw[o3] at d3;rw[o4] at d4;have hk0:b1' ≠ 0:=by rw[hO] at hb;unfold Q7 at hb;simpa using hb
    have hkb:(b1' != 0)=true:=by simpa using hk0
    clear hb hO o0 o1 o2 o3 o4 hm hz hob hN;go_wp2;refine z4z (g:=g) Tryz.results78 rfl rfl rfl (set5 HF.out) ⟨?_,HO.out.past (out5 _ _ _ _ _ _ _) HG.out⟩;obtain⟨r1,r2,r3⟩:=HR.out;rw[r1,r2,r3];rfl
  ·have e:i=M:=by omega
   subst e;have hN:nxr (ob n st) (64*n) a = -1:=by
    rcases Q1 (ob n st) (64*n) a with ⟨e,_⟩ | ⟨k,_,k1,k2,k3,_⟩
    ·exact e
    ·have:=k2 HA.out;rw[hz k this (by have:=HM.out;omega)] at k3;cases k3
   have HR:=Z0 (x3d hN);clear hz hN;go_wp2;refine z4z (g:=g) Tryz.results78 rfl rfl rfl (set5 HF.out) ⟨?_,HO.out.past (out5 _ _ _ _ _ _ _) HG.out⟩;obtain⟨r1,r2,r3⟩:=HR.out;rw[r1,r2,r3];rfl
end
end Go.Proofs.YtjbbkeoolodeaabGreatDoor
namespace Go.Proofs.YtjbbkeoolodeaabGreatDoor
open Go.RowKit
attribute [local go_sem] Oper.semAt_some
set_option linter.unusedVariables false
set_option maxRecDepth 100000
set_option maxHeartbeats 16000000
set_option linter.unusedSimpArgs false
theorem x3i {lo hi n cap g gd gm gw go gt gp:Nat} {s:Nat->Nat} (I:Nat->World->Prop) (J Jx:World->Prop) {w:World}
  (hm:∀ p w,I p w->p<=64*n/\∃ r,RawAt w lo hi s n cap r/\z8q r/\Box w g 34 (.pointer (some ⟨s 14,0,none⟩)))
  (hq:∀ p w1 w2 x y,I p w1->Out x y w1 w2->((w.heap.size<=x/\y<=w.heap.size+4)\/y=0)->I p w2)
  (hqJ:∀ w1 w2 x y,J w1->Out x y w1 w2->w.heap.size<=x/\y<=w.heap.size+4->J w2) (hqX:∀ w1 w2 x y,Jx w1->Out x y w1 w2->w.heap.size<=x/\y<=w.heap.size+4->Jx w2)
  (hy:∀ p w1 r (k:Nat) b,I p w1->RawAt w1 lo hi s n cap r->nxr r.P (64*n) p=k->r.M (k:Int)=some b->Calls Tryz.prog 79 #[q6a k b,.pointer (some ⟨gd,0,none⟩),.pointer (some ⟨gm,0,none⟩),.pointer (some ⟨gw,0,none⟩),.pointer (some ⟨go,0,none⟩),.pointer (some ⟨gt,0,none⟩),.pointer (some ⟨gp,0,none⟩)] w1 fun e w'=>Sv w.heap.size 4 w1 w'/\((e=.returned (.bool true)/\I (k+1) w')\/(e=.returned (.bool false)/\Jx w')))
  (hjx:∀ w1,Jx w1->∃ r,RawAt w1 lo hi s n cap r/\Box w1 g 34 (.pointer (some ⟨s 14,0,none⟩)))
  (he:∀ p w1 r,I p w1->RawAt w1 lo hi s n cap r->nxr r.P (64*n) p = -1->J w1) (h0:I 0 w) :
  Calls Tryz.prog 126 #[.func (.func 79) #[] #[.pointer (some ⟨gd,0,none⟩),.pointer (some ⟨gm,0,none⟩),.pointer (some ⟨gw,0,none⟩),.pointer (some ⟨go,0,none⟩),.pointer (some ⟨gt,0,none⟩),.pointer (some ⟨gp,0,none⟩)],.pointer (some ⟨g,0,none⟩)] w fun e w'=>(∃ v,e=.returned v)/\(J w'\/Jx w'):=by
 obtain⟨_,r0,hr0,_,hb0⟩:=hm 0 w h0;have hW0:Out 0 0 w (w.alloc (.cells #[.func (.func 79) #[] #[.pointer (some ⟨gd,0,none⟩),.pointer (some ⟨gm,0,none⟩),.pointer (some ⟨gw,0,none⟩),.pointer (some ⟨go,0,none⟩),.pointer (some ⟨gt,0,none⟩),.pointer (some ⟨gp,0,none⟩)]] 124)):=(Out.refl 0 0 w).alloc _;have hr1:=hr0.quiet hW0;have c0:=(hb0.kept hW0 z0).cell;obtain⟨d0,d1,d2,d3,d4,d5⟩:=hr1.cells;have HM:=Z0 hm;have HQ:=Z0 hq;have HQJ:=Z0 hqJ;have HQX:=Z0 hqX;have HY:=Z0 hy;have HE:=Z0 he;have HI:=Z0 h0;have HJx:=Z0 hjx;have HG:Hid (g<w.heap.size):=hb0.lt;have HT:Hid (hi<=w.heap.size/\4<=w.heap.size):=⟨hr0.top,hr0.tab.lt⟩
 clear hm hq hy he h0 hjx hb0 hr0 hr1 hqJ hqX hW0;refine(callsIn_wide (n:=0)).1 ?_;refine callsIn_of_wp_marks Tryz.func126 rfl trivial ?_ rfl;simp only[Tryz.ntmps126,List.size_toArray,List.length_cons,List.length_nil,Nat.reduceAdd,Nat.reduceSub,Array.replicate_succ,Array.replicate_zero,List.push_toArray,List.append_toArray,List.nil_append,List.cons_append];gi_wp2_with (first
  | (refine⟨trivial,rfl,?_⟩;gi_at_call 49;refine(callsIn_wide.2 (z0f _ _)).mono ?_;rintro e w1 ⟨rfl,rfl⟩)
  | (refine⟨trivial,rfl,?_⟩;gi_at_call 127;refine(callsIn_wide.2 (q0h _ _)).mono ?_;rintro e w1 ⟨rfl,rfl⟩))
 obtain⟨W1,hW1⟩:∃ W1,(w.alloc (.cells #[.func (.func 79) #[] #[.pointer (some ⟨gd,0,none⟩),.pointer (some ⟨gm,0,none⟩),.pointer (some ⟨gw,0,none⟩),.pointer (some ⟨go,0,none⟩),.pointer (some ⟨gt,0,none⟩),.pointer (some ⟨gp,0,none⟩)]] 124)).alloc (.cells #[.pointer (some ⟨s 8+1,0,none⟩)] 87)=W1:=⟨_,rfl⟩
 have hs1:W1.heap.size=w.heap.size+2:=by rw[<-hW1];simp
 have ho1:Out 0 0 w W1:=by rw[<-hW1];exact((Out.refl 0 0 w).alloc _).alloc _
 have hy1:Box W1 w.heap.size 124 (.func (.func 79) #[] #[.pointer (some ⟨gd,0,none⟩),.pointer (some ⟨gm,0,none⟩),.pointer (some ⟨gw,0,none⟩),.pointer (some ⟨go,0,none⟩),.pointer (some ⟨gt,0,none⟩),.pointer (some ⟨gp,0,none⟩)]):=by rw[<-hW1];exact K4
 have hx1:Box W1 (w.heap.size+1) 87 (.pointer (some ⟨s 8+1,0,none⟩)):=by rw[<-hW1];exact heap_alloc2_new _ _ _
 rw[hW1];clear c0 d0 d1 d2 d3 d4 d5 hW1;have HO1:=Z0 ho1;have HY1:=Z0 hy1;have HX1:=Z0 hx1;have HS1:=Z0 hs1;clear ho1 hy1 hx1;refine z1a (gf:=156) (lb:=#[.pointer (some ⟨w.heap.size+1,0,none⟩)]) rfl (enters_of Tryz.func156 (by kernel_rfl) rfl) J (fun c W=>c=.ret/\Jx W) ?H ?done ?stop
 case H=>
  intro rec hrec W2 hW2;rw[hs1];have HR:=Z0 hrec;have ho2:Out 0 0 W1 W2:=by rw[hW2];exact((Out.refl 0 0 W1).alloc _).alloc _
  have hd2:W2.heap[w.heap.size+2]? = some (.deferred (some [])):=by rw[hW2,<-hs1];exact K4
  have hl2:W2.heap[w.heap.size+2+1]? = some (.loop (rec .ready none)):=by rw[hW2,<-hs1];exact heap_alloc2_new _ _ _
  refine(z5l (lo:=s 8) (hi:=s 8+2) (b:=s 8+1) (n:=64*n) (g:=w.heap.size+1) (l:=w.heap.size+2+1)
   (fun p W=>I p W/\Box W w.heap.size 124 (.func (.func 79) #[] #[.pointer (some ⟨gd,0,none⟩),.pointer (some ⟨gm,0,none⟩),.pointer (some ⟨gw,0,none⟩),.pointer (some ⟨go,0,none⟩),.pointer (some ⟨gt,0,none⟩),.pointer (some ⟨gp,0,none⟩)])/\Box W (w.heap.size+1) 87 (.pointer (some ⟨s 8+1,0,none⟩))/\W.heap[w.heap.size+2]? = some (.deferred (some []))/\W.heap[w.heap.size+2+1]? = some (.loop (rec .ready none)))
   (fun W=>J W/\W.heap[w.heap.size+2]? = some (.deferred (some []))/\W.heap[w.heap.size+2+1]? = some (.loop (rec .ready none)))
   (fun W=>Jx W/\W.heap[w.heap.size+2]? = some (.deferred (some []))/\W.heap[w.heap.size+2+1]? = some (.loop (rec .done (some .ret)))) ?hm1 ?hq1 ?hy1 ?he1 (w:=W2) ?hz1).mono ?_
  case hm1=>
   rintro p W ⟨a1,a2,a3,a4,a5⟩;obtain⟨b1,r,b2,b3,b4⟩:=HM.out p W a1;exact⟨b1,r.P,b2.places,a3⟩
  case hq1=>
   rintro p W W' ⟨a1,a2,a3,a4,a5⟩ o;exact⟨HQ.out p W W' 0 0 a1 o (.inr rfl),a2.kept o z0,a3.kept o z0,o.heap a4 z0,o.heap a5 z0⟩
  case hz1=>exact⟨HQ.out 0 W1 W2 0 0 (HQ.out 0 w W1 0 0 HI.out HO1.out (.inr rfl)) ho2 (.inr rfl),HY1.out.kept ho2 z0,HX1.out.kept ho2 z0,hd2,hl2⟩
  case he1=>
   rintro p W S ⟨a1,a2,a3,a4,a5⟩ hS hn;obtain⟨b1,r,b2,b3,b4⟩:=HM.out p W a1;rw[hS.one b2.places] at hn;exact⟨HE.out p W r a1 b2 hn,a4,a5⟩
  case hy1=>
   rintro p W S k ⟨a1,a2,a3,a4,a5⟩ hS hn;obtain⟨b1,r,b2,b3,b4⟩:=HM.out p W a1;rw[hS.one b2.places] at hn;have hk:r.P k=true:=by
    rcases Q1 r.P (64*n) p with ⟨e1,_⟩ | ⟨i,e1,_,_,e3,_⟩
    ·omega
    ·rw[show k=i from by omega];exact e3
   obtain⟨⟨kd,sz,se,tg⟩,hb⟩:=b3 k hk;have HYY:=Z0 (fun W' (o:Out (w.heap.size+2+1) (w.heap.size+2+1+1) W W')=>HY.out p W' r k _ (HQ.out p W W' _ _ a1 o (.inl (by omega))) (b2.kept o (.inl (by have:=HT.out;omega)) (.inl (by have:=HT.out;omega))) hn hb);have A:=Z0 (And.intro a2 (And.intro a4 b4));have AX:=Z0 a3;have B2:=Z0 b2;have HB:=Z0 hb;have HL5:=Z0 a5;have hk0:(0:Int)<=(k:Int):=by omega
   refine z0y HR.out a5 rfl ?_;clear a1 a2 a3 a4 a5 b1 b2 b3 b4 hS hn hk hb;gi_wp2;refine⟨HL5.out,?_⟩;intro W3 ho3 hl3;have ho4:Out (w.heap.size+2+1) (w.heap.size+2+1+1) W W3.drew:=ho3.drew;have B3:=B2.out.kept ho4 (.inl (by have:=HT.out;omega)) (.inl (by have:=HT.out;omega));obtain⟨d0,d1,d2,d3,d4,d5⟩:=B3.cells;have c0:=(A.out.1.kept ho4 (.inl (by omega))).cell;have c1:=(A.out.2.2.kept ho4 (.inl (by have:=A.out.2.2.lt;have:=B2.out.top;have:=HT.out;have:=HG.out;omega))).cell;have hlk:=B3.look false (k:Int);rw[show z6b r.M (k:Int)=some (.agg #[.int .i64 (k:Int),.int .i64 kd,.int .i64 sz,.int .i64 se,.int .i64 tg]) from by unfold z6b;rw[HB.out];rfl] at hlk;simp only[Option.getD_some,Bool.false_eq_true,if_false] at hlk;have hYc:=HYY.out W3.drew ho4;unfold q6a at hYc;have HRR:=Z0 (hYc.mono (R':=fun e W4=>∃ bb:Bool,e=.returned (.bool bb)/\Sv w.heap.size 4 W3.drew W4/\(bb=true->I (k+1) W4)/\(bb=false->Jx W4)) (fun e W4 h=>z9k h));have HO4:=Z0 ho4;have HL3:=Z0 hl3;clear hYc ho3 ho4 B3 hl3;gi_wp2_with fail;refine z0p (S:=fun w'=>w'.cell? ⟨w.heap.size,0,none⟩=some (.func (.func 79) #[] #[.pointer (some ⟨gd,0,none⟩),.pointer (some ⟨gm,0,none⟩),.pointer (some ⟨gw,0,none⟩),.pointer (some ⟨go,0,none⟩),.pointer (some ⟨gt,0,none⟩),.pointer (some ⟨gp,0,none⟩)])/\w'.cell? ⟨g,0,none⟩=some (.pointer (some ⟨s 14,0,none⟩))/\w'.cell? ⟨s 14,2,none⟩=some (.map (some (s 12)))) (by kernel_rfl) (by kernel_rfl) ?hS1 (fun hHeld=>?rest1)
   case hS1=>exact⟨c0,c1,d2⟩
   refine tk 0 ?_;refine tk 1 ?_;refine tk 2 ?_;refine tk 3 ?_;refine tk 4 ?_;refine tk 5 ?_;refine rd1 6 fun KK hK=>?_
   simp only[xa,xb,xc];go_simp;refine hK.out _ _ ?hS8 (fun hHeld2=>?rest8)
   case hS8=>exact hHeld
   clear hK KK;replace hHeld:=hHeld2;clear hHeld2;refine rd1 7 fun KK hK=>?_
   simp only[xa,xb,xc];go_simp;refine HRR.out.mono ?_;rintro e W4 ⟨bb,rfl,ho5,hI4,hx4⟩;have hcl:∃ r',RawAt W4 lo hi s n cap r'/\Box W4 g 34 (.pointer (some ⟨s 14,0,none⟩)):=by
    cases bb with
    | false=>exact HJx.out W4 (hx4 rfl)
    | true=>obtain⟨_,r',q1,_,q2⟩:=HM.out _ _ (hI4 rfl);exact⟨r',q1,q2⟩
   obtain⟨r',q1,q2⟩:=hcl;refine hK.out _ _ ?hS9 (fun hHeld2=>?rest9)
   case hS9=>exact⟨(show Box W4 w.heap.size _ _ from ho5.heap (A.out.1.kept HO4.out (.inl (by omega))) (by omega) (by omega)).cell,q2.cell,q1.cells.2.2.1⟩
   clear hK KK;replace hHeld:=hHeld2;clear hHeld2;refine tk 8 ?_;refine dn ?_;clear hHeld;simp only[q2k,z8r];have HO5:=Z0 ho5;have HH4:=Z0 (And.intro hI4 hx4);clear ho5 hI4 hx4 q1 q2;cases bb
   ·gi_wp2;refine⟨HO5.out.heap HL3.out (by omega) (by omega),?_⟩;intro W5 ho6 hl6;exact .inr ⟨rfl,HQX.out _ _ _ _ (HH4.out.2 (by first | rfl | trivial)) ho6 (by omega),ho6.heap (HO5.out.heap ((HO4.out.heap A.out.2.1 (.inl (by omega)))) (by omega) (by omega)) (.inl (by omega)),hl6⟩
   ·gi_wp2;refine⟨HO5.out.heap HL3.out (by omega) (by omega),?_⟩;intro W5 ho6 hl6;exact .inl ⟨rfl,HQ.out _ _ _ _ _ (HH4.out.1 (by first | rfl | trivial)) ho6 (.inl (by omega)),(ho6.heap (HO5.out.heap (A.out.1.kept HO4.out (.inl (by omega))) (by omega) (by omega)) (.inl (by omega))),(ho6.heap (HO5.out.heap (AX.out.kept HO4.out (.inl (by omega))) (by omega) (by omega)) (.inl (by omega))),ho6.heap (HO5.out.heap ((HO4.out.heap A.out.2.1 (.inl (by omega)))) (by omega) (by omega)) (.inl (by omega)),hl6⟩
  ·rintro e W ⟨hv,⟨a1,a2,a3⟩ | ⟨a1,a2,a3⟩⟩
   ·exact⟨hv,a2,.inl ⟨a1,a3⟩⟩
   ·exact⟨hv,a2,.inr ⟨.ret,⟨rfl,a1⟩,a3⟩⟩
 case done=>
  intro W W' hJ ho hd;have HJ:=Z0 (HQJ.out W W' _ _ hJ ho (by omega));have HD:=Z0 hd;clear hJ ho hd;gi_wp2;refine⟨by simp,.inl ⟨_,_,rfl,run_takeDeferred HD.out,?_⟩⟩;exact⟨_,results_none rfl _ _ _,⟨_,rfl⟩,.inl (HQJ.out _ _ _ _ HJ.out (Q2 _ _ _) (by omega))⟩
 case stop=>
  rintro c W W' ⟨rfl,hJ⟩ ho hd;have HJ:=Z0 (HQX.out W W' _ _ hJ ho (by omega));have HD:=Z0 hd;clear hJ ho hd;gi_wp2;refine⟨by simp,.inl ⟨_,_,rfl,run_takeDeferred HD.out,?_⟩⟩;exact⟨_,results_none rfl _ _ _,⟨_,rfl⟩,.inr (HQX.out _ _ _ _ HJ.out (Q2 _ _ _) (by omega))⟩
end Go.Proofs.YtjbbkeoolodeaabGreatDoor
