import Derived.Test.YtjbbkeoolodeaabGreatDoorB03
namespace Go.Proofs.YtjbbkeoolodeaabGreatDoor
open Go.RowKit
set_option linter.unusedVariables false
set_option maxRecDepth 100000
set_option maxHeartbeats 16000000
set_option linter.unusedSimpArgs false
theorem q2g {B b:Nat} {w:World} {V:Nat->Value} {X:Nat->List Value} {C:Nat->Nat->Nat × (Nat->Nat->Int)} {col:Nat->Nat} {p:Nat->Nat} {l:Value} {n:Nat} {f:Nat->Nat->Int}
  (h:Kp B w b V X C col none p) (hl:OwnF B w 2 l n f) (hn:n<=1536) (hc:∀ x,l.ownBlock=some x->col x=8) {K:Nat} (hK:(X 10).length=K/\(X 13).length=K) (hK2:K<=8000) :
  Calls Tryz.prog 75 #[.pointer (some ⟨b,2,none⟩),l] w fun e w'=>e=.returned (.tuple #[])/\x3n B b V X C p 10 13 (K+8) col w w':=by
 obtain⟨aM,capM,eM⟩:=Q8 (h.own 13 (by omega) (by omega));have c3:=h.cell 13 (by omega);rw[eM,hK.2] at c3;obtain⟨aF,capF,rfl⟩:=hl.shape;obtain⟨i0,hi0,hz0,hz1,hz2⟩:=Q3 z3f;obtain⟨i1,hi1,hy0,hy1,hy2⟩:=Q3 q6k;obtain⟨i2,hi2,hx0,hx1,hx2⟩:=Q3 j6a;have HK:=Z0 h;have HL:=Z0 hl;have HC:=Z0 hc;have HLn:=Z0 hK;have HM:=Z0 hK2;have HN:=Z0 hn;obtain⟨m,hm⟩:∃ m:Nat,(1000003:Int)+(K:Int)=(m:Int):=⟨1000003+K,by omega⟩
 have Hm:=Z0 hm;have k6:(K:Int)<=8000:=by omega
 have Hm3:Hid (m<=2000000):=by show m<=2000000;omega
 have m3:(m:Int)<=2000000:=by omega
 have m0:(0:Int)<=(m:Int):=by omega
 have nb:(n:Int)<=1536:=by omega
 clear h hl hc hK hK2 hn eM;go_enter Tryz.func75,Tryz.ntmps75
 go_wp2_with fail;go_loopw [5] (fun y wr=>∃ i:Nat,i<=n/\y=.int .i64 i/\Kp B wr b V X C col none p/\OwnF B wr 2 (.slice aF n capF) n (fun j k=>if j<i then mkF 2 m k else f j k)/\Fix col col w wr) (fun y _=>n-(intOf y).toNat)
 case atStart=>exact⟨0,Nat.zero_le _,rfl,HK.out,HL.out.congr fun j k _ _=>by rw[if_neg (by omega)],Fix.refl _ _⟩
 case round=>
  obtain⟨i,i1',rfl,hk,hl,hb⟩:=hrel;clear HL HK c3;have b0:(0:Int)<=(i:Int):=by omega
  by_cases hi:i<n
  ·obtain⟨g,cap',e',go,gl,gf,gc⟩:=hl.open (by omega);cases e';have b1:(i:Int)<(n:Int):=by omega
   have q0:wr.cell? ⟨g,i*5,none⟩=_:=gc i 0 hi (by decide);have z0:=gf (i*5);have q1:wr.cell? ⟨g,i*5+1,none⟩=_:=gc i 1 hi (by decide);have z1:=gf (i*5+1);have q2:wr.cell? ⟨g,i*5+2,none⟩=_:=gc i 2 hi (by decide);have z2:=gf (i*5+2);have q3:wr.cell? ⟨g,i*5+3,none⟩=_:=gc i 3 hi (by decide);have z3:=gf (i*5+3);have q4:wr.cell? ⟨g,i*5+4,none⟩=_:=gc i 4 hi (by decide);have z4:=gf (i*5+4);have s0:=hl.set go (j0:=i) (k0:=0) hi (by decide) (0);have s1:=s0.set go (j0:=i) (k0:=1) hi (by decide) ((m:Int));have s2:=s1.set go (j0:=i) (k0:=2) hi (by decide) (0);have s3:=s2.set go (j0:=i) (k0:=3) hi (by decide) (0);have s4:=s3.set go (j0:=i) (k0:=4) hi (by decide) (0);have hl2:OwnF B (((((wr.setCell ⟨g,i*5,none⟩ (.int .i64 0)).setCell ⟨g,i*5+1,none⟩ (.int .i64 (m:Int))).setCell ⟨g,i*5+2,none⟩ (.int .i64 0)).setCell ⟨g,i*5+3,none⟩ (.int .i64 0)).setCell ⟨g,i*5+4,none⟩ (.int .i64 0)) 2 (.slice (some ⟨g,0,none⟩) n capF) n (fun j k=>if j<i+1 then mkF 2 m k else f j k):=by
    have q:=s4.congr (f':=fun j k=>if j<i+1 then mkF 2 m k else f j k) (fun j k hj hk=>by
     have hk2:k<5:=hk;(try dsimp only);by_cases e:j=i
     ·subst e;rw[if_pos (Nat.lt_succ_self _)];unfold mkF;have hc:k=0\/k=1\/k=2\/k=3\/k=4:=by omega
      rcases hc with rfl | rfl | rfl | rfl | rfl <;> simp
     ·have e2:∀ c,¬ (j=i/\k=c):=fun c h=>e h.1
      simp only[if_neg (e2 _)];by_cases q:j<i
      ·rw[if_pos q,if_pos (by omega)]
      ·rw[if_neg q,if_neg (by omega)])
    exact q
   have ch:Chg col (fun c=>c=8) wr (((((wr.setCell ⟨g,i*5,none⟩ (.int .i64 0)).setCell ⟨g,i*5+1,none⟩ (.int .i64 (m:Int))).setCell ⟨g,i*5+2,none⟩ (.int .i64 0)).setCell ⟨g,i*5+3,none⟩ (.int .i64 0)).setCell ⟨g,i*5+4,none⟩ (.int .i64 0)):=((((((Chg.of_out (Out.refl 0 0 _) _ _).setCell (p:=⟨g,i*5,none⟩) (HC.out g rfl) _).setCell (p:=⟨g,i*5+1,none⟩) (HC.out g rfl) _).setCell (p:=⟨g,i*5+2,none⟩) (HC.out g rfl) _).setCell (p:=⟨g,i*5+3,none⟩) (HC.out g rfl) _).setCell (p:=⟨g,i*5+4,none⟩) (HC.out g rfl) _)
   have HK2:=Z0 (hk.chg ch (fun _ h=>.inr (.inr ⟨h,rfl⟩)));have HL2:=Z0 hl2;have HB2:=Z0 (hb.trans (Fix.of ch (by decide) (fun _ _ h=>h)));generalize (if i<i then mkF 2 m 0 else f i 0)=y0 at q0
   generalize (if i<i then mkF 2 m 1 else f i 1)=y1 at q1
   generalize (if i<i then mkF 2 m 2 else f i 2)=y2 at q2
   generalize (if i<i then mkF 2 m 3 else f i 3)=y3 at q3
   generalize (if i<i then mkF 2 m 4 else f i 4)=y4 at q4
   clear s4;clear s3;clear s2;clear s1;clear s0;clear hl hk hb gc gf ch go gl hl2;go_wp2;go_roundw
   case rel=>exact⟨i+1,by omega,by go_num,HK2.out,HL2.out,HB2.out⟩
   case measure=>simp[intOf];omega
  ·have:i=n:=by omega
   subst this;have H:Hid (MSt B b V X C p 10 13 K col w 2 m (.slice aF i capF) i wr 0 V X col):=⟨hk.opened _ _,hl.congr fun j k hj _=>if_pos hj,HC.out,⟨HLn.out.1,HLn.out.2⟩,fun _ _ _=>⟨rfl,rfl⟩,hb⟩
   clear hl hk hb HC;obtain⟨nn,hnn⟩:∃ nn,nn=i:=⟨_,rfl⟩
   rw[<-hnn] at H HN ⊢;clear hnn hi i1';obtain⟨kr,hkr⟩:∃ kr,K+0=kr:=⟨_,rfl⟩
   have L1:=Z0 (H.out.2.2.2.1.1.trans hkr);have L2:=Z0 (H.out.2.2.2.1.2.trans hkr);have Hkr:=Z0 hkr;clear hkr;obtain⟨aS,capS,eS⟩:=Q8 (H.out.1.own 10 (by omega) (by omega));have c2:=H.out.1.cell 10 (by omega);rw[eS,L1.out] at c2;go_wp2_with (at_builtin;refine B6 _ rfl _ _ 50 rfl B 70 i1 (.slice none 0 0) 1 24 Tryz.underlying50 hi1 hy0 hy1 hy2 rfl (by decide) _ kr (X 10) rfl (by have q:=X8 (H.out.1.own 10 (by omega) (by omega)) ((Out.refl 0 0 _).alloc (.cells #[.slice aF nn capF] 70)) (Nat.zero_le _);rw[eS,L1.out] at q;exact q) ⟨wr.heap.size,0,none⟩ 1 1 [.slice aF nn capF] rfl rfl (J9 _ _ _) (z1v _ rfl) (by decide) ?c3 ?c4 ?c5 ?_)
   case c3=>unfold maxLen;have:=HM.out;have:=Hkr.out;  omega
   case c4=>have:=HM.out;have:=Hkr.out;  omega
   case c5=>have:=H.out.1.hB;simp;omega
   intro g1 cp1 wA own1 gr1;have own1':wA.ownsRow B (tyS 10) 1 (.slice (some ⟨g1,0,none⟩) ((X 10).length+1) cp1) ((X 10).length+1) (X 10 ++ [.slice aF nn capF]):=by rw[L1.out];exact own1
   have gr1':z5o (wr.alloc (.cells #[.slice aF nn capF] 70)) wA (V 10) g1:=by rw[eS,L1.out];exact gr1.grew
   obtain⟨hb1,V2,X2,col3,k1,k2,k3,k4,k5,k6',k7,k8,k9,k10⟩:=H.out.push1 (by omega) rfl rfl H.out.2.1 (fun z hz=>.inl (H.out.2.2.1 z hz)) (by have:=HN.out;have:=Hm3.out;  omega) ((Out.refl 0 0 _).alloc _) own1' gr1';rw[L1.out] at k1 k2 k6' k10;obtain⟨aT,capT,eT⟩:=Q8 (H.out.1.own 13 (by omega) (by omega));have eT2:V2 13=.slice aT kr capT:=by rw[k7,eT,L2.out]
   have d2:=G4 hb1 (i:=10) (by omega);have df:=G7 hb1 10;rw[eS,L1.out] at d2;obtain⟨kr1,hkr1⟩:∃ kr1,kr+1=kr1:=⟨_,rfl⟩
   rw[hkr1] at k1 k2 k6' k10 ⊢;have Hkr1:=Z0 hkr1;have L3:=Z0 (k4.2.trans Hkr.out);clear hkr1;obtain⟨W2,hW2⟩:∃ W2,wA.setCell ⟨b,10,none⟩ (.slice (some ⟨g1,0,none⟩) kr1 cp1)=W2:=⟨_,rfl⟩
   rw[hW2] at k1 k2 k6' k10;have e3:=k1.cell 13 (by omega);rw[eT2] at e3;have HH1:=Z0 (And.intro k1 (And.intro k2 (And.intro k3 (And.intro k4 (And.intro k5 (And.intro k6' (And.intro k9 k10)))))));have HT:=Z0 eT2;clear own1 gr1 own1' gr1' hb1 k1 k2 k3 k4 k5 k6' k7 k8 k9 k10 eT eT2 eS;go_wp2_with (at_builtin;refine B6 _ rfl _ _ 30 rfl B 3 i0 (.int .i64 0) 1 8 Tryz.underlying30 hi0 hz0 hz1 hz2 rfl (by decide) _ kr (X2 13) rfl (by have q:=X8 (HH1.out.1.own 13 (by omega) (by omega)) ((Out.refl 0 0 _).alloc (.cells #[.int .i64 (m:Int)] 3)) (Nat.zero_le _);rw[HT.out,L3.out] at q;exact q) ⟨W2.heap.size,0,none⟩ 1 1 [.int .i64 (m:Int)] rfl rfl (J9 _ _ _) (z1v _ rfl) (by decide) ?c3 ?c4 ?c5 ?_)
   case c3=>unfold maxLen;have:=HM.out;have:=Hkr.out;  omega
   case c4=>have:=HM.out;have:=Hkr.out;  omega
   case c5=>have:=HH1.out.1.hB;simp;omega
   intro g2 cp2 wB own2 gr2;have own2':wB.ownsRow B (tyS 13) 1 (.slice (some ⟨g2,0,none⟩) ((X2 13).length+1) cp2) ((X2 13).length+1) (X2 13 ++ [.int .i64 (m:Int)]):=by rw[L3.out];exact own2
   have gr2':z5o (W2.alloc (.cells #[.int .i64 (m:Int)] 3)) wB (V2 13) g2:=by rw[HT.out];exact gr2.grew
   obtain⟨hb2,V3,X3,col4,r1⟩:=MSt.push2 HH1.out.1 HH1.out.2.1 HH1.out.2.2.1 HH1.out.2.2.2.1 HH1.out.2.2.2.2.1 HH1.out.2.2.2.2.2.1 HH1.out.2.2.2.2.2.2.1 HH1.out.2.2.2.2.2.2.2 (by omega) rfl rfl ((Out.refl 0 0 _).alloc _) own2' gr2';rw[L3.out] at r1;have f3:=G4 hb2 (i:=13) (by omega);have ff:=G7 hb2 13;rw[HT.out] at f3;rw[Hkr1.out] at r1 ⊢;have HE:=Z0 r1;clear own2 gr2 own2' gr2' hb2 r1 hW2 c2 d2 df e3 HH1 HT L1 L2 L3 H;go_wp2_with fail;go_loopw [6] (fun y wr=>∃ (q r:Nat) (V':Nat->Value) (X':Nat->List Value) (col':Nat->Nat),y=.int .i64 (q:Int)/\((q=1/\r=1)\/(q=2/\r=2)\/(q=4/\r=3)\/(q=8/\r=4)\/(q=16/\r=5)\/(q=32/\r=6)\/(q=64/\r=7)\/(q=128/\r=8))/\MSt B b V X C p 10 13 K col w 2 m (.slice aF nn capF) nn wr r V' X' col') (fun y _=>200-(intOf y).toNat)
   case atStart=>exact⟨1,1,_,_,_,rfl,.inl ⟨rfl,rfl⟩,HE.out⟩
   case round=>
    obtain⟨q,r,V1,X1,col1,rfl,hqr,hst⟩:=hrel;clear HE;have HS:=Z0 hst;have HQ:=Z0 hqr;have q0:(0:Int)<=(q:Int):=by omega
    have q1:(q:Int)<=128:=by omega
    clear hst hqr;by_cases hq:q<=80
    ·have q2:(q:Int)<=80:=by omega
     have q3:IntKind.i64.wrap ((q:Int)+(q:Int))=(q:Int)+(q:Int):=by simp[IntKind.wrap,IntKind.signed,IntKind.bits];omega
     go_wp2_with fail;go_loopw [7,8] (fun x y wr=>∃ (j:Nat) (col':Nat->Nat),j<=q/\y=.int .i64 (j:Int)/\MSt B b V X C p 10 13 K col w 2 m (.slice aF nn capF) nn wr r V1 X1 col'/\OwnF B wr 2 x (nn+j) (fun _ k=>mkF 2 m k)/\(∀ z,x.ownBlock=some z->col' z=8\/col' z=9)) (fun _ y _=>q-(intOf y).toNat)
     case atStart=>exact⟨0,col1,Nat.zero_le _,rfl,HS.out,HS.out.2.1,fun z hz=>.inl (HS.out.2.2.1 z hz)⟩
     case round=>
      clear HS;obtain⟨j,col2,j1,rfl,hst,hfar,hfc⟩:=hrel;obtain⟨aX,capX,rfl⟩:=hfar.shape;have HS:=Z0 hst;have HFa:=Z0 hfar;have HFc:=Z0 hfc;have b0:(0:Int)<=(j:Int):=by omega
      obtain⟨xs,hxo,hxs⟩:=hfar;have HXo:=Z0 (And.intro hxo hxs);clear hst hfc hxo hxs;by_cases hj:j<q
      ·have b1:(j:Int)<(q:Int):=by omega
       go_wp2_with (at_builtin;refine B6 _ rfl _ _ 70 rfl B 97 i2 (.agg #[.int .i64 0,.int .i64 0,.int .i64 0,.int .i64 0,.int .i64 0]) 5 40 Tryz.underlying70 hi2 hx0 hx1 hx2 rfl (by decide) _ _ _ rfl (X8 HXo.out.1 ((Out.refl 0 0 _).alloc _) (Nat.zero_le _)) ⟨wr.heap.size,0,none⟩ 1 1 [.int .i64 0,.int .i64 (m:Int),.int .i64 0,.int .i64 0,.int .i64 0] rfl rfl (J9 _ _ _) (x0y _ _ _ _ _) (by decide) ?c3 ?c4 ?c5 ?_)
       case c3=>unfold maxLen;have:=HN.out;omega
       case c4=>have:=HN.out;omega
       case c5=>have:=HS.out.1.hB;simp;omega
       intro g cap wC own gr;obtain⟨colC,kC,oC,cC,lC,lcC,fC⟩:=HS.out.1.grow HFa.out HFc.out HS.out.2.1 HS.out.2.2.1 (by omega) (news:=[.int .i64 0,.int .i64 (m:Int),.int .i64 0,.int .i64 0,.int .i64 0]) rfl (fun k hk=>by exact news2 m k hk) ((Out.refl 0 0 _).alloc _) HXo.out.2 HXo.out.1.1 own gr;have HC:Hid (MSt B b V X C p 10 13 K col w 2 m (.slice aF nn capF) nn wC r V1 X1 colC):=⟨kC,lC,lcC,HS.out.2.2.2.1,HS.out.2.2.2.2.1,HS.out.2.2.2.2.2.trans fC⟩
       have HO:=Z0 (And.intro oC cC);clear own gr kC oC cC lC lcC fC;go_wp2_with fail;go_roundw
       case rel=>exact⟨j+1,colC,by omega,by go_num,HC.out,HO.out.1,fun z hz=>by cases hz;exact HO.out.2⟩
       case measure=>simp[intOf];omega
      ·have:j=q:=by omega
       subst this;clear HXo;obtain⟨kr,hkr⟩:∃ kr,K+r=kr:=⟨_,rfl⟩
       have L1:=Z0 (HS.out.2.2.2.1.1.trans hkr);have L2:=Z0 (HS.out.2.2.2.1.2.trans hkr);have Hkr:=Z0 hkr;clear hkr;obtain⟨aS,capS,eS⟩:=Q8 (HS.out.1.own 10 (by omega) (by omega));have c2:=HS.out.1.cell 10 (by omega);rw[eS,L1.out] at c2;go_wp2_with (at_builtin;refine B6 _ rfl _ _ 50 rfl B 70 i1 (.slice none 0 0) 1 24 Tryz.underlying50 hi1 hy0 hy1 hy2 rfl (by decide) _ kr (X1 10) rfl (by have q:=X8 (HS.out.1.own 10 (by omega) (by omega)) ((Out.refl 0 0 _).alloc (.cells #[.slice aX (nn+j) capX] 70)) (Nat.zero_le _);rw[eS,L1.out] at q;exact q) ⟨wr.heap.size,0,none⟩ 1 1 [.slice aX (nn+j) capX] rfl rfl (J9 _ _ _) (z1v _ rfl) (by decide) ?c3 ?c4 ?c5 ?_)
       case c3=>unfold maxLen;have:=HM.out;have:=Hkr.out;have:=HQ.out;have:=HN.out;omega
       case c4=>have:=HM.out;have:=Hkr.out;have:=HQ.out;have:=HN.out;omega
       case c5=>have:=HS.out.1.hB;simp;omega
       intro g1 cp1 wA own1 gr1;have own1':wA.ownsRow B (tyS 10) 1 (.slice (some ⟨g1,0,none⟩) ((X1 10).length+1) cp1) ((X1 10).length+1) (X1 10 ++ [.slice aX (nn+j) capX]):=by rw[L1.out];exact own1
       have gr1':z5o (wr.alloc (.cells #[.slice aX (nn+j) capX] 70)) wA (V1 10) g1:=by rw[eS,L1.out];exact gr1.grew
       obtain⟨hb1,V2,X2,col3,k1,k2,k3,k4,k5,k6',k7,k8,k9,k10⟩:=HS.out.push1 (by omega) rfl rfl HFa.out HFc.out (by have:=HN.out;have:=Hm3.out;have:=HQ.out;have:=HN.out;omega) ((Out.refl 0 0 _).alloc _) own1' gr1';rw[L1.out] at k1 k2 k6' k10;obtain⟨aT,capT,eT⟩:=Q8 (HS.out.1.own 13 (by omega) (by omega));have eT2:V2 13=.slice aT kr capT:=by rw[k7,eT,L2.out]
       have d2:=G4 hb1 (i:=10) (by omega);have df:=G7 hb1 10;rw[eS,L1.out] at d2;obtain⟨kr1,hkr1⟩:∃ kr1,kr+1=kr1:=⟨_,rfl⟩
       rw[hkr1] at k1 k2 k6' k10 ⊢;have Hkr1:=Z0 hkr1;have L3:=Z0 (k4.2.trans Hkr.out);clear hkr1;obtain⟨W2,hW2⟩:∃ W2,wA.setCell ⟨b,10,none⟩ (.slice (some ⟨g1,0,none⟩) kr1 cp1)=W2:=⟨_,rfl⟩
       rw[hW2] at k1 k2 k6' k10;have e3:=k1.cell 13 (by omega);rw[eT2] at e3;have HH1:=Z0 (And.intro k1 (And.intro k2 (And.intro k3 (And.intro k4 (And.intro k5 (And.intro k6' (And.intro k9 k10)))))));have HT:=Z0 eT2;clear own1 gr1 own1' gr1' hb1 k1 k2 k3 k4 k5 k6' k7 k8 k9 k10 eT eT2 eS;go_wp2_with (at_builtin;refine B6 _ rfl _ _ 30 rfl B 3 i0 (.int .i64 0) 1 8 Tryz.underlying30 hi0 hz0 hz1 hz2 rfl (by decide) _ kr (X2 13) rfl (by have q:=X8 (HH1.out.1.own 13 (by omega) (by omega)) ((Out.refl 0 0 _).alloc (.cells #[.int .i64 (m:Int)] 3)) (Nat.zero_le _);rw[HT.out,L3.out] at q;exact q) ⟨W2.heap.size,0,none⟩ 1 1 [.int .i64 (m:Int)] rfl rfl (J9 _ _ _) (z1v _ rfl) (by decide) ?c3 ?c4 ?c5 ?_)
       case c3=>unfold maxLen;have:=HM.out;have:=Hkr.out;have:=HQ.out;have:=HN.out;omega
       case c4=>have:=HM.out;have:=Hkr.out;have:=HQ.out;have:=HN.out;omega
       case c5=>have:=HH1.out.1.hB;simp;omega
       intro g2 cp2 wB own2 gr2;have own2':wB.ownsRow B (tyS 13) 1 (.slice (some ⟨g2,0,none⟩) ((X2 13).length+1) cp2) ((X2 13).length+1) (X2 13 ++ [.int .i64 (m:Int)]):=by rw[L3.out];exact own2
       have gr2':z5o (W2.alloc (.cells #[.int .i64 (m:Int)] 3)) wB (V2 13) g2:=by rw[HT.out];exact gr2.grew
       obtain⟨hb2,V3,X3,col4,r1⟩:=MSt.push2 HH1.out.1 HH1.out.2.1 HH1.out.2.2.1 HH1.out.2.2.2.1 HH1.out.2.2.2.2.1 HH1.out.2.2.2.2.2.1 HH1.out.2.2.2.2.2.2.1 HH1.out.2.2.2.2.2.2.2 (by omega) rfl rfl ((Out.refl 0 0 _).alloc _) own2' gr2';rw[L3.out] at r1;have f3:=G4 hb2 (i:=13) (by omega);have ff:=G7 hb2 13;rw[HT.out] at f3;rw[Hkr1.out] at r1 ⊢;have HE:=Z0 r1;clear own2 gr2 own2' gr2' hb2 r1 hW2 c2 d2 df e3 HH1 HT L1 L2 L3 HS HFa HFc;go_wp2_with fail;go_roundw
       case rel=>exact⟨j+j,r+1,_,_,_,by go_num,by have:=HQ.out;omega,HE.out⟩
       case measure=>have:=HQ.out;simp[intOf];omega
    ·have hr:r=8:=by have:=HQ.out;omega
     have q2:(80:Int)<(q:Int):=by omega
     have q3:¬ (q:Int)<=80:=by omega
     subst hr;go_wp2;exact bodyPost_end (results_none Tryz.results75 _ _ _) rfl ⟨rfl,HS.out.shut⟩
end Go.Proofs.YtjbbkeoolodeaabGreatDoor
