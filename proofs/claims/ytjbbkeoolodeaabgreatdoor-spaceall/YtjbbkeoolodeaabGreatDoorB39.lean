import Derived.Test.YtjbbkeoolodeaabGreatDoorB38
import Derived.Test.YtjbbkeoolodeaabGreatDoorB19
namespace Go.Proofs.YtjbbkeoolodeaabGreatDoor
open Go.RowKit
set_option linter.unusedVariables false
set_option maxRecDepth 100000
set_option maxHeartbeats 16000000
set_option linter.unusedSimpArgs false
def z1d (st:Sp):Nat->Nat->Bool
 | 0,_=>false
 | p+1,j=>z1d st p j || (Q7 (st.O p) && decide (p<=j/\j<p+J3 (st.O p).2.1))
def tzW (n:Nat) (st:Sp) (k:Nat):Nat->Int:=fun j=>if j<k/\z1d st (64*n) j=false then 0 else st.W j
theorem j9s (n:Nat) (st:Sp):tzW n st 0=st.W:=by funext j;unfold tzW;rw[if_neg (by omega)]
theorem j9j (n:Nat) (st:Sp) (k:Nat):(if z1d st (64*n) k then tzW n st k else z5b (tzW n st k) k 0)=tzW n st (k+1):=by
 funext j
 cases h:z1d st (64*n) k with
 | true=>
  rw[if_pos rfl];unfold tzW;by_cases e:j=k
  ·rw[e,if_neg (by omega),if_neg (fun q=>by rw[h] at q;cases q.2)]
  ·by_cases h1:j<k/\z1d st (64*n) j=false
   ·rw[if_pos h1,if_pos ⟨by omega,h1.2⟩]
   ·rw[if_neg h1,if_neg (fun q=>h1 ⟨by omega,q.2⟩)]
 | false=>
  rw[if_neg (by simp)];unfold z5b tzW;by_cases e:j=k
  ·rw[if_pos e,if_pos ⟨by omega,by rw[e];exact h⟩]
  ·rw[if_neg e];by_cases h1:j<k/\z1d st (64*n) j=false
   ·rw[if_pos h1,if_pos ⟨by omega,h1.2⟩]
   ·rw[if_neg h1,if_neg (fun q=>h1 ⟨by omega,q.2⟩)]
section
variable {w:World} {lo hi n cw co:Nat} {s:Nat->Nat} {st:Sp}
theorem q4e (h:RfAt w lo hi s n cw co st) (hI:Inv n st) :
  Calls Tryz.prog 120 #[.pointer (some ⟨s 0,0,none⟩)] w fun e w'=>(∃ v,e=.returned v)/\RfAt w' lo hi s n cw co (q3o n { st with W:=tzW n st (64*n) } 8)/\Out lo hi w w':=by
 have h2:=h.n2;have c0:=h.cells.1;obtain⟨M,hM⟩:∃ M,64*n=M:=⟨_,rfl⟩
 rw[hM] at c0;have M1:(M:Int)<=262144:=by omega
 have M0:(0:Int)<=(M:Int):=by omega
 have hmk:=run_make_row' (P:=Tryz.prog) 149 4 (.bool false) 1 Tryz.underlying149 (by kernel_rfl) rfl .i64 .i64 M (by omega) (by omega);have HM:=Z0 hM;have HI:=Z0 hI;have HH:=Z0 h;obtain⟨G,hG⟩:∃ G,w.heap.size=G:=⟨_,rfl⟩
 have HGs:Hid (hi<=G/\w.heap.size=G):=⟨by rw[<-hG];exact h.top,hG⟩
 clear h hI h2 hM;go_enter Tryz.func120,Tryz.ntmps120
 go_wp2_with fail;clear c0;have o0:Out 0 0 w (w.alloc (.cells (madeCells #[Value.bool false] M) 4)):=(Out.refl 0 0 w).alloc _;have r0:Row (w.alloc (.cells (madeCells #[Value.bool false] M) 4)) G 4 M (fun j=>.bool (z1d st 0 j)):=by
  refine⟨_,by rw[<-hG];exact heap_alloc_new _ _,by simp[madeCells],fun i hi'=>?_⟩;simp[madeCells,hi',Nat.mod_one,z1d]
 have H0:=Z0 (And.intro o0 r0);clear o0 r0;go_loopw [3] (fun u wr=>∃ a:Nat,u=.int .i64 (a:Int)/\a<=M/\Row wr G 4 M (fun j=>.bool (z1d st a j))/\Out 0 0 w wr) (fun u _=>M-(intOf u).toNat)
 case atStart=>exact⟨0,rfl,Nat.zero_le _,H0.out.2,H0.out.1⟩
 case round=>
  clear H0;obtain⟨a,rfl,ab,hB,hO⟩:=hrel;have hR:=HH.out.quiet hO;have a0:(0:Int)<=(a:Int):=by omega
  have c2:=hR.cells.2.2.1;rw[HM.out] at c2;by_cases ha:a<M
  ·have a1:(a:Int)<(M:Int):=by omega
   have hm:=HM.out;have d1:=hR.ro.cell (i:=a*5+1) (by omega);have d2:=hR.ro.cell (i:=a*5+2) (by omega);rw[z3g] at d1;have HB:=Z0 (And.intro hB hO);cases hb:Q7 (st.O a) with
   | false=>
    rw[hb,if_neg (by simp)] at d1;have HNx:Hid (z1d st (a+1)=z1d st a):=by
     show _=_
     funext j
     show (z1d st a j || (Q7 (st.O a) && _))=_
     rw[hb];simp
    clear hb hm hR hB hO;go_wp2_with fail;go_loopw [4] (fun u wq=>u=.int .i64 0/\wq=wr) (fun _ _=>0)
    case atStart=>exact⟨rfl,rfl⟩
    case round=>
     obtain⟨rfl,rfl⟩:=hrel;go_wp2_with fail;exact⟨⟨a+1,by congr 1,by omega,by rw[HNx.out];exact HB.out.1,HB.out.2⟩,by simp[intOf] <;> omega⟩
   | true=>
    obtain⟨o0,o1,o2,o3,o4⟩:=q2o (st:=st) hb;have hfz:=J8 (HI.out.objs a hb).2.1;have hrm:=(q1d HI.out hb).2;obtain⟨k,hk⟩:∃ k,(st.O a).1=k:=⟨_,rfl⟩
    obtain⟨z,hz⟩:∃ z,(st.O a).2.1=z:=⟨_,rfl⟩
    rw[hb,if_pos rfl,hk] at d1;rw[o2,hz] at d2;rw[hz] at hfz hrm;have hk0:k ≠ 0:=by unfold Q7 at hb;rw[hk] at hb;simpa using hb
    have hkb:(k != 0)=true:=by simpa using hk0
    have HRm:=Z0 (fun w=>z6y hfz.2.2.1 hfz.2.2.2 w);obtain⟨rm,hr⟩:∃ r,J3 z=r:=⟨_,rfl⟩
    rw[hr] at HRm hrm;have r1:(rm:Int)<=262144:=by omega
    have r0:(0:Int)<=(rm:Int):=by omega
    have HNx:Hid (∀ j,z1d st (a+1) j=(z1d st a j || decide (a<=j/\j<a+rm))):=fun j=>by
     show (z1d st a j || (Q7 (st.O a) && decide (a<=j/\j<a+J3 (st.O a).2.1)))=_
     rw[hb,hz,hr];simp
    have HRt:=Z0 (And.intro hrm hm);have HCk:Hid (obC st (a*5+1)=k/\obC st (a*5+2)=z):=⟨o1.trans hk,o2.trans hz⟩
    clear hb hR hB hO o0 o1 o2 o3 o4 hfz hk hz hr hrm hm;go_wp2_with fail;clear c2 d1 d2;go_loopw [4] (fun u wq=>∃ i:Nat,u=.int .i64 (i:Int)/\i<=rm/\Row wq G 4 M (fun j=>.bool (z1d st a j || decide (a<=j/\j<a+i)))/\Out 0 0 w wq) (fun u _=>rm-(intOf u).toNat)
    case atStart=>exact⟨0,rfl,Nat.zero_le _,HB.out.1.congr fun j _=>by simp;omega,HB.out.2⟩
    case round=>
     obtain⟨i,rfl,ib,hB2,hO2⟩:=hrel;have i0:(0:Int)<=(i:Int):=by omega
     have hR2:=HH.out.quiet hO2;have c2:=hR2.cells.2.2.1;rw[HM.out] at c2;have d1:=hR2.ro.cell (i:=a*5+1) (by have:=HRt.out;omega);have d2:=hR2.ro.cell (i:=a*5+2) (by have:=HRt.out;omega);rw[HCk.out.1] at d1;rw[HCk.out.2] at d2;by_cases hi':i<rm
     ·have i1:(i:Int)<(rm:Int):=by omega
      obtain⟨x,hx⟩:∃ x,a+i=x:=⟨_,rfl⟩
      have x0:(a:Int)+(i:Int)=(x:Int):=by omega
      have xM:x<M:=by have:=HRt.out;omega
      have x1:(0:Int)<=(x:Int):=by omega
      have x2:(x:Int)<(M:Int):=by omega
      have e0:=hB2.cell xM;have e1:=hB2.frozen x;(try dsimp only at e0);obtain⟨q,hq⟩:∃ q,(z1d st a x || decide (a<=x/\x<a+i))=q:=⟨_,rfl⟩
      rw[hq] at e0;have oS:Out G (G+1) wr (wr.setCell ⟨G,x,none⟩ (.bool true)):=(Out.refl _ _ _).setCell (p:=⟨G,x,none⟩) z1 _;have HS:Hid (Row (wr.setCell ⟨G,x,none⟩ (.bool true)) G 4 M (fun j=>.bool (z1d st a j || decide (a<=j/\j<a+(i+1))))/\Out 0 0 w (wr.setCell ⟨G,x,none⟩ (.bool true))):=by
       refine⟨(hB2.set x (.bool true)).congr fun j _=>?_,hO2.past oS (by have:=HGs.out;omega)⟩;by_cases e:j=x
       ·rw[if_pos e,show decide (a<=j/\j<a+(i+1))=true from by simp;omega];simp
       ·rw[if_neg e,show decide (a<=j/\j<a+i)=decide (a<=j/\j<a+(i+1)) from by simp only[decide_eq_decide];omega]
      clear hB2 hO2 hR2 hx hq oS;go_wp2_with (go_at_call 83;refine Z5 (HRm.out _) ?_);exact⟨⟨i+1,by congr 1,by omega,HS.out.1,HS.out.2⟩,by simp[intOf] <;> omega⟩
     ·have e:i=rm:=by omega
      subst e;have HE:=Z0 (And.intro hB2 hO2);clear hB2 hO2 hR2;go_wp2_with (go_at_call 83;refine Z5 (HRm.out _) ?_);exact⟨⟨a+1,by congr 1,by omega,HE.out.1.congr fun j _=>by rw[HNx.out],HE.out.2⟩,by simp[intOf] <;> omega⟩
  ·have e:a=M:=by omega
   subst e;have HB:=Z0 (And.intro hB hO);clear hR hB hO;go_wp2_with fail;go_loopw [5] (fun u wq=>∃ k:Nat,u=.int .i64 (k:Int)/\k<=a/\RfAt wq lo hi s n cw co { st with W:=tzW n st k }/\Row wq G 4 a (fun j=>.bool (z1d st a j))/\Out lo hi w wq) (fun u _=>a-(intOf u).toNat)
   case atStart=>exact⟨0,rfl,Nat.zero_le _,by rw[j9s];exact HH.out.quiet HB.out.2,HB.out.1,HB.out.2.any lo hi⟩
   case round=>
    clear HB;obtain⟨k,rfl,kb,hR,hB,hO⟩:=hrel;have k0:(0:Int)<=(k:Int):=by omega
    have c0:=hR.cells.1;rw[HM.out] at c0;by_cases hk:k<a
    ·have k1:(k:Int)<(a:Int):=by omega
     have e0:=hB.cell hk;have hst:=j9j n st k;rw[HM.out] at hst;cases hq:z1d st a k with
     | true=>
      rw[hq] at e0 hst;rw[if_pos rfl] at hst;have HE:=Z0 (And.intro hR (And.intro hB (And.intro hO hst)));clear hR hB hO hst hq;go_wp2_with fail;exact⟨⟨k+1,by congr 1,by omega,by rw[<-HE.out.2.2.2];exact HE.out.1,HE.out.2.1,HE.out.2.2.1⟩,by simp[intOf] <;> omega⟩
     | false=>
      rw[hq] at e0 hst;rw[if_neg (by simp)] at hst;have hm:=HM.out;have d0:=hR.rw.cell (i:=k) (by omega);have d1:=hR.rw.frozen k;(try dsimp only at d0);obtain⟨y,hy⟩:∃ y,tzW n st k k=y:=⟨_,rfl⟩
      rw[hy] at d0;have hS:=hR.setW (a:=k) (by omega) 0;have HE:=Z0 (And.intro hS.1 (And.intro (hB.kept hS.2 (.inr HGs.out.1)) (And.intro (hO.trans hS.2) hst)));clear hR hB hO hst hq hS hy hm;go_wp2_with fail;refine⟨⟨k+1,by congr 1,by omega,?_,HE.out.2.1,HE.out.2.2.1⟩,by simp[intOf] <;> omega⟩;have:=HE.out.1;dsimp only at this;rw[HE.out.2.2.2] at this;exact this
    ·have e:k=a:=by omega
     subst e;have hm:=HM.out;have h2:RfAt wr lo hi s n cw co (q3o n { st with W:=tzW n st (64*n) } 0):=by rw[hm];exact hR
     have HE:=Z0 (And.intro h2 hO);obtain⟨s2,hs2⟩:∃ s2:Sp,{ st with W:=tzW n st (64*n) }=s2:=⟨_,rfl⟩
     rw[hs2] at HE;have HS2:=Z0 hs2;clear hR hB hO h2 hm hs2;go_wp2_with fail;clear c0;go_loopw [6] (fun u wq=>∃ c:Nat,u=.int .i64 (c:Int)/\c<=8/\RfAt wq lo hi s n cw co (q3o n s2 c)/\Out lo hi w wq) (fun u _=>(8-intOf u).toNat)
     case atStart=>exact⟨0,rfl,Nat.zero_le _,HE.out.1,HE.out.2⟩
     case round=>
      clear HE;obtain⟨c,rfl,cb,hR,hO⟩:=hrel;have c0:(0:Int)<=(c:Int):=by omega
      by_cases hc:c<8
      ·have c1:(c:Int)<8:=by omega
       obtain⟨L,hL⟩:∃ L,q3o n s2 c=L:=⟨_,rfl⟩
       have hLn:q3o n s2 (c+1)={ L with W:=z8m n L (c:Int) }:=by rw[<-hL];rfl
       rw[hL] at hR;have HNx:=Z0 (G0 hR hc (f:=0) (Nat.zero_le _));rw[show ((0:Nat):Int)=0 from rfl] at HNx;obtain⟨f0,_,hf0,hz0⟩:=z8f n L (c:Int) (f:=0) (Nat.zero_le _);have h0:RfAt wr lo hi s n cw co { L with W:=lkT n L (c:Int) f0 }:=by
        rw[q1t (fun j hj=>by
         by_cases q:j<64*n
         ·exact hz0 j (Nat.zero_le _) hj q
         ·unfold fr;rw[show decide (j<64*n)=false from by simpa using q];rfl)]
        exact hR
       obtain⟨x0,hx0⟩:∃ x,nf n L (c:Int) 0=x:=⟨_,rfl⟩
       rw[hx0] at HNx hf0;have HS0:=Z0 (And.intro h0 (And.intro hf0 hO));have HLn:=Z0 hLn;clear hR hO h0 hf0 hz0 hx0 hLn hL;go_wp2_with (go_at_call 59;refine Z5 HNx.out ?_);go_loopw [7] (fun u wq=>∃ f:Nat,RfAt wq lo hi s n cw co { L with W:=lkT n L (c:Int) f }/\((u=.int .i64 (-1)/\64*n<=f)\/(u=.int .i64 (f:Int)/\f<64*n/\fr n L (c:Int) f=true))/\Out lo hi w wq) (fun u _=>((k:Int)-(if intOf u<0 then (k:Int) else intOf u)).toNat)
       case atStart=>
        refine⟨f0,HS0.out.1,?_,HS0.out.2.2⟩;rcases HS0.out.2.1 with ⟨e,h⟩ | ⟨e,h⟩
        ·exact .inl ⟨by rw[e],h⟩
        ·exact .inr ⟨by rw[e],h⟩
       case round=>
        clear HS0 HNx;obtain⟨f,hR,hu,hO⟩:=hrel;rcases hu with ⟨rfl,hf⟩ | ⟨rfl,hf,hfr⟩
        ·rw[q8y (fun j hj=>by have:=(fr_iff.1 hj).1;omega),<-HLn.out] at hR;have HE:=Z0 (And.intro hR hO);clear hR hO hf;go_wp2_with fail;exact⟨⟨c+1,by congr 1,by omega,HE.out.1,HE.out.2⟩,by simp[intOf] <;> omega⟩
        ·have hm:=HM.out;have f0':(0:Int)<=(f:Int):=by omega
         have f1:(f:Int)<(k:Int):=by omega
         have c0':=hR.cells.1;rw[hm] at c0';have HN2:=Z0 (G0 hR hc (f:=f+1) (by omega));obtain⟨f',hf1,hfx,hfz⟩:=z8f n L (c:Int) (f:=f+1) (by omega);have hSt:=q6u (n:=n) (st:=L) (c:=(c:Int)) (a:=f) (b:=f') (by omega) hfr (fun j j1 j2=>by
          by_cases q:j<64*n
          ·exact hfz j (by omega) j2 q
          ·unfold fr;rw[show decide (j<64*n)=false from by simpa using q];rfl)
         have hge:-1<=nf n L (c:Int) (f+1)/\nf n L (c:Int) (f+1)<=262143:=by
          rcases hfx with ⟨e,_⟩ | ⟨e,h,_⟩ <;> rw[e] <;> omega
         have HLk:=Z0 (fun w=>z0w hge.1 hge.2 w);rw[show nf n { L with W:=lkT n L (c:Int) f } (c:Int) (f+1)=nf n L (c:Int) (f+1) from rfl] at HN2;obtain⟨x,hx⟩:∃ x,nf n L (c:Int) (f+1)=x:=⟨_,rfl⟩
         obtain⟨z,hz⟩:∃ z,Y7 x=z:=⟨_,rfl⟩
         rw[hx] at HN2 hfx hSt HLk hge;rw[hz] at hSt HLk;rw[show ((f+1:Nat):Int)=(f:Int)+1 from by omega] at HN2;have x1:=hge.1;have x2:=hge.2;have HX:=Z0 (And.intro hfx (And.intro hf1 (And.intro hSt hf)));have HRV:=Z0 (And.intro hR hO);have HMs:Hid ((k:Int)-(if x<0 then (k:Int) else x)<(k:Int)-(f:Int)):=by
          show _<_
          rcases hfx with ⟨e,h⟩ | ⟨e,h,_⟩
          ·rw[e,if_pos (by omega)];omega
          ·rw[e,if_neg (by omega)];omega
         clear hR hO hf hfr hm hfx hf1 hfz hSt hge hx hz;go_wp2_with (go_at_call 59;refine Z5 HN2.out ?_);refine wp_region_held_drew (S:=fun w'=>w'.cell? ⟨s 0,0,none⟩=some (.slice (some ⟨s 1,0,none⟩) k cw)) (by kernel_rfl) ?hS1 (fun hHeld=>?rest1)
         case hS1=>exact c0'
         obtain⟨Z2,hZ⟩:∃ Z,wr.drew=Z:=⟨_,rfl⟩
         have OZ:Out 0 0 wr Z2:=by rw[<-hZ];exact(Out.refl 0 0 _).drew
         rw[hZ] at hHeld ⊢;clear hZ;refine tk 0 ?_;refine tk 1 ?_;refine tk 2 ?_;refine tk 3 ?_;refine tk 4 ?_;refine tk 5 ?_;refine rd1 6 fun KK hK=>?_
         simp only[xa,xb,xc];go_simp;refine Z5 (HLk.out _) ?_;refine hK.out _ _ ?hS8 (fun hHeld2=>?rest8)
         case hS8=>exact hHeld
         clear hK KK;replace hHeld:=hHeld2;clear hHeld2;refine tk 7 ?_;refine rd1 8 fun KK hK=>?_
         simp only[xa,xb,xc];have hRd:=HRV.out.1.quiet OZ;have y0:=hRd.rw.cell (i:=f) HX.out.2.2.2;have q0:=hRd.rw.frozen f;clear hRd;go_simp;obtain⟨Y3,hY3⟩:∃ Y,Z2.setCell ⟨s 1,f,none⟩ (.int .i64 z)=Y:=⟨_,rfl⟩
         have rY:=(HRV.out.1.quiet OZ).setW HX.out.2.2.2 z;have oY:Out (s 1) (s 1+1) Z2 Y3:=by rw[<-hY3];exact(Out.refl _ _ _).setCell (p:=⟨s 1,f,none⟩) z1 _
         rw[hY3] at rY ⊢;clear hY3 y0 q0;refine hK.out _ _ ?hS10 (fun hHeld2=>?rest10)
         case hS10=>exact oY.cell hHeld (HRV.out.1.apart (by omega) (by omega) (by omega))
         clear hK KK;replace hHeld:=hHeld2;clear hHeld2;refine dn ?_;clear hHeld oY c0';have HE:=Z0 (And.intro rY.1 ((HRV.out.2.trans (OZ.any lo hi)).trans rY.2));clear rY;go_wp2_with fail;refine⟨⟨f',?_,?_,HE.out.2⟩,by have:=HMs.out;simp[intOf] <;> omega⟩
         ·have:=HE.out.1;dsimp only at this;rw[HX.out.2.2.1] at this;exact this
         ·rcases HX.out.1 with ⟨e,h⟩ | ⟨e,h⟩
          ·exact .inl ⟨by rw[e],h⟩
          ·exact .inr ⟨by rw[e],h⟩
      ·have e:c=8:=by omega
       subst e;have HE:=Z0 (And.intro hR hO);clear hR hO;go_wp2;refine bodyPost_end (results_none Tryz.results120 _ _ _) rfl ⟨⟨_,rfl⟩,?_,HE.out.2⟩;rw[HS2.out];exact HE.out.1
end
def q4i (O:Nat->Blk) (p:Nat):Nat->Bool
 | 0=>false
 | i+1=>q4i O p i || Q7 (O (64*p+i))
def G6 (S:Nat->Int × Int × Int) (O:Nat->Blk) (p:Nat):Bool:=if (S p).1=2 then Q7 (O (64*p)) else if (S p).1=1 then q4i O p 64 else false
def gkS (n:Nat) (st:Sp):Nat->Nat->Int × Int × Int
 | 0=>st.S
 | p+1=>if G6 (gkS n st p) st.O p then gkS n st p else gvS (gkS n st p) n (p:Int)
def dpO (st:Sp) (kp:Nat->Bool) (a:Nat):Nat->Blk:=fun b=>if b<a then kpO st kp b else st.O b
section
variable {w:World} {lo hi n cw co:Nat} {s:Nat->Nat} {st:Sp}
theorem RfAt.delO (h:RfAt w lo hi s n cw co st) {a:Nat} (ha:a<64*n):RfAt (j1p w (s 4) a 0 0 0 0 0) lo hi s n cw co { st with O:=U4 st.O a noB }/\Out lo hi w (j1p w (s 4) a 0 0 0 0 0):=by
 have o:=q0c w (s 4) a 0 0 0 0 0;have h4:=h.inn 4 (by omega);refine⟨⟨h.n1,h.n2,Nat.le_trans h.top o.size,h.glob,h.inn,h.ne,o.heap h.box (h.apart (by omega) (by omega) (by omega)),h.rw.kept o (h.apart (by omega) (by omega) (by omega)),h.rt.kept o (h.apart (by omega) (by omega) (by omega)) (h.apart (by omega) (by omega) (by omega)),?_⟩,o.wide h4.1 (by omega)⟩;unfold j1p;refine(((((h.ro.set (a*5) (.int .i64 0)).set (a*5+1) (.int .i64 0)).set (a*5+2) (.int .i64 0)).set (a*5+3) (.int .i64 0)).set (a*5+4) (.int .i64 0)).congr fun j _=>?_
 by_cases e:j / 5=a
 ·have hz:obC { st with O:=U4 st.O a noB } j=0:=by
   unfold obC;rw[show ({ st with O:=U4 st.O a noB }:Sp).O (j / 5)=noB from by show U4 st.O a noB (j / 5)=_;unfold U4;rw[if_pos e]];rfl
  rw[hz];have:j=a*5\/j=a*5+1\/j=a*5+2\/j=a*5+3\/j=a*5+4:=by omega
  (repeat' split) <;> first | rfl | omega
 ·rw[if_neg (by omega),if_neg (by omega),if_neg (by omega),if_neg (by omega),if_neg (by omega)];rw[q1s st (st':={ st with O:=U4 st.O a noB })]
  show U4 st.O a noB (j / 5)=_
  unfold U4;rw[if_neg e]
theorem j8x (st:Sp) (kp:Nat->Bool):dpO st kp 0=st.O:=by funext b;unfold dpO;rw[if_neg (by omega)]
theorem j9e (st:Sp) (kp:Nat->Bool) (a:Nat):dpO st kp (a+1)=if kp a then dpO st kp a else U4 (dpO st kp a) a noB:=by
 funext b
 cases h:kp a with
 | true=>
  rw[if_pos rfl];unfold dpO;by_cases e:b=a
  ·rw[e,if_pos (by omega),if_neg (by omega)];unfold kpO;rw[h,if_pos rfl]
  ·by_cases e1:b<a
   ·rw[if_pos (by omega),if_pos e1]
   ·rw[if_neg (by omega),if_neg e1]
 | false=>
  rw[if_neg (by simp)];unfold U4 dpO;by_cases e:b=a
  ·rw[if_pos e,e,if_pos (by omega)];unfold kpO;rw[h,if_neg (by simp)]
  ·rw[if_neg e];by_cases e1:b<a
   ·rw[if_pos (by omega),if_pos e1]
   ·rw[if_neg (by omega),if_neg e1]
end
end Go.Proofs.YtjbbkeoolodeaabGreatDoor
