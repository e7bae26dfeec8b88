import Derived.Test.YtjbbkeoolodeaabGreatDoorB33
import Derived.Test.YtjbbkeoolodeaabGreatDoorB32
import Derived.Test.YtjbbkeoolodeaabGreatDoorB19
import Derived.Deep.RegionHeld3
import Derived.Test.YtjbbkeoolodeaabGreatDoorB15
namespace Go.Proofs.YtjbbkeoolodeaabGreatDoor
open Go.RowKit
set_option linter.unusedVariables false
set_option maxRecDepth 100000
set_option maxHeartbeats 16000000
set_option linter.unusedSimpArgs false
theorem j8m (a b:Int) (w:World):(Instr.field 56 (.agg #[.int .i64 a,.int .i64 b]) 0).run Tryz.prog w=.ok (.int .i64 a) w:=by kernel_rfl
def lkP (n:Nat) (r:Raw) (c f k:Nat):Bool:=q6g n r c k || (z1m n r c k && decide (k<f))
theorem j9f {N i:Nat} {b:Bool} (hi:i<N):nxr (fun k=>decide (k=i) && b) N 0=if b then (i:Int) else -1:=by
 cases b with
 | true=>rw[if_pos rfl];exact z3n hi (Nat.zero_le _) (by simp) (fun j _ hj=>by simp;omega)
 | false=>
  rw[if_neg (by simp)];rcases Q1 (fun k=>decide (k=i) && false) N 0 with ⟨e,_⟩ | ⟨j,_,_,_,e,_⟩
  ·exact e
  ·simp at e
theorem j8k (A:Nat->Bool) (N:Nat):nxr A N N = -1:=by
 rcases Q1 A N N with ⟨e,_⟩ | ⟨j,_,e,k,_⟩
 ·exact e
 ·have:=k (Nat.le_refl _);omega
theorem j3i {A:Nat->Bool} {N j:Nat} (hj:j<N):nxr A N j=if A j then (j:Int) else nxr A N (j+1):=by
 cases h:A j with
 | true=>rw[if_pos rfl];exact z3n hj (Nat.le_refl _) h (fun k h1 h2=>by omega)
 | false=>
  rw[if_neg (by simp)];rcases Q1 A N (j+1) with ⟨e,f⟩ | ⟨i,e,i1,i2,i3,i4⟩
  ·rw[e];rcases Q1 A N j with ⟨e2,_⟩ | ⟨i,_,i1,i2,i3,_⟩
   ·exact e2
   ·have hji:=i2 (by omega);by_cases q:i=j
    ·rw[q,h] at i3;cases i3
    ·rw[f i (by omega) i1] at i3;cases i3
  ·rw[e];have:=i2 (by omega);exact z3n i1 (by omega) i3 (fun k h1 h2=>by
    by_cases q:k=j
    ·rw[q];exact h
    ·exact i4 k (by omega) h2)
section
variable {n:Nat} {st:Sp}
theorem j5y {c:Nat} {f:Nat} (hf:∀ k,k<f->k<64*n->fr n st (c:Int) k=false):nxr (lkP n (Z6 n st) c f) (64*n) 0=nxr (q6g n (Z6 n st) c) (64*n) 0:=by
 refine z2m fun k _ hk=>?_
 unfold lkP;by_cases h:k<f
 ·have:z1m n (Z6 n st) c k=false:=by
   show (fr n st (c:Int) k && _)=false
   rw[hf k h hk];rfl
  rw[this];simp
 ·simp[h]
theorem j8q {c f:Nat} (hf:64*n<=f):nxr (lkP n (Z6 n st) c f) (64*n) 0=nxr (q6g n (Z6 n st) (c+1)) (64*n) 0:=by
 refine z2m fun k _ hk=>?_
 unfold lkP;conv=>rhs;unfold q6g
 rw[show decide (k<f)=true from by simp;omega,Bool.and_true]
theorem j7n {c i f:Nat} (hi:i<64*n) (hfr:fr n st (c:Int) i=true) (hf1:i<f) (hf:∀ k,i<k->k<f->k<64*n->fr n st (c:Int) k=false) :
  nxr (lkP n (Z6 n st) c f) (64*n) 0=if st.W i ≠ Y7 (nf n st (c:Int) (i+1))/\(nxr (lkP n (Z6 n st) c i) (64*n) 0<0\/(i:Int)<nxr (lkP n (Z6 n st) c i) (64*n) 0) then (i:Int) else nxr (lkP n (Z6 n st) c i) (64*n) 0:=by
 have e:nxr (lkP n (Z6 n st) c f) (64*n) 0=nxr (fun k=>lkP n (Z6 n st) c i k || (decide (k=i) && !(st.W i == Y7 (nf n st (c:Int) (i+1))))) (64*n) 0:=by
  refine z2m fun k _ hk=>?_
  unfold lkP;by_cases h1:k<i
  ·rw[show decide (k<f)=true from by simp;omega,show decide (k<i)=true from by simp;omega,show decide (k=i)=false from by simp;omega];simp
  ·rw[show decide (k<i)=false from by simp;omega];by_cases h2:k=i
   ·subst h2;rw[show decide (k<f)=true from by simp;omega];have:z1m n (Z6 n st) c k = !(st.W k == Y7 (nf n st (c:Int) (k+1))):=by
     show (fr n st (c:Int) k && _)=_
     rw[hfr];rfl
    rw[this];simp
   ·rw[show decide (k=i)=false from by simp;omega];by_cases h3:k<f
    ·have:z1m n (Z6 n st) c k=false:=by
      show (fr n st (c:Int) k && _)=false
      rw[hf k (by omega) h3 hk];rfl
     rw[this];simp
    ·simp[h3]
 rw[e,j6y,j9f hi];by_cases hb:st.W i=Y7 (nf n st (c:Int) (i+1))
 ·rw[show (st.W i == Y7 (nf n st (c:Int) (i+1)))=true from by simpa using hb];rw[if_neg (by simp),if_neg (fun q=>q.1 hb)]
 ·rw[show (st.W i == Y7 (nf n st (c:Int) (i+1)))=false from by simpa using hb];simp only[Bool.not_false,if_true];by_cases q:nxr (lkP n (Z6 n st) c i) (64*n) 0<0\/(i:Int)<nxr (lkP n (Z6 n st) c i) (64*n) 0
  ·rw[if_pos ⟨by omega,q⟩,if_pos ⟨hb,q⟩]
  ·rw[if_neg (fun z=>q z.2),if_neg (fun z=>q z.2)]
theorem x1g {k:Nat} (hI:Inv n st):z1t (Z6 n st) k=(Q7 (st.O k) && !(st.W k == X9 k (st.O k).1 (st.O k).2.1)):=by
 unfold z1t;rw[j0g hI];cases hb:Q7 (st.O k) with
 | false=>rfl
 | true=>rw[j2k hb];rfl
theorem j9v {k:Nat} (hb:Q7 (st.O k)=true):z8k (Z6 n st) (k:Int)=if st.W k=X9 k (st.O k).1 (st.O k).2.1 then 0 else 21:=by
 unfold z8k;rw[j2k hb,show ((k:Nat):Int).toNat=k from by omega];rfl
end
theorem z8f (n:Nat) (st:Sp) (c:Int) {f:Nat} (hf:f<=64*n):∃ f',f<=f'/\((nf n st c f = -1/\64*n<=f')\/(nf n st c f=(f':Int)/\f'<64*n/\fr n st c f'=true))/\∀ k,f<=k->k<f'->k<64*n->fr n st c k=false:=by
 unfold nf;rcases Q1 (fr n st c) (64*n) f with ⟨e,h⟩ | ⟨i,e,i1,i2,i3,i4⟩
 ·exact⟨64*n,hf,.inl ⟨e,Nat.le_refl _⟩,fun k h1 _ h3=>h k h1 h3⟩
 ·exact⟨i,i2 hf,.inr ⟨e,i1,i3⟩,fun k h1 h2 _=>i4 k h1 h2⟩
section
variable {w:World} {lo hi n cw co:Nat} {s:Nat->Nat} {st:Sp}
theorem q2u (h:RfAt w lo hi s n cw co st) (hI:Inv n st):Calls Tryz.prog 39 #[.pointer (some ⟨s 0,0,none⟩)] w fun e w'=>e=.returned (.int .i64 (nxr (q6g n (Z6 n st) 8) (64*n) 0))/\Out 0 0 w w':=by
 have h2:=h.n2;obtain⟨M,hM⟩:∃ M,64*n=M:=⟨_,rfl⟩
 have M1:(M:Int)<=262144:=by omega
 have M0:(0:Int)<=(M:Int):=by omega
 have HH:=Z0 h;have HM:=Z0 hM;have HI:=Z0 hI;have c2:=h.cells.2.2.1;rw[hM] at c2;have hfe:=j8m;clear h h2 hM hI;go_enter Tryz.func39,Tryz.ntmps39
 go_wp2_with fail;clear c2;go_loopw [3,4] (fun l u wr=>∃ j:Nat,u=.int .i64 ((j:Int)-1)/\l=.int .i64 (nxr (z1t (Z6 n st)) (64*n) j)/\j<=M/\Out 0 0 w wr) (fun _ u _=>(intOf u+1).toNat)
 case atStart=>exact⟨M,rfl,by rw[HM.out,j8k],Nat.le_refl _,Out.refl _ _ _⟩
 case round=>
  obtain⟨j,rfl,rfl,jb,hO⟩:=hrel;have hR:=HH.out.quiet hO;have c2:=hR.cells.2.2.1;rw[HM.out] at c2;have HO:=Z0 hO;have HR:=Z0 hR;clear hO hR;by_cases hj:0<j
  ·obtain⟨a,rfl⟩:∃ a,j=a+1:=⟨j-1,by omega⟩
   have ea:((a+1:Nat):Int)-1=(a:Int):=by omega
   rw[ea];have a0:(0:Int)<=(a:Int):=by omega
   have a1:(a:Int)<(M:Int):=by omega
   have hm:=HM.out;have d1:=HR.out.ro.cell (i:=a*5+1) (by omega);rw[z3g] at d1;have hbk:=j3i (A:=z1t (Z6 n st)) (N:=64*n) (j:=a) (by omega);rw[x1g HI.out] at hbk;obtain⟨x,hx⟩:∃ x,nxr (z1t (Z6 n st)) (64*n) (a+1)=x:=⟨_,rfl⟩
   rw[hx] at hbk ⊢;cases hb:Q7 (st.O a) with
   | false=>
    rw[hb,if_neg (by simp)] at d1;rw[hb] at hbk;simp only[Bool.false_and,Bool.false_eq_true,if_false] at hbk;have HN:=Z0 hbk;clear hb hm hbk hx;go_wp2_with fail;exact⟨⟨a,by congr 1,by rw[HN.out],by omega,HO.out⟩,by simp[intOf] <;> omega⟩
   | true=>
    have hck:=j9v (n:=n) hb;have HC:=Z0 (z2n HR.out HI.out (a:Int));rw[hb,if_pos rfl] at d1;rw[hb,Bool.true_and] at hbk;obtain⟨k,hk⟩:∃ k,(st.O a).1=k:=⟨_,rfl⟩
    rw[hk] at d1 hck hbk;have hk0:k ≠ 0:=by unfold Q7 at hb;rw[hk] at hb;simpa using hb
    have hkb:(k != 0)=true:=by simpa using hk0
    obtain⟨ca,hca⟩:∃ ca,z3w (Z6 n st) (a:Int)=ca:=⟨_,rfl⟩
    rw[hca] at HC;unfold z3l at HC;by_cases hg:st.W a=X9 a k (st.O a).2.1
    ·rw[if_pos hg] at hck;rw[hck] at HC;rw[show (st.W a == X9 a k (st.O a).2.1)=true from by simpa using hg] at hbk;simp only[Bool.not_true,Bool.false_eq_true,if_false] at hbk;have HN:=Z0 hbk;clear hb hm hbk hx hk hca hg hck;go_wp2_with (go_at_call 70;refine HC.out.mono ?_;rintro e w1 ⟨rfl,ho⟩);exact⟨⟨a,by congr 1,by rw[HN.out],by omega,HO.out.trans ho⟩,by simp[intOf] <;> omega⟩
    ·rw[if_neg hg] at hck;rw[hck] at HC;rw[show (st.W a == X9 a k (st.O a).2.1)=false from by simpa using hg] at hbk;simp only[Bool.not_false,if_true] at hbk;have HN:=Z0 hbk;clear hb hm hbk hx hk hca hg hck;go_wp2_with (go_at_call 70;refine HC.out.mono ?_;rintro e w1 ⟨rfl,ho⟩);exact⟨⟨a,by congr 1,by rw[HN.out],by omega,HO.out.trans ho⟩,by simp[intOf] <;> omega⟩
  ·have e:j=0:=by omega
   subst e;have e1:((0:Nat):Int)-1 = -1:=rfl;rw[e1];obtain⟨L0,hL0⟩:∃ L0,nxr (z1t (Z6 n st)) (64*n) 0=L0:=⟨_,rfl⟩
   rw[hL0];have HL0:=Z0 hL0;clear hL0 c2;go_wp2_with fail;go_loopw [3,5] (fun l u wq=>∃ c:Nat,u=.int .i64 (c:Int)/\l=.int .i64 (nxr (q6g n (Z6 n st) c) (64*n) 0)/\c<=8/\Out 0 0 w wq) (fun _ u _=>(8-intOf u).toNat)
   case atStart=>exact⟨0,rfl,by rw[<-HL0.out];rfl,Nat.zero_le _,HO.out⟩
   case round=>
    clear HO HR HL0;obtain⟨c,rfl,rfl,cb,hO⟩:=hrel;have hR:=HH.out.quiet hO;have HO:=Z0 hO;have c0:(0:Int)<=(c:Int):=by omega
    by_cases hc:c<8
    ·have c1:(c:Int)<8:=by omega
     have HNx:=Z0 (G0 hR hc (f:=0) (Nat.zero_le _));rw[show ((0:Nat):Int)=0 from rfl] at HNx;obtain⟨f0,_,hf0,hz0⟩:=z8f n st (c:Int) (f:=0) (Nat.zero_le _);have HS0:=Z0 (And.intro (j5y (n:=n) (st:=st) (c:=c) (f:=f0) (fun k h1 h2=>hz0 k (Nat.zero_le _) h1 h2)) hf0);obtain⟨x0,hx0⟩:∃ x,nf n st (c:Int) 0=x:=⟨_,rfl⟩
     obtain⟨L0,hL0⟩:∃ x,nxr (q6g n (Z6 n st) c) (64*n) 0=x:=⟨_,rfl⟩
     rw[hx0] at HNx HS0;rw[hL0] at HS0 ⊢;clear hO hR hf0 hz0 hx0 hL0;go_wp2_with (go_at_call 59;refine Z5 HNx.out ?_);go_loopw [3,6] (fun l u wq=>∃ f:Nat,l=.int .i64 (nxr (lkP n (Z6 n st) c f) (64*n) 0)/\((u=.int .i64 (-1)/\64*n<=f)\/(u=.int .i64 (f:Int)/\f<64*n/\fr n st (c:Int) f=true))/\Out 0 0 w wq) (fun _ u _=>((M:Int)-(if intOf u<0 then (M:Int) else intOf u)).toNat)
     case atStart=>
      refine⟨f0,by rw[HS0.out.1],?_,HO.out⟩;rcases HS0.out.2 with ⟨e,h⟩ | ⟨e,h⟩
      ·exact .inl ⟨by rw[e],h⟩
      ·exact .inr ⟨by rw[e],h⟩
     case round=>
      clear HO HNx HS0;obtain⟨f,rfl,hu,hO⟩:=hrel;have hR:=HH.out.quiet hO;rcases hu with ⟨rfl,hf⟩ | ⟨rfl,hf,hfr⟩
      ·have HE:=Z0 (And.intro (j8q (n:=n) (st:=st) (c:=c) hf) hO);clear hO hR hf;go_wp2_with fail;exact⟨⟨c+1,by congr 1,by rw[HE.out.1],by omega,HE.out.2⟩,by simp[intOf] <;> omega⟩
      ·have hm:=HM.out;have f0:(0:Int)<=(f:Int):=by omega
       have f1:(f:Int)<(M:Int):=by omega
       have c0':=hR.cells.1;rw[hm] at c0';have d0:=hR.rw.cell (i:=f) hf;have HN2:=Z0 (G0 hR hc (f:=f+1) (by omega));obtain⟨f',hf1,hfx,hfz⟩:=z8f n st (c:Int) (f:=f+1) (by omega);have hSt:=j7n (n:=n) (st:=st) (c:=c) (i:=f) (f:=f') hf hfr (by omega) (fun k h1 h2 h3=>hfz k h1 h2 h3);have hge:-1<=nf n st (c:Int) (f+1)/\nf n st (c:Int) (f+1)<=262143:=by
        rcases hfx with ⟨e,_⟩ | ⟨e,h,_⟩ <;> rw[e] <;> omega
       have HLk:=Z0 (fun w=>z0w hge.1 hge.2 w);obtain⟨x,hx⟩:∃ x,nf n st (c:Int) (f+1)=x:=⟨_,rfl⟩
       obtain⟨L,hL⟩:∃ L,nxr (lkP n (Z6 n st) c f) (64*n) 0=L:=⟨_,rfl⟩
       obtain⟨y,hy⟩:∃ y,st.W f=y:=⟨_,rfl⟩
       obtain⟨z,hz⟩:∃ z,Y7 x=z:=⟨_,rfl⟩
       rw[hx] at HN2 hfx hSt HLk hge;rw[hL] at hSt ⊢;rw[hy] at d0 hSt;rw[hz] at hSt HLk;rw[show ((f+1:Nat):Int)=(f:Int)+1 from by omega] at HN2;have HX:=Z0 (And.intro hfx hf1);have x1:=hge.1;have x2:=hge.2;have HEnd:Hid (∀ (l:Int) (W:World),nxr (lkP n (Z6 n st) c f') (64*n) 0=l->Out 0 0 w W->(∃ f:Nat,Value.int .i64 l=.int .i64 (nxr (lkP n (Z6 n st) c f) (64*n) 0)/\((Value.int .i64 x=.int .i64 (-1)/\64*n<=f)\/(Value.int .i64 x=.int .i64 (f:Int)/\f<64*n/\fr n st (c:Int) f=true))/\Out 0 0 w W)):=by
        intro l W hl ho;refine⟨f',by rw[hl],?_,ho⟩;rcases HX.out.1 with ⟨e,h⟩ | ⟨e,h⟩
        ·exact .inl ⟨by rw[e],h⟩
        ·exact .inr ⟨by rw[e],h⟩
       have HMs:Hid ((M:Int)-(if x<0 then (M:Int) else x)<(M:Int)-(f:Int)):=by
        show _<_
        rcases HX.out.1 with ⟨e,h⟩ | ⟨e,h,_⟩
        ·rw[e,if_pos (by omega)];omega
        ·have:=HX.out.2;rw[e,if_neg (by omega)];omega
       clear hR hfr hfx hfz hge hx hL hy hz hm hf hf1 HX;by_cases hyz:y=z
       ·have e1:(y != z)=false:=by simpa using hyz
        rw[if_neg (fun q=>q.1 hyz)] at hSt;have HSt:=Z0 hSt;clear hyz hSt;go_wp2_with (go_at_call 59;refine Z5 HN2.out ?_);refine wp_region_held_drew (S:=fun w'=>w'.cell? ⟨s 0,0,none⟩=some (.slice (some ⟨s 1,0,none⟩) M cw)/\w'.cell? ⟨s 1,f,none⟩=some (.int .i64 y)) (by kernel_rfl) ?hS1 (fun hHeld=>?rest1)
        case hS1=>exact⟨c0',d0⟩
        refine tk 0 ?_;refine tk 1 ?_;refine tk 2 ?_;refine tk 3 ?_;refine tk 4 ?_;refine tk 5 ?_;refine tk 6 ?_;refine tk 7 ?_;refine rd1 8 fun KK hK=>?_
        simp only[xa,xb,xc];go_simp;refine Z5 (HLk.out _) ?_;refine hK.out _ _ ?hS10 (fun hHeld2=>?rest10)
        case hS10=>exact hHeld
        clear hK KK;replace hHeld:=hHeld2;clear hHeld2;refine tk 9 ?_;refine tk 10 ?_;refine sk 11 ?_;refine sk 12 ?_;refine sk 13 ?_;refine sk 14 ?_;refine sk 15 ?_;refine sk 16 ?_;refine sk 17 ?_;refine tk 18 ?_;refine dn ?_;clear hHeld;have hOd:=hO.drew;clear hO;go_wp2_with fail;exact⟨HEnd.out _ _ HSt.out hOd,by have:=HMs.out;simp[intOf] <;> omega⟩
       ·have e1:(y != z)=true:=by simpa using hyz
        by_cases hl:L<0
        ·have e2:decide (L<0)=true:=by simpa using hl
         rw[if_pos ⟨hyz,.inl hl⟩] at hSt;have HSt:=Z0 hSt;clear hyz hSt;go_wp2_with (go_at_call 59;refine Z5 HN2.out ?_);refine wp_region_held_drew (S:=fun w'=>w'.cell? ⟨s 0,0,none⟩=some (.slice (some ⟨s 1,0,none⟩) M cw)/\w'.cell? ⟨s 1,f,none⟩=some (.int .i64 y)) (by kernel_rfl) ?hS21 (fun hHeld=>?rest21)
         case hS21=>exact⟨c0',d0⟩
         refine tk 0 ?_;refine tk 1 ?_;refine tk 2 ?_;refine tk 3 ?_;refine tk 4 ?_;refine tk 5 ?_;refine tk 6 ?_;refine tk 7 ?_;refine rd1 8 fun KK hK=>?_
         simp only[xa,xb,xc];go_simp;refine Z5 (HLk.out _) ?_;refine hK.out _ _ ?hS30 (fun hHeld2=>?rest30)
         case hS30=>exact hHeld
         clear hK KK;replace hHeld:=hHeld2;clear hHeld2;refine tk 9 ?_;refine tk 10 ?_;refine tk 11 ?_;refine tk 12 ?_;refine tk 13 ?_;refine sk 14 ?_;refine sk 15 ?_;refine sk 16 ?_;refine tk 17 ?_;refine tk 18 ?_;refine dn ?_;clear hHeld;have hOd:=hO.drew;clear hO;go_wp2_with fail;exact⟨HEnd.out _ _ HSt.out hOd,by have:=HMs.out;simp[intOf] <;> omega⟩
        ·have e2:decide (L<0)=false:=by simpa using hl
         by_cases hq:(f:Int)<L
         ·have e3:decide ((f:Int)<L)=true:=by simpa using hq
          rw[if_pos ⟨hyz,.inr hq⟩] at hSt;have HSt:=Z0 hSt;clear hyz hSt;go_wp2_with (go_at_call 59;refine Z5 HN2.out ?_);refine wp_region_held_drew (S:=fun w'=>w'.cell? ⟨s 0,0,none⟩=some (.slice (some ⟨s 1,0,none⟩) M cw)/\w'.cell? ⟨s 1,f,none⟩=some (.int .i64 y)) (by kernel_rfl) ?hS41 (fun hHeld=>?rest41)
          case hS41=>exact⟨c0',d0⟩
          refine tk 0 ?_;refine tk 1 ?_;refine tk 2 ?_;refine tk 3 ?_;refine tk 4 ?_;refine tk 5 ?_;refine tk 6 ?_;refine tk 7 ?_;refine rd1 8 fun KK hK=>?_
          simp only[xa,xb,xc];go_simp;refine Z5 (HLk.out _) ?_;refine hK.out _ _ ?hS50 (fun hHeld2=>?rest50)
          case hS50=>exact hHeld
          clear hK KK;replace hHeld:=hHeld2;clear hHeld2;refine tk 9 ?_;refine tk 10 ?_;refine tk 11 ?_;refine tk 12 ?_;refine tk 13 ?_;refine tk 14 ?_;refine tk 15 ?_;refine tk 16 ?_;refine tk 17 ?_;refine tk 18 ?_;refine dn ?_;clear hHeld;have hOd:=hO.drew;clear hO;go_wp2_with fail;exact⟨HEnd.out _ _ HSt.out hOd,by have:=HMs.out;simp[intOf] <;> omega⟩
         ·have e3:decide ((f:Int)<L)=false:=by simpa using hq
          rw[if_neg (fun z=>z.2.elim hl hq)] at hSt;have HSt:=Z0 hSt;clear hyz hSt;go_wp2_with (go_at_call 59;refine Z5 HN2.out ?_);refine wp_region_held_drew (S:=fun w'=>w'.cell? ⟨s 0,0,none⟩=some (.slice (some ⟨s 1,0,none⟩) M cw)/\w'.cell? ⟨s 1,f,none⟩=some (.int .i64 y)) (by kernel_rfl) ?hS61 (fun hHeld=>?rest61)
          case hS61=>exact⟨c0',d0⟩
          refine tk 0 ?_;refine tk 1 ?_;refine tk 2 ?_;refine tk 3 ?_;refine tk 4 ?_;refine tk 5 ?_;refine tk 6 ?_;refine tk 7 ?_;refine rd1 8 fun KK hK=>?_
          simp only[xa,xb,xc];go_simp;refine Z5 (HLk.out _) ?_;refine hK.out _ _ ?hS70 (fun hHeld2=>?rest70)
          case hS70=>exact hHeld
          clear hK KK;replace hHeld:=hHeld2;clear hHeld2;refine tk 9 ?_;refine tk 10 ?_;refine tk 11 ?_;refine tk 12 ?_;refine tk 13 ?_;refine tk 14 ?_;refine tk 15 ?_;refine tk 16 ?_;refine tk 17 ?_;refine tk 18 ?_;refine dn ?_;clear hHeld;have hOd:=hO.drew;clear hO;go_wp2_with fail;exact⟨HEnd.out _ _ HSt.out hOd,by have:=HMs.out;simp[intOf] <;> omega⟩
    ·have e:c=8:=by omega
     subst e;clear hO hR;go_wp2;go_ret;exact⟨rfl,HO.out⟩
end
theorem made5 {i k:Nat} (h:i<k):(madeCells #[Value.int .i64 0,.int .i64 0,.int .i64 0,.int .i64 0,.int .i64 0] k)[i]? = some (.int .i64 0):=by
 have:i % 5=0\/i % 5=1\/i % 5=2\/i % 5=3\/i % 5=4:=by omega
 simp[madeCells,h];rcases this with e | e | e | e | e <;> simp[e]
theorem j1q (m:Nat) (hm:m<=262144):∃ cur:Array Value,(∀ i,i<m*5->cur[i]? = some (.int .i64 0))/\cur.size=m*5/\∀ w:World,(Instr.makeSlice 70 (.int .i64 (m:Int)) (.int .i64 (m:Int))).run Tryz.prog w=.ok (.slice (some ⟨w.heap.size,0,none⟩) m m) (w.alloc (.cells cur 97)):=by
 obtain⟨i0,hi,hz0,hz1,hz2⟩:=Q3 z6s;refine⟨madeCells #[Value.int .i64 0,.int .i64 0,.int .i64 0,.int .i64 0,.int .i64 0] (m*5),fun i h=>made5 h,size_madeCells _ _,fun w=>?_⟩;have:=run_make (P:=Tryz.prog) w 70 97 i0 _ Tryz.underlying70 hi hz0 .i64 .i64 (m:Int) (m:Int) (by omega) (Int.le_refl _) (by rw[hz2];omega) (by omega);rw[this,hz1];simp[Value.cells]
theorem j1y (m:Nat) (hm:m<=262144):∃ cur:Array Value,(∀ i,i<m->cur[i]? = some (.int .i64 0))/\cur.size=m/\∀ w:World,(Instr.makeSlice 30 (.int .i64 (m:Int)) (.int .i64 (m:Int))).run Tryz.prog w=.ok (.slice (some ⟨w.heap.size,0,none⟩) m m) (w.alloc (.cells cur 3)):=
 ⟨madeCells #[Value.int .i64 0] m,fun i h=>x0q h,size_madeCells _ _,fun w=>run_make_row' (P:=Tryz.prog) 30 3 (.int .i64 0) 8 Tryz.underlying30 (by kernel_rfl) rfl .i64 .i64 m (by omega) (by omega) w⟩
def rfS (bs bA tb tw bO:Nat) (i:Nat):Nat:=if i=0 then bs else if i=1 then bA else if i=2 then tb else if i=3 then tw else bO
theorem j6x {W:World} {lo n M bs bA tb tw bO:Nat} {cA cO:Array Value} (hM:64*n=M) (h1:1<=n) (h2:n<=4096) (hg:4<=lo)
  (hi:(lo<=bs/\lo<=bA/\lo<=tb/\lo<=tw/\lo<=bO)/\(bs<W.heap.size/\bA<bs/\tb<bs/\tw<bs/\bO<bs)) (hne:bA ≠ bO/\tb<bA/\tw<bA/\tb<bO/\tw<bO/\tb ≠ tw)
  (fB:W.heap[bs]? = some (.cells #[.slice (some ⟨bA,0,none⟩) M M,.pointer (some ⟨tb,0,none⟩),.slice (some ⟨bO,0,none⟩) M M,.int .i64 0] 74))
  (fA:W.heap[bA]? = some (.cells cA 3)) (fO:W.heap[bO]? = some (.cells cO 97)) (aA:∀ i,i<M->cA[i]? = some (.int .i64 0)) (sA:cA.size=M) (aO:∀ i,i<M*5->cO[i]? = some (.int .i64 0)) (sO:cO.size=M*5)
  (ht:TblAt 130 W tb tw n (fun _=>(0,0,0))):RfAt W lo W.heap.size (rfS bs bA tb tw bO) n (64*n) (64*n) newSp:=by
 subst hM;refine⟨h1,h2,Nat.le_refl _,hg,?_,?_,fB,⟨cA,fA,by omega,fun i hi=>aA i hi⟩,ht,⟨cO,fO,by omega,fun i hi=>?_⟩⟩
 ·intro i hi5;have:i=0\/i=1\/i=2\/i=3\/i=4:=by omega
  rcases this with rfl | rfl | rfl | rfl | rfl <;> simp[rfS] <;> omega
 ·intro i j hi5 hj5;have a:i=0\/i=1\/i=2\/i=3\/i=4:=by omega
  have b:j=0\/j=1\/j=2\/j=3\/j=4:=by omega
  rcases a with rfl | rfl | rfl | rfl | rfl <;> rcases b with rfl | rfl | rfl | rfl | rfl <;> simp[rfS] <;> omega
 ·rw[aO i hi]
  show _=some (Value.int .i64 (obC newSp i))
  unfold obC;rfl
theorem q7m (n:Int) (h:j2u n=false) (w:World):Calls Tryz.prog 16 #[.int .i64 n] w fun e w'=>e=.returned (.tuple #[.pointer none,.int .i64 1])/\w'=w:=by
 have HP:=Z0 (fun w=>j2n n h w);clear h;go_enter Tryz.func16,Tryz.ntmps16
 go_wp2_with (go_at_call 54;refine Z5 (HP.out _) ?_);go_ret2;exact⟨rfl,rfl⟩
theorem q4z {w:World} (hg:4<=w.heap.size) (n:Nat) (h1:1<=n) (h2:n<=4096) :
  Calls Tryz.prog 16 #[.int .i64 n] w fun e w'=>∃ s,e=.returned (.tuple #[.pointer (some ⟨s 0,0,none⟩),.int .i64 0])/\RfAt w' w.heap.size w'.heap.size s n (64*n) (64*n) newSp/\Out 0 0 w w':=by
 have HP:=Z0 (q8l hg n h1 h2);obtain⟨M,hM⟩:∃ M,64*n=M:=⟨_,rfl⟩
 obtain⟨cA,aA,sA,hmA⟩:=j1y M (by omega);obtain⟨cO,aO,sO,hmO⟩:=j1q M (by omega);have b0:(1:Int)<=(n:Int):=by omega
 have b1:(n:Int)<=4096:=by omega
 have e4:((0:Int) != 0)=false:=rfl;have hcm:(n:Int)*64=(M:Int):=by omega
 have HF:=Z0 (And.intro aA (And.intro sA (And.intro aO (And.intro sO (And.intro hM (And.intro h1 (And.intro h2 hg)))))));clear aA sA aO sO hM h1 h2 hg;go_enter Tryz.func16,Tryz.ntmps16
 go_wp2_with (first | (go_at_call 54;refine HP.out.mono ?_;rintro e w1 ⟨rfl,ht,ho,hs⟩;have HTb:=Z0 ht;have HO1:=Z0 ho;have HS1:=Z0 hs;clear ht ho hs));obtain⟨tb,htb⟩:∃ tb,w.heap.size+1=tb:=⟨_,rfl⟩
 rw[htb] at HTb ⊢;have HTB:=Z0 htb;clear htb;refine wp_region_held_drew (S:=fun _=>True) (by kernel_rfl) ?hS1 (fun hHeld=>?rest1)
 case hS1=>trivial
 clear hHeld;obtain⟨Z,hZ⟩:∃ Z,w1.drew=Z:=⟨_,rfl⟩
 have OZ:Out 0 0 w1 Z:=by rw[<-hZ];exact(Out.refl 0 0 w1).drew
 rw[hZ];clear hZ;have hHeld:(fun(_:World)=>True) Z:=trivial;refine tk 0 ?_;refine tk 2 ?_;refine tk 3 ?_;refine rd2 1 4 (fun KK hK=>?_) fun KK hK=>?_
 ·simp only[xa,xb,xc];go_simp;obtain⟨bA,hbA⟩:∃ b,Z.heap.size=b:=⟨_,rfl⟩
  have gbA:w1.heap.size<=bA:=by rw[<-hbA];exact OZ.size
  obtain⟨WA,hW⟩:∃ W,Z.alloc (.cells cA 3)=W:=⟨_,rfl⟩
  have o1:Out 0 0 Z WA:=by rw[<-hW];exact(Out.refl 0 0 _).alloc _
  have fA:WA.heap[bA]? = some (.cells cA 3):=by rw[<-hW,<-hbA];exact heap_alloc_new _ _
  have zA:bA<WA.heap.size:=by rw[<-hW,<-hbA,World.size_alloc];exact Nat.lt_succ_self _
  have O2:Out 0 0 w1 WA:=OZ.trans o1;(try rw[hW]);(try rw[hbA]);(try clear O1);have O1:=O2;clear O2 hW o1 hbA;refine hK.out _ _ ?hS5 (fun hHeld2=>?rest5)
  case hS5=>trivial
  clear hK KK;replace hHeld:=hHeld2;clear hHeld2;refine rd1 4 fun KK hK=>?_
  simp only[xa,xb,xc];go_simp;obtain⟨bO,hbO⟩:∃ b,WA.heap.size=b:=⟨_,rfl⟩
  have gbO:w1.heap.size<=bO:=by rw[<-hbO];exact O1.size
  have pAbO:bA<bO:=by rw[<-hbO];exact zA
  obtain⟨WAO,hW⟩:∃ W,WA.alloc (.cells cO 97)=W:=⟨_,rfl⟩
  have o1:Out 0 0 WA WAO:=by rw[<-hW];exact(Out.refl 0 0 _).alloc _
  have fO:WAO.heap[bO]? = some (.cells cO 97):=by rw[<-hW,<-hbO];exact heap_alloc_new _ _
  have zO:bO<WAO.heap.size:=by rw[<-hW,<-hbO,World.size_alloc];exact Nat.lt_succ_self _
  replace fA:=o1.heap fA z0;replace zA:=Nat.lt_of_lt_of_le zA o1.size;have O2:Out 0 0 w1 WAO:=O1.trans o1;(try rw[hW]);(try rw[hbO]);(try clear O1);have O1:=O2;clear O2 hW o1 hbO;refine hK.out _ _ ?hS6 (fun hHeld2=>?rest6)
  case hS6=>trivial
  clear hK KK;replace hHeld:=hHeld2;clear hHeld2;refine tk 5 ?_;refine rd1 6 fun KK hK=>?_
  simp only[xa,xb,xc];go_simp;obtain⟨bs,hbs⟩:∃ b,WAO.heap.size=b:=⟨_,rfl⟩
  have gbs:w1.heap.size<=bs:=by rw[<-hbs];exact O1.size
  have pAbs:bA<bs:=by rw[<-hbs];exact zA
  have pObs:bO<bs:=by rw[<-hbs];exact zO
  obtain⟨WAOB,hW⟩:∃ W,WAO.alloc (.cells #[.slice (some ⟨bA,0,none⟩) M M,.pointer (some ⟨tb,0,none⟩),.slice (some ⟨bO,0,none⟩) M M,.int .i64 0] 74)=W:=⟨_,rfl⟩
  have o1:Out 0 0 WAO WAOB:=by rw[<-hW];exact(Out.refl 0 0 _).alloc _
  have fB:WAOB.heap[bs]? = some (.cells #[.slice (some ⟨bA,0,none⟩) M M,.pointer (some ⟨tb,0,none⟩),.slice (some ⟨bO,0,none⟩) M M,.int .i64 0] 74):=by rw[<-hW,<-hbs];exact heap_alloc_new _ _
  have zB:bs<WAOB.heap.size:=by rw[<-hW,<-hbs,World.size_alloc];exact Nat.lt_succ_self _
  replace fA:=o1.heap fA z0;replace zA:=Nat.lt_of_lt_of_le zA o1.size;replace fO:=o1.heap fO z0;replace zO:=Nat.lt_of_lt_of_le zO o1.size;have O2:Out 0 0 w1 WAOB:=O1.trans o1;(try rw[hW]);(try rw[hbs]);(try clear O1);have O1:=O2;clear O2 hW o1 hbs;refine hK.out _ _ ?hS8 (fun hHeld2=>?rest8)
  case hS8=>trivial
  clear hK KK;replace hHeld:=hHeld2;clear hHeld2;refine tk 7 ?_;refine tk 8 ?_;refine dn ?_;clear hHeld;have HX:=Z0 (And.intro O1 (And.intro fA (And.intro fO (And.intro fB zB))));clear O1 fA fO fB zB;go_wp2;go_ret2;obtain⟨O1,fA,fO,fB,zB⟩:=HX.out;obtain⟨aA,sA,aO,sO,hM,h1,h2,hg⟩:=HF.out;have hs:=HS1.out;have hb:=HTB.out;have hsz:=O1.size;refine⟨rfS bs bA tb w.heap.size bO,rfl,j6x hM h1 h2 hg ⟨by omega,by omega⟩ (by omega) fB fA fO aA sA aO sO (HTb.out.quiet O1),HO1.out.trans O1⟩
 ·simp only[xa,xb,xc];go_simp;obtain⟨bO,hbO⟩:∃ b,Z.heap.size=b:=⟨_,rfl⟩
  have gbO:w1.heap.size<=bO:=by rw[<-hbO];exact OZ.size
  obtain⟨WO,hW⟩:∃ W,Z.alloc (.cells cO 97)=W:=⟨_,rfl⟩
  have o1:Out 0 0 Z WO:=by rw[<-hW];exact(Out.refl 0 0 _).alloc _
  have fO:WO.heap[bO]? = some (.cells cO 97):=by rw[<-hW,<-hbO];exact heap_alloc_new _ _
  have zO:bO<WO.heap.size:=by rw[<-hW,<-hbO,World.size_alloc];exact Nat.lt_succ_self _
  have O2:Out 0 0 w1 WO:=OZ.trans o1;(try rw[hW]);(try rw[hbO]);(try clear O1);have O1:=O2;clear O2 hW o1 hbO;refine hK.out _ _ ?hS11 (fun hHeld2=>?rest11)
  case hS11=>trivial
  clear hK KK;replace hHeld:=hHeld2;clear hHeld2;refine rd1 1 fun KK hK=>?_
  simp only[xa,xb,xc];go_simp;obtain⟨bA,hbA⟩:∃ b,WO.heap.size=b:=⟨_,rfl⟩
  have gbA:w1.heap.size<=bA:=by rw[<-hbA];exact O1.size
  have pObA:bO<bA:=by rw[<-hbA];exact zO
  obtain⟨WOA,hW⟩:∃ W,WO.alloc (.cells cA 3)=W:=⟨_,rfl⟩
  have o1:Out 0 0 WO WOA:=by rw[<-hW];exact(Out.refl 0 0 _).alloc _
  have fA:WOA.heap[bA]? = some (.cells cA 3):=by rw[<-hW,<-hbA];exact heap_alloc_new _ _
  have zA:bA<WOA.heap.size:=by rw[<-hW,<-hbA,World.size_alloc];exact Nat.lt_succ_self _
  replace fO:=o1.heap fO z0;replace zO:=Nat.lt_of_lt_of_le zO o1.size;have O2:Out 0 0 w1 WOA:=O1.trans o1;(try rw[hW]);(try rw[hbA]);(try clear O1);have O1:=O2;clear O2 hW o1 hbA;refine hK.out _ _ ?hS12 (fun hHeld2=>?rest12)
  case hS12=>trivial
  clear hK KK;replace hHeld:=hHeld2;clear hHeld2;refine tk 5 ?_;refine rd1 6 fun KK hK=>?_
  simp only[xa,xb,xc];go_simp;obtain⟨bs,hbs⟩:∃ b,WOA.heap.size=b:=⟨_,rfl⟩
  have gbs:w1.heap.size<=bs:=by rw[<-hbs];exact O1.size
  have pObs:bO<bs:=by rw[<-hbs];exact zO
  have pAbs:bA<bs:=by rw[<-hbs];exact zA
  obtain⟨WOAB,hW⟩:∃ W,WOA.alloc (.cells #[.slice (some ⟨bA,0,none⟩) M M,.pointer (some ⟨tb,0,none⟩),.slice (some ⟨bO,0,none⟩) M M,.int .i64 0] 74)=W:=⟨_,rfl⟩
  have o1:Out 0 0 WOA WOAB:=by rw[<-hW];exact(Out.refl 0 0 _).alloc _
  have fB:WOAB.heap[bs]? = some (.cells #[.slice (some ⟨bA,0,none⟩) M M,.pointer (some ⟨tb,0,none⟩),.slice (some ⟨bO,0,none⟩) M M,.int .i64 0] 74):=by rw[<-hW,<-hbs];exact heap_alloc_new _ _
  have zB:bs<WOAB.heap.size:=by rw[<-hW,<-hbs,World.size_alloc];exact Nat.lt_succ_self _
  replace fO:=o1.heap fO z0;replace zO:=Nat.lt_of_lt_of_le zO o1.size;replace fA:=o1.heap fA z0;replace zA:=Nat.lt_of_lt_of_le zA o1.size;have O2:Out 0 0 w1 WOAB:=O1.trans o1;(try rw[hW]);(try rw[hbs]);(try clear O1);have O1:=O2;clear O2 hW o1 hbs;refine hK.out _ _ ?hS14 (fun hHeld2=>?rest14)
  case hS14=>trivial
  clear hK KK;replace hHeld:=hHeld2;clear hHeld2;refine tk 7 ?_;refine tk 8 ?_;refine dn ?_;clear hHeld;have HX:=Z0 (And.intro O1 (And.intro fA (And.intro fO (And.intro fB zB))));clear O1 fA fO fB zB;go_wp2;go_ret2;obtain⟨O1,fA,fO,fB,zB⟩:=HX.out;obtain⟨aA,sA,aO,sO,hM,h1,h2,hg⟩:=HF.out;have hs:=HS1.out;have hb:=HTB.out;have hsz:=O1.size;refine⟨rfS bs bA tb w.heap.size bO,rfl,j6x hM h1 h2 hg ⟨by omega,by omega⟩ (by omega) fB fA fO aA sA aO sO (HTb.out.quiet O1),HO1.out.trans O1⟩
end Go.Proofs.YtjbbkeoolodeaabGreatDoor
