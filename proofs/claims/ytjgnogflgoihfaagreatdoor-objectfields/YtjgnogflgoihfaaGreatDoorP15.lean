import Derived.Test.YtjgnogflgoihfaaGreatDoorP14
set_option linter.unusedSimpArgs false
set_option linter.unusedVariables false
set_option maxHeartbeats 16000000
set_option maxRecDepth 100000
namespace Go.Proofs.YtjgnogflgoihfaaGreatDoor
open Go.RowKit
theorem z0w {n:Nat} (st:Sp):q1g (Q6 n st):=by
 intro a ha;have h:ob n st a=true:=ha;unfold ob at h;rw[Bool.and_eq_true] at h;refine⟨st.O a,?_⟩
 show obM st (a:Int)=_
 unfold obM;rw[show ((a:Int)).toNat=a from by omega,if_pos ⟨by omega,h.2⟩]
theorem j5k {n:Nat} {st:Sp} (hI:Inv n st):∀ a b,(Q6 n st).M a=some b->∃ j:Nat,a=j/\j<64*n:=by
 intro a b h;have h':obM st a=some b:=h;unfold obM at h';by_cases e:0<=a/\Y6 (st.O a.toNat)=true
 ·exact⟨a.toNat,by omega,(hI.objs _ e.2).1⟩
 ·rw[if_neg e] at h';cases h'
theorem z4x {n:Nat} {st:Sp} {a:Nat} {b:Blk} (h:(Q6 n st).M (a:Int)=some b):b=st.O a/\Y6 (st.O a)=true:=by
 have h':obM st (a:Int)=some b:=h;unfold obM at h';rw[show ((a:Int)).toNat=a from by omega] at h';by_cases e:(0:Int)<=(a:Int)/\Y6 (st.O a)=true
 ·rw[if_pos e] at h';cases h';exact⟨rfl,e.2⟩
 ·rw[if_neg e] at h';cases h'
theorem x0a {a b x:Nat} (hx:0<x) (ha:a % x=0) (hb:b % x=0) (h:a<b):a+x<=b:=by
 obtain⟨p,rfl⟩:=Nat.dvd_of_mod_eq_zero ha;obtain⟨q,rfl⟩:=Nat.dvd_of_mod_eq_zero hb;have:p<q:=Nat.lt_of_mul_lt_mul_left h
 calc x*p+x=x*(p+1):=by rw[Nat.mul_succ]
  _<=x*q:=Nat.mul_le_mul_left _ this
theorem z5y {n:Nat} {st:Sp} (hI:Inv n st):j0q n (Q6 n st):=by
 intro a b ha hb;obtain⟨rfl,hh⟩:=z4x hb;obtain⟨h1,h2,h3⟩:=hI.objs a hh;obtain⟨_,_,h4,h5⟩:=U3 h2;obtain⟨k,z,x,t,hO⟩:∃ k z x t,st.O a=(k,z,x,t):=⟨_,_,_,_,rfl⟩
 rw[hO] at h2 h3 h4 h5 ⊢;dsimp only at h2 h3 h4 h5 ⊢;refine⟨h4,h5,?_⟩;have hother:∀ a',(Q6 n st).P a'=true->ObOk n st.S a' (st.O a'):=fun a' h'=>by
  have:ob n st a'=true:=h';unfold ob at this;rw[Bool.and_eq_true] at this;exact hI.objs a' this.2
 rcases h3 with ⟨s1,s2,s3⟩ | ⟨s1,s2,s3⟩
 ·obtain⟨c,hc,hc8⟩:=of_lt z (by unfold B5;rw[if_neg (by omega)];omega) (by unfold ofV;repeat' split;all_goals omega);obtain⟨w',y',e1,e2,e3,e4⟩:=z2q hc8;have hw:Y8 z=w':=by unfold Y8;rw[if_neg (by omega),hc,e2]
  rw[hw];rw[hc] at s2 s3;unfold F6 at s3;rw[Bool.and_eq_true,e2] at s3;have s4:a % 64 % w'=0:=by simpa using s3.1
  have s5:a % 64+w'<=64:=by simpa using s3.2
  refine⟨by omega,fun a' h6 h7=>?_⟩;by_cases hpg:a' / 64=a / 64
  ·obtain⟨o1,o2,o3⟩:=hother a' h7;rcases o3 with ⟨o4,o5,o6⟩ | ⟨o4,o5,o6⟩
   ·rw[hpg,s2] at o5;have oc:ofV (st.O a').2.1=(c:Int):=by simp at o5;omega
    rw[oc] at o6;unfold F6 at o6;rw[Bool.and_eq_true,e2] at o6;have o7:a' % 64 % w'=0:=by simpa using o6.1
    have:=x0a (a:=a % 64) (b:=a' % 64) (x:=w') (by omega) s4 o7 (by omega);omega
   ·rw[hpg,s2] at o6;simp at o6
  ·omega
 ·have hw:Y8 z=((z+63) / 64).toNat*64:=by unfold Y8;rw[if_pos s1]
  obtain⟨m,hm⟩:∃ m:Nat,(z+63) / 64=(m:Int):=⟨((z+63) / 64).toNat,by omega⟩
  rw[hm] at s3 hw;rw[hw,show ((m:Int)).toNat=m from by omega];rcases hI.good (a / 64) (by omega) with e | ⟨c,_,_,e⟩ | ⟨q,q1,q2,q3,e,q4⟩ | ⟨e,_⟩
  ·rw[s3] at e;simp at e
  ·rw[s3] at e;simp at e
  ·rw[s3] at e;have:m=q:=by simp at e;omega
   subst this;refine⟨by omega,fun a' h6 h7=>?_⟩;by_cases hpg:a / 64<a' / 64/\a' / 64<a / 64+m
   ·have e3:=q4 (a' / 64) hpg.1 hpg.2;obtain⟨o1,o2,o3⟩:=hother a' h7;rcases o3 with ⟨o4,o5,o6⟩ | ⟨o4,o5,o6⟩
    ·rw[e3] at o5;simp at o5
    ·rw[e3] at o6;simp at o6
   ·by_cases hsame:a' / 64=a / 64
    ·obtain⟨o1,o2,o3⟩:=hother a' h7;rcases o3 with ⟨o4,o5,o6⟩ | ⟨o4,o5,o6⟩
     ·rw[hsame,s3] at o5;simp at o5
     ·omega
    ·omega
  ·rw[s3] at e;simp at e
def z2l (r:Raw) (kp:Nat->Bool) (a:Nat):Bool:=r.P a && !kp a
theorem z3a (n:Nat) (r:Raw) (kp:Nat->Bool) (p:Nat):V5 n r kp (p+1)=if r.P p && !kp p then (match r.M (p:Int) with | some b=>drR n (V5 n r kp p) p b.2.1 b.2.2.1 | none=>V5 n r kp p) else V5 n r kp p:=rfl
theorem x1u {n:Nat} {r:Raw} {kp:Nat->Bool} (hT:q1g r):∀ (p:Nat) (i:Int),(V5 n r kp p).M i=if 0<=i/\i.toNat<p/\z2l r kp i.toNat=true then none else r.M i
 | 0,i=>by rw[if_neg (by omega)];rfl
 | p+1,i=>by
  have ih:=x1u (n:=n) (kp:=kp) hT p i;rw[z3a];cases e:(r.P p && !kp p) with
  | false=>
   rw[if_neg (by simp),ih];by_cases h:0<=i/\i.toNat<p/\z2l r kp i.toNat=true
   ·rw[if_pos h,if_pos ⟨h.1,by omega,h.2.2⟩]
   ·rw[if_neg h,if_neg ?_];rintro⟨h1,h2,h3⟩;by_cases ep:i.toNat=p
    ·rw[ep] at h3;unfold z2l at h3;rw[e] at h3;cases h3
    ·exact h ⟨h1,by omega,h3⟩
  | true=>
   rw[if_pos rfl];obtain⟨b,hb⟩:=hT p (by rw[Bool.and_eq_true] at e;exact e.1);rw[hb]
   show (if i=(p:Int) then none else (V5 n r kp p).M i)=_
   by_cases ei:i=(p:Int)
   ·rw[if_pos ei,if_pos ⟨by omega,by omega,by rw[ei,show ((p:Int)).toNat=p from by omega];exact e⟩]
   ·rw[if_neg ei,ih];by_cases h:0<=i/\i.toNat<p/\z2l r kp i.toNat=true
    ·rw[if_pos h,if_pos ⟨h.1,by omega,h.2.2⟩]
    ·rw[if_neg h,if_neg (fun h'=>h ⟨h'.1,by omega,h'.2.2⟩)]
def q3q (r:Raw) (kp:Nat->Bool) (p:Nat) (x:Int):Bool:=(List.range p).any fun a=>z2l r kp a && (match r.M (a:Int) with | some b=>b.2.2.1 == x | none=>false)
theorem j1m (r:Raw) (kp:Nat->Bool) (p:Nat) (x:Int):q3q r kp (p+1) x=(q3q r kp p x || (z2l r kp p && (match r.M (p:Int) with | some b=>b.2.2.1 == x | none=>false))):=by
 unfold q3q;rw[List.range_succ,List.any_append];simp
theorem x1v {n:Nat} {r:Raw} {kp:Nat->Bool} (hT:q1g r):∀ (p:Nat) (x:Int),(V5 n r kp p).R x=if q3q r kp p x=true then none else r.R x
 | 0,x=>by rw[if_neg (by unfold q3q;simp)];rfl
 | p+1,x=>by
  have ih:=x1v (n:=n) (kp:=kp) hT p x;rw[z3a,j1m];cases e:(r.P p && !kp p) with
  | false=>
   have e':z2l r kp p=false:=e;rw[if_neg (by simp),ih,e'];simp
  | true=>
   have e':z2l r kp p=true:=e;rw[if_pos rfl,e'];obtain⟨b,hb⟩:=hT p (by rw[Bool.and_eq_true] at e;exact e.1);rw[hb]
   show (if x=b.2.2.1 then none else (V5 n r kp p).R x)=_
   by_cases ex:x=b.2.2.1
   ·rw[if_pos ex,if_pos (by rw[ex];simp)]
   ·rw[if_neg ex,ih];have:(b.2.2.1 == x)=false:=by simpa using fun h=>ex h.symm
    simp[this]
def z2d (r:Raw) (kp:Nat->Bool) (p q:Nat):Bool:=(List.range p).any fun a=>z2l r kp a && (match r.M (a:Int) with | some b=>decide (32<b.2.1/\a / 64<=q/\q<a / 64+((b.2.1+63) / 64).toNat) | none=>false)
theorem j1l (r:Raw) (kp:Nat->Bool) (p q:Nat):z2d r kp (p+1) q=(z2d r kp p q || (z2l r kp p && (match r.M (p:Int) with | some b=>decide (32<b.2.1/\p / 64<=q/\q<p / 64+((b.2.1+63) / 64).toNat) | none=>false))):=by
 unfold z2d;rw[List.range_succ,List.any_append];simp
theorem goneP_iff {r:Raw} {kp:Nat->Bool} {p q:Nat}:z2d r kp p q=true ↔ ∃ a b,a<p/\z2l r kp a=true/\r.M (a:Int)=some b/\32<b.2.1/\a / 64<=q/\q<a / 64+((b.2.1+63) / 64).toNat:=by
 unfold z2d;rw[List.any_eq_true];constructor
 ·rintro⟨a,ha,h⟩;rw[List.mem_range] at ha;rw[Bool.and_eq_true] at h;cases e:r.M (a:Int) with
  | none=>rw[e] at h;exact absurd h.2 (by simp)
  | some b=>
   rw[e] at h;have:=h.2;simp only[decide_eq_true_eq] at this;exact⟨a,b,ha,h.1,e,this.1,this.2.1,this.2.2⟩
 ·rintro⟨a,b,h1,h2,h3,h4,h5,h6⟩;refine⟨a,by rw[List.mem_range];omega,?_⟩;rw[h2,h3];simp only[Bool.true_and,decide_eq_true_eq];exact⟨h4,h5,h6⟩
theorem x1w {n:Nat} {st:Sp} {kp:Nat->Bool} (hI:Inv n st):∀ (p:Nat) (q:Nat),(V5 n (Q6 n st) kp p).S q=if z2d (Q6 n st) kp p q=true then (0,0,0) else st.S q
 | 0,q=>by rw[if_neg (by unfold z2d;simp)];rfl
 | p+1,q=>by
  have ih:=fun q=>x1w (kp:=kp) hI p q
  rw[z3a,j1l];cases e:((Q6 n st).P p && !kp p) with
  | false=>
   have e':z2l (Q6 n st) kp p=false:=e;rw[if_neg (by simp),ih,e'];simp
  | true=>
   have e':z2l (Q6 n st) kp p=true:=e;rw[if_pos rfl,e'];have hP:(Q6 n st).P p=true:=by rw[Bool.and_eq_true] at e;exact e.1
   obtain⟨b,hb⟩:=z0w st p hP;have hRo:=z5y hI p b hP hb;obtain⟨rfl,hh⟩:=z4x hb;obtain⟨h1,h2,h3⟩:=hI.objs p hh;rw[hb]
   show (if 32<(st.O p).2.1 then gvS (V5 n (Q6 n st) kp p).S n ((p / 64:Nat):Int) else (V5 n (Q6 n st) kp p).S) q=_
   by_cases hz:32<(st.O p).2.1
   ·rw[if_pos hz];rcases h3 with ⟨h3,_⟩ | ⟨_,h4,h5⟩
    ·omega
    have lU:Y8 (st.O p).2.1=(((st.O p).2.1+63) / 64).toNat*64:=by unfold Y8;rw[if_pos hz]
    have hng:z2d (Q6 n st) kp p (p / 64)=false:=by
     cases eg:z2d (Q6 n st) kp p (p / 64) with
     | false=>rfl
     | true=>
      obtain⟨a,b,g1,g2,g3,g4,g5,g6⟩:=goneP_iff.1 eg;have gP:(Q6 n st).P a=true:=by unfold z2l at g2;rw[Bool.and_eq_true] at g2;exact g2.1
      have:=(z5y hI a b gP g3).2.2.2 p g1 hP;have hr:Y8 b.2.1=((b.2.1+63) / 64).toNat*64:=by unfold Y8;rw[if_pos g4]
      obtain⟨rfl,gh⟩:=z4x g3;obtain⟨_,_,i3⟩:=hI.objs a gh;rcases i3 with ⟨i3,_⟩ | ⟨_,i4,_⟩
      ·omega
      ·omega
    have hS:(V5 n (Q6 n st) kp p).S (p / 64)=(2,0,((st.O p).2.1+63) / 64):=by rw[ih,if_neg (by rw[hng];simp),h5]
    unfold gvS z5l;rw[show (((p / 64:Nat):Int)).toNat=p / 64 from by omega,hS];rw[if_pos (by unfold inB;simp;omega)];unfold setF z5n;rw[if_pos rfl];dsimp only;by_cases hq:p / 64<=q/\q<p / 64+(((st.O p).2.1+63) / 64).toNat
    ·rw[if_pos hq,if_pos (by simp[hz,hq])]
    ·rw[if_neg hq,ih];have:decide (32<(st.O p).2.1/\p / 64<=q/\q<p / 64+(((st.O p).2.1+63) / 64).toNat)=false:=by simp only[decide_eq_false_iff_not];exact fun h=>hq h.2
     simp only[this,Bool.and_false,Bool.or_false]
   ·rw[if_neg hz,ih];have:decide (32<(st.O p).2.1/\p / 64<=q/\q<p / 64+(((st.O p).2.1+63) / 64).toNat)=false:=by simp only[decide_eq_false_iff_not];exact fun h=>hz h.1
    simp only[this,Bool.and_false,Bool.or_false]
def z4y (S:Nat->Int × Int × Int) (P:Nat->Bool) (p:Nat):Bool:=(S p).1 == 1 && z7u P (64*p) (64*p+64) == 0
def z7o (S:Nat->Int × Int × Int) (P:Nat->Bool) (c p:Nat):Bool:=(S p).1 == 1 && ((S p).2.1 == (c:Int) && !(z7u P (64*p) (64*p+64) == 0))
def dlS (S:Nat->Int × Int × Int) (P:Nat->Bool) (i:Nat):Nat->Int × Int × Int:=fun p=>if decide (p<i) && z4y S P p then (0,0,0) else S p
def dlF (S:Nat->Int × Int × Int) (P:Nat->Bool) (F:Nat->Nat->Bool) (i:Nat):Nat->Nat->Bool:=fun c j=>F c j || (decide (j / 64<i) && z7o S P c (j / 64) && F6 (c:Int) (j % 64) && !P j)
theorem z4f (p i:Nat):decide (p<i+1)=(decide (p<i) || decide (p=i)):=by
 by_cases h:p<i
 ·simp[h];omega
 ·by_cases e:p=i
  ·simp[e]
  ·simp[h,e];omega
theorem q3k {n:Nat} {q:Raw} (hg:Good n q.S):∀ i,i<=n->dlR n q.S q i={ q with S:=dlS q.S q.P i,F:=dlF q.S q.P q.F i }
 | 0,_=>by
  refine Raw.eq rfl ?_ ?_ rfl rfl rfl rfl
  ·funext p;show q.S p=dlS q.S q.P 0 p;unfold dlS;simp
  ·funext c j;show q.F c j=dlF q.S q.P q.F 0 c j;unfold dlF;simp
 | i+1,hi=>by
  show z8s n q.S (dlR n q.S q i) i=_
  rw[q3k hg i (by omega)];unfold z8s;dsimp only;have hSi:dlS q.S q.P i i=q.S i:=by unfold dlS;simp
  have hSn:∀ (hb:z4y q.S q.P i=false),dlS q.S q.P (i+1)=dlS q.S q.P i:=fun hb=>by
   funext p
   unfold dlS;rw[z4f];by_cases e:p=i
   ·subst e;simp[hb]
   ·simp[e]
  have hFn:∀ (hb:∀ c,z7o q.S q.P c i=false),dlF q.S q.P q.F (i+1)=dlF q.S q.P q.F i:=fun hb=>by
   funext c j
   unfold dlF;rw[z4f];by_cases e:j / 64=i
   ·rw[e,hb c];simp
   ·simp[e]
  by_cases h1:(q.S i).1=1
  ·rw[if_pos h1];obtain⟨c,hc,hS⟩:∃ c:Nat,c<8/\q.S i=(1,(c:Int),0):=by
    rcases hg.cases (i:=i) (by omega) with e | ⟨c,c1,c2,e⟩ | ⟨k,_,_,_,e⟩ | e
    ·rw[e] at h1;simp at h1
    ·exact⟨c.toNat,by omega,by rw[e];simp;omega⟩
    ·rw[e] at h1;simp at h1
    ·rw[e] at h1;simp at h1
   cases h2:(z7u q.P (64*i) (64*i+64) == 0) with
   | true=>
    rw[if_pos rfl];refine Raw.eq rfl ?_ ?_ rfl rfl rfl rfl
    ·show gvS (dlS q.S q.P i) n (i:Int)=dlS q.S q.P (i+1)
     unfold gvS z5l;rw[show ((i:Int)).toNat=i from by omega,hSi,hS,if_pos (by unfold inB;simp;omega)];funext p
     show (if i<=p/\p<i+z5n (1,(c:Int),0) then (0,0,0) else dlS q.S q.P i p)=_
     rw[show z5n (1,(c:Int),0)=1 from rfl];by_cases e:p=i
     ·subst e;rw[if_pos (by omega)];unfold dlS z4y;rw[hS,h2];simp
     ·rw[if_neg (by omega)];unfold dlS;rw[z4f];simp[e]
    ·show dlF q.S q.P q.F i=dlF q.S q.P q.F (i+1)
     exact(hFn fun c=>by unfold z7o;rw[h2];simp).symm
   | false=>
    rw[if_neg (by simp)];refine Raw.eq rfl ?_ ?_ rfl rfl rfl rfl
    ·show dlS q.S q.P i=dlS q.S q.P (i+1)
     exact(hSn (by unfold z4y;rw[h2];simp)).symm
    ·show (fun d=>if d=(q.S i).2.1.toNat then fuR { q with S:=dlS q.S q.P i,F:=dlF q.S q.P q.F i } (q.S i).2.1.toNat i else dlF q.S q.P q.F i d)=dlF q.S q.P q.F (i+1)
     rw[hS];funext d j
     show (if d=((c:Int)).toNat then fuR { q with S:=dlS q.S q.P i,F:=dlF q.S q.P q.F i } ((c:Int)).toNat i else dlF q.S q.P q.F i d) j=dlF q.S q.P q.F (i+1) d j
     rw[show ((c:Int)).toNat=c from by omega];by_cases e:d=c
     ·subst e;rw[if_pos rfl]
      show (dlF q.S q.P q.F i d j || (decide (j / 64=i) && F6 (d:Int) (j % 64) && !q.P j))=_
      unfold dlF;rw[z4f];by_cases ej:j / 64=i
      ·have hf:z7o q.S q.P d i=true:=by unfold z7o;rw[hS,h2];simp
       rw[ej,hf];simp
      ·simp[ej]
     ·rw[if_neg e];unfold dlF;rw[z4f];by_cases ej:j / 64=i
      ·have hf:z7o q.S q.P d i=false:=by unfold z7o;rw[hS];simp;omega
       rw[ej,hf];simp
      ·simp[ej]
  ·rw[if_neg h1];refine Raw.eq rfl ?_ ?_ rfl rfl rfl rfl
   ·exact(hSn (by unfold z4y;simp[h1])).symm
   ·exact(hFn fun c=>by unfold z7o;simp[h1]).symm
def q0q (n:Nat) (st:Sp):Nat->Sp
 | 0=>st
 | c+1=>{ q0q n st c with W:=z5p n (Q6 n (q0q n st c)) c }
theorem x2c (n:Nat) (st:Sp):∀ c,lnR n (Q6 n st) c=Q6 n (q0q n st c)
 | 0=>rfl
 | c+1=>by
  show { lnR n (Q6 n st) c with W:=z5p n (lnR n (Q6 n st) c) c }=Q6 n { q0q n st c with W:=z5p n (Q6 n (q0q n st c)) c }
  rw[x2c n st c];rfl
theorem z7x (n:Nat) (st:Sp):∀ c,(q0q n st c).S=st.S/\(q0q n st c).O=st.O/\(q0q n st c).last=st.last
 | 0=>⟨rfl,rfl,rfl⟩
 | c+1=>z7x n st c
def kpO (st:Sp) (kp:Nat->Bool):Nat->Blk:=fun a=>if kp a then st.O a else noB
def z7p (n:Nat) (st:Sp) (kp:Nat->Bool):Nat->Int × Int × Int:=fun q=>if z2d (Q6 n st) kp (64*n) q=true then (0,0,0) else st.S q
theorem j4u:Y6 noB=false:=rfl
theorem z4e (st:Sp) (kp:Nat->Bool) (a:Nat):Y6 (kpO st kp a)=(Y6 (st.O a) && kp a):=by
 unfold kpO;cases kp a with
 | true=>simp
 | false=>simp[j4u]
theorem kp_P {n:Nat} {st:Sp} {kp:Nat->Bool}:(V5 n (Q6 n st) kp (64*n)).P=ob n { st with O:=kpO st kp }:=by
 funext a
 rw[(G7 (n:=n) (kp:=kp) (z0w st) (64*n) a).1]
 show (ob n st a && _)=(decide (a<64*n) && Y6 (kpO st kp a))
 rw[z4e];unfold ob;by_cases h:a<64*n
 ·simp[h]
 ·simp[h]
theorem kp_M {n:Nat} {st:Sp} {kp:Nat->Bool} (hI:Inv n st):(V5 n (Q6 n st) kp (64*n)).M=obM { st with O:=kpO st kp }:=by
 funext i
 rw[x1u (n:=n) (kp:=kp) (z0w st)]
 show (if _ then none else obM st i)=(if 0<=i/\Y6 (kpO st kp i.toNat)=true then some (kpO st kp i.toNat) else none)
 unfold z2l;rw[z4e]
 show (if 0<=i/\i.toNat<64*n/\(ob n st i.toNat && !kp i.toNat)=true then none else obM st i)=_
 unfold ob obM;by_cases h0:0<=i
 ·cases hh:Y6 (st.O i.toNat) with
  | false=>simp[h0,hh]
  | true=>
   have dD:=(hI.objs _ hh).1;cases hk:kp i.toNat with
   | true=>simp[h0,hh,hk,kpO]
   | false=>simp[h0,hh,hk,dD]
 ·simp[h0]
theorem z5z {n:Nat} {st:Sp} {x:Int} {a:Nat} (hx:1<=x) (h:q4z n st x=some a):a<64*n/\Y6 (st.O a)=true/\(st.O a).2.2.1=x:=by
 unfold q4z at h;rw[if_pos hx] at h;have h1:=List.find?_some h;have h2:=List.mem_of_find?_eq_some h;rw[List.mem_range] at h2;rw[Bool.and_eq_true] at h1;exact⟨h2,h1.1,by simpa using h1.2⟩
theorem q5a {n:Nat} {st:Sp} {x:Int} (hx:1<=x) (h:q4z n st x=none):∀ a,a<64*n->Y6 (st.O a)=true->(st.O a).2.2.1 ≠ x:=by
 intro a ha hh he;unfold q4z at h;rw[if_pos hx,List.find?_eq_none] at h;have:=h a (by rw[List.mem_range];exact ha);rw[hh,he] at this;simp at this
theorem kp_R {n:Nat} {st:Sp} {kp:Nat->Bool} (hI:Inv n st):(V5 n (Q6 n st) kp (64*n)).R=q5b n { st with O:=kpO st kp }:=by
 funext x
 rw[x1v (n:=n) (kp:=kp) (z0w st)]
 show (if q3q (Q6 n st) kp (64*n) x=true then none else q5b n st x)=q5b n { st with O:=kpO st kp } x
 unfold q5b;by_cases hx:1<=x
 ·have hgone:q3q (Q6 n st) kp (64*n) x=true ↔ ∃ a,a<64*n/\Y6 (st.O a)=true/\kp a=false/\(st.O a).2.2.1=x:=by
   unfold q3q;rw[List.any_eq_true];constructor
   ·rintro⟨a,ha,h⟩;rw[List.mem_range] at ha;rw[Bool.and_eq_true] at h;have hg:(ob n st a && !kp a)=true:=h.1;cases e:(Q6 n st).M (a:Int) with
    | none=>rw[e] at h;exact absurd h.2 (by simp)
    | some b=>
     rw[e] at h;obtain⟨rfl,hh⟩:=z4x e;refine⟨a,ha,hh,?_,by simpa using h.2⟩;rw[Bool.and_eq_true] at hg;simpa using hg.2
   ·rintro⟨a,ha,hh,hk,hs⟩;refine⟨a,by rw[List.mem_range];exact ha,?_⟩;have hP:(Q6 n st).P a=true:=by show ob n st a=true;unfold ob;simp[ha,hh]
    obtain⟨b,hb⟩:=z0w st a hP;obtain⟨rfl,_⟩:=z4x hb;rw[hb];unfold z2l;rw[hP,hk];simp[hs]
  cases h1:q4z n st x with
  | none=>
   have hn:=q5a hx h1;rw[if_neg (fun h=>by obtain⟨a,a1,a2,_,a3⟩:=hgone.1 h;exact hn a a1 a2 a3)];cases h2:q4z n { st with O:=kpO st kp } x with
   | none=>rfl
   | some a=>
    obtain⟨a1,a2,a3⟩:=z5z hx h2;have a2':Y6 (kpO st kp a)=true:=a2;have a3':(kpO st kp a).2.2.1=x:=a3;rw[z4e,Bool.and_eq_true] at a2';unfold kpO at a3';rw[if_pos a2'.2] at a3';exact absurd a3' (hn a a1 a2'.1)
  | some a=>
   obtain⟨a1,a2,a3⟩:=z5z hx h1;cases hk:kp a with
   | true=>
    rw[if_neg ?_]
    ·cases h2:q4z n { st with O:=kpO st kp } x with
     | none=>
      have:=q5a hx h2 a a1 (by show Y6 (kpO st kp a)=true;rw[z4e,a2,hk];rfl);exact absurd (show (kpO st kp a).2.2.1=x by unfold kpO;rw[if_pos hk];exact a3) this
     | some a'=>
      obtain⟨b1,b2,b3⟩:=z5z hx h2;have b2':Y6 (kpO st kp a')=true:=b2;have b3':(kpO st kp a').2.2.1=x:=b3;rw[z4e,Bool.and_eq_true] at b2';unfold kpO at b3';rw[if_pos b2'.2] at b3';have:a=a':=hI.one a a' a2 b2'.1 (by omega) (by omega);subst this;rfl
    ·intro h;obtain⟨a',c1,c2,c3,c4⟩:=hgone.1 h;have:a=a':=hI.one a a' a2 c2 (by omega) (by omega);subst this;rw[hk] at c3;cases c3
   | false=>
    rw[if_pos (hgone.2 ⟨a,a1,a2,hk,a3⟩)];cases h2:q4z n { st with O:=kpO st kp } x with
    | none=>rfl
    | some a'=>
     obtain⟨b1,b2,b3⟩:=z5z hx h2;have b2':Y6 (kpO st kp a')=true:=b2;have b3':(kpO st kp a').2.2.1=x:=b3;rw[z4e,Bool.and_eq_true] at b2';unfold kpO at b3';rw[if_pos b2'.2] at b3';have:a=a':=hI.one a a' a2 b2'.1 (by omega) (by omega);subst this;rw[hk] at b2';cases b2'.2
 ·have e1:q4z n st x=none:=by unfold q4z;rw[if_neg hx]
  have e2:q4z n { st with O:=kpO st kp } x=none:=by unfold q4z;rw[if_neg hx]
  rw[e1,e2];simp
theorem q3r {n:Nat} {st:Sp} {kp:Nat->Bool} (hI:Inv n st) {q:Nat} (h:z2d (Q6 n st) kp (64*n) q=true):∃ p k:Nat,p<n/\st.S p=(2,0,(k:Int))/\p<=q/\q<p+k/\∀ j,p<=j->j<p+k->z2d (Q6 n st) kp (64*n) j=true:=by
 obtain⟨a,b,g1,g2,g3,g4,g5,g6⟩:=goneP_iff.1 h;obtain⟨rfl,gh⟩:=z4x g3;obtain⟨_,_,i3⟩:=hI.objs a gh;rcases i3 with ⟨i3,_⟩ | ⟨_,i4,i5⟩
 ·omega
 ·refine⟨a / 64,(((st.O a).2.1+63) / 64).toNat,by omega,by rw[i5];simp;omega,g5,g6,fun j j1 j2=>goneP_iff.2 ⟨a,_,g1,g2,g3,g4,j1,j2⟩⟩
theorem j4t {n:Nat} {st:Sp} {kp:Nat->Bool} (hI:Inv n st):Good n (z7p n st kp):=by
 intro i hi;unfold PgOk z7p;cases hg:z2d (Q6 n st) kp (64*n) i with
 | true=>exact .inl (by rw[if_pos rfl])
 | false=>
  simp only[Bool.false_eq_true,if_false];rcases hI.good i hi with e | ⟨c,c1,c2,e⟩ | ⟨k,k1,k2,k3,e,k4⟩ | ⟨e,h,k,h1,h2,h3⟩
  ·exact .inl e
  ·exact .inr (.inl ⟨c,c1,c2,e⟩)
  ·refine .inr (.inr (.inl ⟨k,k1,k2,k3,e,fun j j1 j2=>?_⟩));cases hj:z2d (Q6 n st) kp (64*n) j with
   | false=>rw[if_neg (by simp)];exact k4 j j1 j2
   | true=>
    obtain⟨p,m,p1,p2,p3,p4,p5⟩:=q3r hI hj;by_cases ep:p<=i
    ·have:=p5 i ep (by omega);rw[hg] at this;cases this
    ·have:=k4 p (by omega) (by omega);rw[p2] at this;simp at this
  ·refine .inr (.inr (.inr ⟨e,h,k,h1,h2,?_⟩));cases hj:z2d (Q6 n st) kp (64*n) h with
   | false=>rw[if_neg (by simp)];exact h3
   | true=>
    obtain⟨p,m,p1,p2,p3,p4,p5⟩:=q3r hI hj;by_cases ep:p=h
    ·subst ep;rw[h3] at p2;have:k=m:=by simp at p2;omega
     subst this;have:=p5 i (by omega) (by omega);rw[hg] at this;cases this
    ·rcases hI.good p p1 with e2 | ⟨c,_,_,e2⟩ | ⟨k',_,_,_,e2,q4⟩ | ⟨e2,_⟩
     ·rw[p2] at e2;simp at e2
     ·rw[p2] at e2;simp at e2
     ·rw[p2] at e2;have:m=k':=by simp at e2;omega
      subst this;have:=q4 h (by omega) p4;rw[h3] at this;simp at this
     ·rw[p2] at e2;simp at e2
def q7b (n:Nat) (st:Sp) (kp:Nat->Bool):Sp:=
 { W:=wpW (V5 n (Q6 n st) kp (64*n)) (64*n),S:=dlS (z7p n st kp) (ob n { st with O:=kpO st kp }) n,O:=kpO st kp,last:=st.last }
def z0m (n:Nat) (st:Sp) (l:List Int):Sp:=q0q n (q7b n st (kpS l)) 8
theorem q6t {n:Nat} {r:Raw} {kp:Nat->Bool} (hT:q1g r):∀ p,(V5 n r kp p).F=r.F/\(V5 n r kp p).last=r.last
 | 0=>⟨rfl,rfl⟩
 | p+1=>by
  have ih:=q6t (n:=n) (kp:=kp) hT p;rw[z3a];cases e:(r.P p && !kp p) with
  | false=>rw[if_neg (by simp)];exact ih
  | true=>
   rw[if_pos rfl];obtain⟨b,hb⟩:=hT p (by rw[Bool.and_eq_true] at e;exact e.1);rw[hb];exact ih
theorem j9o {n:Nat} {st:Sp} {l:List Int} (hI:Inv n st):x3w n (Q6 n st) l=Q6 n (z0m n st l):=by
 unfold x3w x3b z0m;rw[<-x2c];congr 1
 obtain⟨q,hq⟩:∃ q,V5 n (Q6 n st) (kpS l) (64*n)=q:=⟨_,rfl⟩
 have hS:q.S=z7p n st (kpS l):=by rw[<-hq];funext p;exact x1w hI (64*n) p
 have hP:q.P=ob n { st with O:=kpO st (kpS l) }:=by rw[<-hq];exact kp_P
 have hM:q.M=obM { st with O:=kpO st (kpS l) }:=by rw[<-hq];exact kp_M hI
 have hR:q.R=q5b n { st with O:=kpO st (kpS l) }:=by rw[<-hq];exact kp_R hI
 have hF:q.F=(Q6 n st).F:=by rw[<-hq];exact(q6t (z0w st) _).1
 have hL:q.last=st.last:=by rw[<-hq];exact(q6t (z0w st) _).2
 have hg:Good n q.S:=by rw[hS];exact j4t hI
 rw[hq];have kT:=q3k (n:=n) (q:=rsF { q with W:=wpW q (64*n) } 8) hg n (Nat.le_refl _);refine kT.trans (Raw.eq ?_ ?_ ?_ ?_ ?_ ?_ ?_)
 ·show wpW q (64*n)=wpW (V5 n (Q6 n st) (kpS l) (64*n)) (64*n)
  rw[hq]
 ·show dlS q.S q.P n=dlS (z7p n st (kpS l)) (ob n { st with O:=kpO st (kpS l) }) n
  rw[hS,hP]
 ·funext c j
  show dlF q.S q.P (fun d=>if d<8 then (fun _=>false) else q.F d) n c j=fr n (q7b n st (kpS l)) (c:Int) j
  have hF0:(if c<8 then (fun _=>false) else q.F c) j=false:=by
   by_cases hc:c<8
   ·rw[if_pos hc]
   ·rw[if_neg hc,hF]
    show fr n st (c:Int) j=false
    unfold fr;by_cases hj:j<64*n
    ·have:(st.S (j / 64) == (1,(c:Int),0))=false:=by
      rcases hI.good.cases (i:=j / 64) (by omega) with e | ⟨d,d1,d2,e⟩ | ⟨k,_,_,_,e⟩ | e <;> rw[e] <;> simp
      omega
     rw[this];simp
    ·simp[hj]
  unfold dlF fr
  show ((if c<8 then (fun _=>false) else q.F c) j || (decide (j / 64<n) && z7o q.S q.P c (j / 64) && F6 (c:Int) (j % 64) && !q.P j))=_
  rw[hF0,Bool.false_or]
  show (decide (j / 64<n) && z7o q.S q.P c (j / 64) && F6 (c:Int) (j % 64) && !q.P j)=(decide (j<64*n) && (dlS (z7p n st (kpS l)) (ob n { st with O:=kpO st (kpS l) }) n (j / 64) == (1,(c:Int),0)) && F6 (c:Int) (j % 64) && !Y6 (kpO st (kpS l) j))
  rw[<-hS,<-hP];by_cases hj:j<64*n
  ·have hPj:q.P j=Y6 (kpO st (kpS l) j):=by rw[hP];show (decide (j<64*n) && Y6 (kpO st (kpS l) j))=_;simp[hj]
   rw[hPj];have:z7o q.S q.P c (j / 64)=(dlS q.S q.P n (j / 64) == (1,(c:Int),0)):=by
    unfold z7o dlS z4y;have lC:j / 64<n:=by omega
    rcases hg.cases (i:=j / 64) lC with e | ⟨d,d1,d2,e⟩ | ⟨k,_,_,_,e⟩ | e
    ·rw[e];simp
    ·rw[e];cases hcn:(z7u q.P (64*(j / 64)) (64*(j / 64)+64) == 0) with
     | true=>simp[lC]
     | false=>
      simp[lC];rw[Bool.eq_iff_iff];simp
    ·rw[e];simp
    ·rw[e];simp
   rw[this];simp[hj,show j / 64<n from by omega]
  ·simp[hj,show ¬ j / 64<n from by omega]
 ·exact hP
 ·exact hM
 ·exact hR
 ·exact hL
theorem j3t {S:Nat->Bool} {a:Nat} (hS:S a=true) (b:Nat) (h:a<b):cnt S b ≠ 0:=fun h0=>by
 have:=j8m h0 a h;rw[hS] at this;cases this
theorem z5j {S:Nat->Int × Int × Int} {P:Nat->Bool} {m p:Nat} (h:(S p).1 ≠ 1):dlS S P m p=S p:=by
 unfold dlS z4y;simp[h]
theorem j9h {n m:Nat} {S:Nat->Int × Int × Int} {P:Nat->Bool} (hg:Good n S):Good n (dlS S P m):=by
 intro i hi;unfold PgOk;rcases hg i hi with e | ⟨c,c1,c2,e⟩ | ⟨k,k1,k2,k3,e,k4⟩ | ⟨e,h,k,h1,h2,h3⟩
 ·exact .inl (by rw[z5j (by rw[e];simp),e])
 ·unfold dlS;cases hb:(decide (i<m) && z4y S P i) with
  | true=>exact .inl (by simp)
  | false=>exact .inr (.inl ⟨c,c1,c2,by simp[e]⟩)
 ·refine .inr (.inr (.inl ⟨k,k1,k2,k3,by rw[z5j (by rw[e];simp),e],fun j j1 j2=>?_⟩));have:=k4 j j1 j2;rw[z5j (by rw[this];simp),this]
 ·exact .inr (.inr (.inr ⟨by rw[z5j (by rw[e];simp),e],h,k,h1,h2,by rw[z5j (by rw[h3];simp),h3]⟩))
theorem q9l {n:Nat} {st:Sp} {l:List Int} (hI:Inv n st):Inv n (z0m n st l):=by
 obtain⟨kp,hkp⟩:∃ kp,kpS l=kp:=⟨_,rfl⟩
 obtain⟨e1,e2,e3⟩:=z7x n (q7b n st (kpS l)) 8;have hS:(z0m n st l).S=dlS (z7p n st kp) (ob n { st with O:=kpO st kp }) n:=by rw[<-hkp];exact e1
 have hO:(z0m n st l).O=kpO st kp:=by rw[<-hkp];exact e2
 have hL:(z0m n st l).last=st.last:=e3;have hg:=j4t (kp:=kp) hI;have hk:∀ a,Y6 (kpO st kp a)=true->Y6 (st.O a)=true/\kp a=true/\kpO st kp a=st.O a:=fun a h=>by
  rw[z4e,Bool.and_eq_true] at h;exact⟨h.1,h.2,by unfold kpO;rw[if_pos h.2]⟩
 -- the page of a kept object is as it was
 have hpg:∀ a,Y6 (kpO st kp a)=true->a<64*n->dlS (z7p n st kp) (ob n { st with O:=kpO st kp }) n (a / 64)=st.S (a / 64):=fun a h ha=>by
  obtain⟨h1,h2,h3⟩:=hk a h;have hng:z2d (Q6 n st) kp (64*n) (a / 64)=false:=by
   cases eg:z2d (Q6 n st) kp (64*n) (a / 64) with
   | false=>rfl
   | true=>
    obtain⟨a',b,g1,g2,g3,g4,g5,g6⟩:=goneP_iff.1 eg;obtain⟨rfl,gh⟩:=z4x g3;have gk:kp a'=false:=by unfold z2l at g2;rw[Bool.and_eq_true] at g2;simpa using g2.2
    have gP:(Q6 n st).P a'=true:=by unfold z2l at g2;rw[Bool.and_eq_true] at g2;exact g2.1
    have aP:(Q6 n st).P a=true:=by show ob n st a=true;unfold ob;simp[ha,h1]
    obtain⟨_,_,i3⟩:=hI.objs a' gh;rcases i3 with ⟨i3,_⟩ | ⟨_,i4,i5⟩
    ·omega
    have hr:Y8 (st.O a').2.1=(((st.O a').2.1+63) / 64).toNat*64:=by unfold Y8;rw[if_pos g4]
    by_cases dD:a'<a
    ·have:=(z5y hI a' _ gP g3).2.2.2 a dD aP;omega
    ·by_cases he:a'=a
     ·subst he;rw[h2] at gk;cases gk
     ·omega
  unfold dlS z7p;rw[hng];have hc:z7u (ob n { st with O:=kpO st kp }) (64*(a / 64)) (64*(a / 64)+64) ≠ 0:=by
   unfold z7u;refine j3t (a:=a) ?_ _ (by omega)
   show (decide (64*(a / 64)<=a) && (decide (a<64*n) && Y6 (kpO st kp a)))=true
   rw[h];simp;omega
  have hb:z4y (fun q=>if z2d (Q6 n st) kp (64*n) q=true then (0,0,0) else st.S q) (ob n { st with O:=kpO st kp }) (a / 64)=false:=by
   unfold z4y;simp[hc]
  rw[hb];simp
 refine⟨hI.n1,hI.n2,?_,?_,?_,?_,?_,?_,?_⟩
 ·rw[hS];exact j9h hg
 ·rw[hO,hS];intro a h;obtain⟨h1,h2,h3⟩:=hk a h;have ho:=hI.objs a h1;rw[h3];refine⟨ho.1,ho.2.1,?_⟩;rw[hpg a h ho.1];exact ho.2.2
 ·rw[hO];intro a h;unfold kpO at *;cases hka:kp a with
  | true=>rw[hka] at h;exact hI.none a h
  | false=>rfl
 ·rw[hO,hS];intro p hp h;have h2:(z7p n st kp p).1=2:=by
   unfold dlS at h;cases hb:(decide (p<n) && z4y (z7p n st kp) (ob n { st with O:=kpO st kp }) p) with
   | true=>rw[hb] at h;simp at h
   | false=>rw[hb] at h;simpa using h
  cases hgp:z2d (Q6 n st) kp (64*n) p with
  | true=>unfold z7p at h2;rw[hgp] at h2;simp at h2
  | false=>
   have h3:(st.S p).1=2:=by unfold z7p at h2;rw[hgp] at h2;simpa using h2
   have hh:=hI.heads p hp h3;rw[z4e,hh];cases hka:kp (64*p) with
   | true=>rfl
   | false=>
    exfalso
    have hP:(Q6 n st).P (64*p)=true:=by show ob n st (64*p)=true;unfold ob;simp[hh];omega
    obtain⟨b,hb⟩:=z0w st (64*p) hP;obtain⟨rfl,_⟩:=z4x hb;obtain⟨_,_,i3⟩:=hI.objs (64*p) hh;rw[show 64*p / 64=p from by omega] at i3;rcases i3 with ⟨_,i4,_⟩ | ⟨i4,_,i5⟩
    ·rw[i4] at h3;simp at h3
    ·have:=(goneP_iff (r:=Q6 n st) (kp:=kp) (p:=64*n) (q:=p)).2 ⟨64*p,_,(by omega:64*p<64*n),(by unfold z2l;rw[hP,hka];rfl),hb,i4,(by omega:64*p / 64<=p),(by omega:p<64*p / 64+(((st.O (64*p)).2.1+63) / 64).toNat)⟩;rw[hgp] at this;cases this
 ·rw[hL];exact hI.last0
 ·rw[hO,hL];intro a h;obtain⟨h1,h2,h3⟩:=hk a h;rw[h3];exact hI.ser a h1
 ·rw[hO];intro a b ha hb;obtain⟨h1,h2,h3⟩:=hk a ha;obtain⟨g1,g2,g3⟩:=hk b hb;rw[h3,g3];exact hI.one a b h1 g1
theorem q0y {w:World} {lo hi n cap:Nat} {s:Nat->Nat} {st:Sp} (h:SpAt w lo hi s n cap st) {l:List Int} {p:Option Addr} {cp:Nat} (hl:q0c w p l) (hll:(l.length:Int)<9223372036854775807) :
  Calls Tryz.prog 81 #[.pointer (some ⟨s 14,0,none⟩),.slice p l.length cp] w fun e w'=>Out lo hi w w' ∧
   (((∀ a ∈ l,(obM st a).isSome=true)/\e=.returned (.tuple #[.int .i64 ((U0 (Q6 n st) (kpS l) (64*n):Nat):Int),.int .i64 0])/\SpAt w' lo hi s n cap (z0m n st l)) ∨
    ((∃ a ∈ l,obM st a=none)/\e=.returned (.tuple #[.int .i64 0,.int .i64 22])/\SpAt w' lo hi s n cap st)):=by
 refine(j9m h.1 (z0w st) (z5y h.2) (j5k h.2) hl hll).mono ?_;rintro e w' ⟨o,⟨h1,h2,h3⟩ | ⟨h1,h2,h3⟩⟩
 ·exact⟨o,.inl ⟨h1,h2,by rw[j9o h.2] at h3;exact h3,q9l h.2⟩⟩
 ·exact⟨o,.inr ⟨h1,h2,h3,h.2⟩⟩
theorem q0x {z:Int} (h:z<=32):Y8 z=wN (ofV z):=by unfold Y8;rw[if_neg (by omega)]
theorem q0w {z:Int} (h:32<z):Y8 z=((z+63) / 64).toNat*64:=by unfold Y8;rw[if_pos h]
section
variable {n a:Nat} {st:Sp} {aR:Bool} {kd z t:Int}
theorem j6g:H8 st.O a (kd,z,Y0 st kd,t) a=(kd,z,Y0 st kd,t):=by unfold H8;rw[if_pos rfl]
end
theorem z4s {n:Nat} {W:Nat->Int} {p v:Int} {i:Nat} (h:(i:Int) ≠ p):F3 n W p v i=W i:=by
 unfold F3 z2p;split
 ·rename_i hb
  obtain⟨k,rfl,_,_⟩:=z6n hb
  show (if i=((k:Nat):Int).toNat then v else W i)=W i
  rw[if_neg (by omega)]
 ·rfl
theorem q2k {n i:Nat} {W:Nat->Int} {v:Int} (h:i<64*n):F3 n W (i:Int) v i=v:=by
 unfold F3 z2p inB;rw[if_pos (by simp;omega)]
 show (if i=((i:Nat):Int).toNat then v else W i)=v
 rw[if_pos (by omega)]
theorem x4u {z:Int} (h1:1<=z) (h2:z<=1024):z<=(Y8 z:Int):=by
 by_cases h:32<z
 ·rw[q0w h];omega
 ·rw[q0x (by omega)];unfold wN ofV;repeat' split
  all_goals first | omega | (unfold W8;simp;omega)
theorem x2k {n a:Nat} {st:Sp} (ha:Y6 (st.O a)=true):(Q6 n st).M (a:Int)=some (st.O a):=by
 show obM st (a:Int)=_
 unfold obM;rw[show ((a:Int)).toNat=a from by omega,if_pos ⟨by omega,ha⟩]
theorem z1x {T:TypeId} {z:Value} {a b:Nat} (h:(Tryz.prog.info? T).map (fun i=>(i.zero,i.size,i.bytes))=some (some z,a,b)):∃ i,Tryz.prog.info? T=some i/\i.zero=some z/\i.size=a/\i.bytes=b:=by
 cases hi:Tryz.prog.info? T with
 | none=>rw[hi] at h;cases h
 | some i=>rw[hi] at h;simp at h;exact⟨i,rfl,h.1,h.2.1,h.2.2⟩
def pkU:List Int->Int
 | []=>0
 | b :: bs=>b+256*pkU bs
def Byt (bs:List Int):Prop:=∀ b ∈ bs,0<=b/\b<=255
theorem x0k (bs:List Int) (b:Int):pkU (bs ++ [b])=pkU bs+256 ^ bs.length*b:=by
 induction bs with
 | nil=>simp[pkU]
 | cons c cs ih=>
  show c+256*pkU (cs ++ [b])=c+256*pkU cs+256 ^ (cs.length+1)*b
  rw[ih,Int.pow_succ,Int.mul_add,Int.mul_comm (256 ^ cs.length) 256,Int.mul_assoc];omega
theorem x7i {bs:List Int} (h:Byt bs):0<=pkU bs/\pkU bs<256 ^ bs.length:=by
 induction bs with
 | nil=>simp[pkU]
 | cons c cs ih=>
  have h1:=h c (by simp);have h2:=ih fun b hb=>h b (by simp[hb])
  show 0<=c+256*pkU cs/\c+256*pkU cs<256 ^ (cs.length+1)
  rw[Int.pow_succ];omega
theorem or_u (c t:Int) (k:Nat) (h1:0<=c) (h2:c*2 ^ k+t<18446744073709551616) (t1:0<=t) (t2:t<2 ^ k):bits .or .u64 t (c*2 ^ k)=t+c*2 ^ k:=by
 have hp:(0:Int)<2 ^ k:=Int.pow_pos (by decide);have hc:0<=c*2 ^ k:=Int.mul_nonneg h1 (Int.le_of_lt hp);have e:bits .or .u64 t (c*2 ^ k)=IntKind.wrap .u64 ((BitVec.ofInt 64 t ||| BitVec.ofInt 64 (c*2 ^ k)).toNat:Nat):=rfl;have e1:(c*2 ^ k % 18446744073709551616).toNat=2 ^ k*c.toNat:=by
  rw[Int.emod_eq_of_lt hc (by omega),Int.toNat_mul h1 (Int.le_of_lt hp),Nat.mul_comm];congr 1
 have e2:(t % 18446744073709551616).toNat=t.toNat:=by omega
 have e3:t.toNat<2 ^ k:=by
  have:((2 ^ k:Nat):Int)=(2:Int) ^ k:=by simp
  omega
 have h:(BitVec.ofInt 64 t ||| BitVec.ofInt 64 (c*2 ^ k)).toNat=2 ^ k*c.toNat+t.toNat:=by
  rw[BitVec.or_comm,BitVec.toNat_or,z1i,z1i,e1,e2,Nat.two_pow_add_eq_or_of_lt e3]
 have e4:((2 ^ k*c.toNat+t.toNat:Nat):Int)=c*2 ^ k+t:=by
  rw[Int.natCast_add,Int.natCast_mul,Int.toNat_of_nonneg h1,Int.toNat_of_nonneg t1,Int.natCast_pow,Int.mul_comm];simp
 rw[e,h,e4];generalize c*2 ^ k=z at *
 simp[IntKind.wrap,IntKind.signed,IntKind.bits];omega
theorem x2j (i:Nat):(256:Int) ^ i=2 ^ (8*i):=by
 rw[Int.pow_mul];rfl
theorem j6f {i:Nat} (h:i<8):(2:Int) ^ (8*i)<=72057594037927936:=by
 have:i=0\/i=1\/i=2\/i=3\/i=4\/i=5\/i=6\/i=7:=by omega
 rcases this with rfl | rfl | rfl | rfl | rfl | rfl | rfl | rfl <;> decide
theorem j5z {bs:List Int} {i:Nat} {b:Int} (h:Byt bs) (hb:bs[i]? = some b) (h8:i<8):bits .or .u64 (pkU (bs.take i)) (IntKind.u64.wrap (b*2 ^ (8*i)))=pkU (bs.take (i+1)):=by
 have hi:=(List.getElem?_eq_some_iff.1 hb).1;have hbb:=h b (List.mem_of_getElem? hb);have hl:=x7i (bs:=bs.take i) fun c hc=>h c (List.mem_of_mem_take hc)
 have bZ:(bs.take i).length=i:=by rw[List.length_take];omega
 rw[bZ,x2j] at hl;have hp:=j6f h8;have hp0:(0:Int)<2 ^ (8*i):=Int.pow_pos (by decide);have hm:b*2 ^ (8*i)<=255*72057594037927936:=Int.le_trans (Int.mul_le_mul_of_nonneg_right hbb.2 (Int.le_of_lt hp0)) (Int.mul_le_mul_of_nonneg_left hp (by decide));have hm0:0<=b*2 ^ (8*i):=Int.mul_nonneg hbb.1 (Int.le_of_lt hp0);have hw:IntKind.u64.wrap (b*2 ^ (8*i))=b*2 ^ (8*i):=by
  generalize b*2 ^ (8*i)=z at *
  simp[IntKind.wrap,IntKind.signed,IntKind.bits];omega
 rw[hw,or_u b _ (8*i) hbb.1 (by generalize b*2 ^ (8*i)=z at *;omega) hl.1 hl.2];rw[List.take_add_one,hb]
 show _=pkU (bs.take i ++ [b])
 rw[x0k,bZ,x2j,Int.mul_comm b]
def z1m (w:World) (p:Option Addr) (bs:List Int):Prop:=Byt bs/\(bs=[]\/∃ g cK,p=some ⟨g,cK,none⟩/\∀ j b,bs[j]? = some b->w.cell? ⟨g,cK+j,none⟩=some (.int .u8 b))
theorem x0i {w:World} {p:Option Addr} {bs:List Int} {cap:Nat} (h:z1m w p bs) (h8:bs.length<=8) :
  Kz 121 #[.slice p bs.length cap] w fun e w'=>e=.returned (Iz (wrap64 (pkU bs)))/\w'=w:=by
 have HB:=Q3 h;clear h;go_enter Tryz.func121,Tryz.ntmps121
 go_wp2_with fail;go_loopw [3,8] (fun x y wr=>∃ i:Nat,i<=bs.length/\x=.int .u64 (pkU (bs.take i))/\y=Iz i/\wr=w) (fun _ y _=>bs.length-(intOf y).toNat)
 case atStart=>exact⟨0,Nat.zero_le _,by simp[pkU],rfl,rfl⟩
 case round=>
  obtain⟨i,i1,rfl,rfl,rfl⟩:=hrel;have i0:(0:Int)<=(i:Int):=by omega
  by_cases mS:i<bs.length
  ·have g1:(i:Int)<(bs.length:Int):=by omega
   have g8:(i:Int)<8:=by omega
   obtain⟨b,hb⟩:∃ b,bs[i]? = some b:=⟨_,List.getElem?_eq_getElem mS⟩
   have hbb:=HB.out.1 b (List.mem_of_getElem? hb);rcases HB.out.2 with e | ⟨g,cK,rfl,hc⟩
   ·rw[e] at mS;simp at mS
   have c1:=hc i b hb;obtain⟨x,hx⟩:∃ x,pkU (bs.take i)=x:=⟨_,rfl⟩
   rw[hx];clear hc;go_wp2_with fail;rw[<-hx];refine⟨⟨i+1,mS,?_,by go_num,trivial⟩,?_⟩
   ·rw[j5z HB.out.1 hb (by omega)]
   ·simp[intOf];omega
  ·have g1:(bs.length:Int)<=(i:Int):=by omega
   have e:i=bs.length:=by omega
   subst e;go_wp2;go_ret;rw[List.take_length];exact⟨rfl,rfl⟩
def mtC (n:Nat) (a:Int) (W:Nat->Int) (bs:List Int):Nat->Nat->Int
 | 0=>F3 n W (a+1) bs.length
 | j+1=>F3 n (mtC n a W bs j) (a+2+j) (wrap64 (pkU ((bs.drop (8*j)).take 8)))
def mtW (n:Nat) (a:Int) (W:Nat->Int) (bs:List Int):Nat->Int:=mtC n a W bs ((bs.length+7) / 8)
section
variable {w:World} {lo hi hb:Nat} {s:Nat->Nat} {n cap:Nat} {st:Sp}
theorem q5v (h:SpAt w lo hi s n cap st) (hH:cq w hb 0=some (Pq (s 14))) (hout:hb<lo\/hi<=hb) {p:Option Addr} {bs:List Int} {cb:Nat} (hB:z1m w p bs) (hcb:bs.length<=cb) (hpo:∀ g cK,p=some ⟨g,cK,none⟩->g<lo\/hi<=g) (oL:bs.length<=4096) {z a fa:Int} (hz:U5 4 bs.length=true) (hzv:Y9 4 bs.length=z) (z1:-9223372036854775808<=z) (z2:z<=9223372036854775807) (hl:st.last<4611686018427387904) (ha:(alF n st 4 z 0).1=a) (he:(alF n st 4 z 0).2.1=0) (hf:(alF n st 4 z 0).2.2.1=fa) {b1 b2 b3 b4:Int} (hM:(Q6 n (alF n st 4 z 0).2.2.2).M a=some (b1,b2,b3,b4)) :
  Kz 64 #[Pq hb,.slice p bs.length cb] w fun e w'=>e=.returned (.tuple #[Vz 2 a,Vz 0 0])/\SpAt w' lo hi s n cap (z1q (alF n st 4 z 0).2.2.2 (mtW n a (alF n st 4 z 0).2.2.2.W bs))/\Out lo hi w w':=by
 have nI:∀ (fn:Fn) (first cap:Array Value) (w:World),(Instr.makeFunc fn first cap).run Tryz.prog w=.ok (.func fn first cap) w:=fun _ _ _ _=>rfl
 have Hh:=Q3 h;have fR:=Q3 (J0 (w:=w) (o:=Dz 0 0 32) (o2:=Dz 0 0 46));have fF:=Q3 (J4 (w:=w) (o:=Dz 0 0 32) (o2:=Dz 0 0 46));have HO:=Q3 (((Out.refl 0 0 w).alloc (Dz 0 0 32)).alloc (Dz 0 0 46));obtain⟨gv,aN⟩:∃ g,w.heap.size=g:=⟨_,rfl⟩
 have aW:=Q3 aN;obtain⟨V1,eQ⟩:∃ V,(w.alloc (Dz 0 0 32)).alloc (Dz 0 0 46)=V:=⟨_,rfl⟩
 rw[eQ,aN] at fR fF;rw[eQ] at HO;have kP:=HO.out.cell hH z0;have HH1:=Q3 kP;have dX:=Q3 hout;have HBy:=Q3 (And.intro hB hpo);have hli:(bs.length:Int)<=4096:=by omega
 clear h hH hout hB hpo;have HTk:=Q3 (j7j (Hh.out.quiet HO.out) kP dX.out 4 bs.length 0 hz hzv z1 z2 hl ha he hf hM);have Ha:Hid (∀ V,SpAt V lo hi s n cap (alF n st 4 z 0).2.2.2->0<=a/\a+b2<=64*n/\1<=b2/\b2<=1024/\n<=4096):=fun V hV=>by
  have q:=G6 hV.2 a _ hM;exact⟨q.1,q.2.1,q.2.2.1,q.2.2.2,hV.1.n2⟩
 generalize (alF n st 4 z 0).2.2.2=S2 at *
 clear hz hzv z1 z2 hl ha he hf hM kP;go_enter_defers Tryz.func64,Tryz.ntmps64
 go_wp2_with fail;(try rw[eQ]);(try rw[aN]);clear eQ aN;refine(U2 _ _).mono ?_;rintro e w5 ⟨rfl,he⟩;rw[he];clear he w5;go_wp2_with fail;refine HTk.out.mono ?_;rintro e X3 ⟨rfl,S3,q3⟩;replace Ha:=Q3 (Ha.out X3 S3);obtain⟨gb,V4,bD,bV,o4,f4⟩:=alz X3 (Ez a b1 b2 b3 b4 81)
 have bX:Hid (hi<=gb):=by have h1:=S3.1.top;rw[<-bD];exact h1
 have lT:=Q3 f4;have HS4:=Q3 (S3.quiet o4);have HQ1:=Q3 (q3.trans (o4.any lo hi));obtain⟨y0,y1,y2,y3,y4,y5⟩:=K7 f4;have y6:=HQ1.out.cell HH1.out dX.out;have kO:IntKind.i64.wrap (a+1)=a+1:=by have h2:=Ha.out;rw[IntKind.wrap_i64];omega
 clear S3 q3 o4 f4;go_wp2_with fail;(try rw[bV]);(try rw[bD]);clear bV bD;refine wp_region_held_drew (S:=fun w'=>cq w' hb 0=some (Pq (s 14))/\cq w' gb 0=some (Iz a)) (by kernel_rfl) ?hS61 (fun aB=>?rest61)
 case hS61=>exact⟨y6,y0⟩
 obtain⟨Z0,hZ⟩:∃ Z,V4.drew=Z:=⟨_,rfl⟩
 have O:Out 0 0 V4 Z0:=by rw[<-hZ];exact(Out.refl 0 0 _).drew
 rw[hZ] at aB ⊢;clear hZ;refine tq Tryz.results64 0 ?_;refine tq Tryz.results64 1 ?_;refine tq Tryz.results64 2 ?_;refine tq Tryz.results64 3 ?_;refine tq Tryz.results64 4 ?_;refine tq Tryz.results64 5 ?_;refine tq Tryz.results64 6 ?_;refine tq Tryz.results64 7 ?_;refine tq Tryz.results64 8 ?_;refine rd1 9 fun KK hK=>?_
 go_simp;refine(z5d (HS4.out.quiet O) (a+1) (bs.length:Int)).mono ?_;rintro e X6 ⟨rfl,P6,q6⟩;refine hK.out _ _ ⟨q6.cell aB.1 dX.out,q6.cell aB.2 (.inr bX.out)⟩ fun aB=>?_
 clear hK KK;refine dn ?_;have HS6:=Q3 P6;have HQ6:=Q3 ((O.any lo hi).trans q6);clear aB P6 q6 O y0 y1 y2 y3 y4 y5 y6;go_wp2_with fail;go_loopw [7] (fun y wr=>∃ j:Nat,8*j<=bs.length+7/\y=Iz ((8*j:Nat):Int)/\SpAt wr lo hi s n cap (z1q S2 (mtC n a S2.W bs j))/\Out lo hi X6 wr) (fun y _=>bs.length+8-(intOf y).toNat)
 case atStart=>exact⟨0,by omega,rfl,HS6.out,Out.refl _ _ _⟩
 case round=>
  obtain⟨j,j1,rfl,hS,hO⟩:=hrel;have cH:=Q3 (And.intro hS hO);clear hS hO;by_cases hj:8*j<bs.length
  ·have b1':((8*j:Nat):Int)<(bs.length:Int):=by omega
   have b0:(0:Int)<=((8*j:Nat):Int):=by omega
   have hHq:=HQ1.out.trans (HQ6.out.trans cH.out.2);obtain⟨y0,_,_,_,_,_⟩:=K7 ((HQ6.out.trans cH.out.2).heap lT.out (.inr bX.out));have y6:=hHq.cell HH1.out dX.out;rcases HBy.out.1.2 with e | ⟨g,cK,rfl,hc⟩
   ·rw[e] at hj;simp at hj
   have mS:=HBy.out.2 g cK rfl;have hci:(bs.length:Int)<=(cb:Int):=by omega
   obtain⟨i,hi8⟩:∃ i,8*j=i:=⟨_,rfl⟩
   rw[hi8] at b1' b0 ⊢;have bi:(i:Int)<=4096:=by omega
   have Hi8:=Q3 hi8;have hwr2:IntKind.i64.wrap (a+2)=a+2:=by have h2:=Ha.out;rw[IntKind.wrap_i64];omega
   have hwr3:IntKind.i64.wrap (a+2+(j:Int))=a+2+(j:Int):=by have h2:=Ha.out;rw[IntKind.wrap_i64];omega
   have hq8:Int.tdiv (i:Int) 8=(j:Int):=by rw[Int.tdiv_eq_ediv_of_nonneg (by omega)];omega
   have hwj:IntKind.i64.wrap (j:Int)=(j:Int):=by rw[IntKind.wrap_i64];omega
   have HC:Hid (∀ X,Out 0 0 wr X->z1m X (some ⟨g,cK+i,none⟩) ((bs.drop i).take 8)):=fun X o=>by
    refine⟨fun b hb=>HBy.out.1.1 b (List.mem_of_mem_drop (List.mem_of_mem_take hb)),.inr ⟨g,cK+i,rfl,fun k b hk=>?_⟩⟩;have hk':bs[i+k]? = some b:=by
     rw[List.getElem?_take] at hk;split at hk
     ·rwa [List.getElem?_drop] at hk
     ·cases hk
    have h1:=hc (i+k) b hk';rw[<-Nat.add_assoc] at h1;exact o.cell (hHq.cell (HO.out.cell h1 z0) mS) z0
   have bZ:((bs.drop i).take 8).length=min 8 (bs.length-i):=by simp
   obtain⟨L,hL⟩:∃ L,((bs.drop i).take 8).length=L:=⟨_,rfl⟩
   have HPk:Hid (∀ X,Out 0 0 wr X->Kz 121 #[.slice (some ⟨g,cK+i,none⟩) L (cb-i)] X fun e w'=>e=.returned (Iz (wrap64 (pkU ((bs.drop i).take 8))))/\w'=X):=fun X o=>by
    have h:=x0i (cap:=cb-i) (HC.out X o) (by rw[bZ];omega);rw[hL] at h;exact h
   rw[hL] at bZ;clear HC hc hHq hL hi8;by_cases hm:(i:Int)+8<=(bs.length:Int)
   ·have hLa:i+8-i=L:=by omega
    clear bZ;go_wp2_with fail;(try rw[hLa]);clear hLa;refine wp_region_held_drew (S:=fun w'=>cq w' hb 0=some (Pq (s 14))/\cq w' gb 0=some (Iz a)) (by kernel_rfl) ?hS72 (fun aB=>?rest72)
    case hS72=>exact⟨y6,y0⟩
    obtain⟨Z0,hZ⟩:∃ Z,wr.drew=Z:=⟨_,rfl⟩
    have O:Out 0 0 wr Z0:=by rw[<-hZ];exact(Out.refl 0 0 _).drew
    rw[hZ] at aB ⊢;clear hZ;refine tq Tryz.results64 0 ?_;refine tq Tryz.results64 1 ?_;refine tq Tryz.results64 2 ?_;refine tq Tryz.results64 3 ?_;refine tq Tryz.results64 4 ?_;refine tq Tryz.results64 5 ?_;refine tq Tryz.results64 6 ?_;refine tq Tryz.results64 7 ?_;refine tq Tryz.results64 8 ?_;refine tq Tryz.results64 9 ?_;refine tq Tryz.results64 10 ?_;refine rd1 11 fun KK hK=>?_
    go_simp;refine(HPk.out _ O).mono ?_;rintro e X7 ⟨rfl,he⟩;rw[he];clear he X7;refine hK.out _ _ (aB) fun aB=>?_
    clear hK KK;refine rd1 12 fun KK hK=>?_
    go_simp;refine(z5d (cH.out.1.quiet O) _ _).mono ?_;rintro e X9 ⟨rfl,P9,q9⟩;refine hK.out _ _ ⟨q9.cell aB.1 dX.out,q9.cell aB.2 (.inr bX.out)⟩ fun aB=>?_
    clear hK KK;refine dn ?_;have HP9:Hid (SpAt X9 lo hi s n cap (z1q S2 (mtC n a S2.W bs (j+1)))):=by
     have hi8:=Hi8.out;have e:mtC n a S2.W bs (j+1)=F3 n (mtC n a S2.W bs j) (a+2+j) (wrap64 (pkU ((bs.drop i).take 8))):=by rw[<-hi8];rfl
     rw[e];exact P9
    have HQ9:=Q3 ((cH.out.2.trans (O.any lo hi)).trans q9);clear aB P9 q9 O y0 y6;go_wp2_with fail;go_roundw
    case rel=>exact⟨j+1,by have:=Hi8.out;omega,by have:=Hi8.out;rw[show ((8*(j+1):Nat):Int)=(i:Int)+8 from by omega],HP9.out,HQ9.out⟩
    case measure=>have:=Hi8.out;simp[intOf];omega
   ·have hm':(bs.length:Int)<(i:Int)+8:=by omega
    have hLa:bs.length-i=L:=by omega
    clear bZ;go_wp2_with fail;(try rw[hLa]);clear hLa;refine wp_region_held_drew (S:=fun w'=>cq w' hb 0=some (Pq (s 14))/\cq w' gb 0=some (Iz a)) (by kernel_rfl) ?hS86 (fun aB=>?rest86)
    case hS86=>exact⟨y6,y0⟩
    obtain⟨Z0,hZ⟩:∃ Z,wr.drew=Z:=⟨_,rfl⟩
    have O:Out 0 0 wr Z0:=by rw[<-hZ];exact(Out.refl 0 0 _).drew
    rw[hZ] at aB ⊢;clear hZ;refine tq Tryz.results64 0 ?_;refine tq Tryz.results64 1 ?_;refine tq Tryz.results64 2 ?_;refine tq Tryz.results64 3 ?_;refine tq Tryz.results64 4 ?_;refine tq Tryz.results64 5 ?_;refine tq Tryz.results64 6 ?_;refine tq Tryz.results64 7 ?_;refine tq Tryz.results64 8 ?_;refine tq Tryz.results64 9 ?_;refine tq Tryz.results64 10 ?_;refine rd1 11 fun KK hK=>?_
    go_simp;refine(HPk.out _ O).mono ?_;rintro e X7 ⟨rfl,he⟩;rw[he];clear he X7;refine hK.out _ _ (aB) fun aB=>?_
    clear hK KK;refine rd1 12 fun KK hK=>?_
    go_simp;refine(z5d (cH.out.1.quiet O) _ _).mono ?_;rintro e X9 ⟨rfl,P9,q9⟩;refine hK.out _ _ ⟨q9.cell aB.1 dX.out,q9.cell aB.2 (.inr bX.out)⟩ fun aB=>?_
    clear hK KK;refine dn ?_;have HP9:Hid (SpAt X9 lo hi s n cap (z1q S2 (mtC n a S2.W bs (j+1)))):=by
     have hi8:=Hi8.out;have e:mtC n a S2.W bs (j+1)=F3 n (mtC n a S2.W bs j) (a+2+j) (wrap64 (pkU ((bs.drop i).take 8))):=by rw[<-hi8];rfl
     rw[e];exact P9
    have HQ9:=Q3 ((cH.out.2.trans (O.any lo hi)).trans q9);clear aB P9 q9 O y0 y6;go_wp2_with fail;go_roundw
    case rel=>exact⟨j+1,by have:=Hi8.out;omega,by have:=Hi8.out;rw[show ((8*(j+1):Nat):Int)=(i:Int)+8 from by omega],HP9.out,HQ9.out⟩
    case measure=>have:=Hi8.out;simp[intOf];omega
  ·have b1':(bs.length:Int)<=((8*j:Nat):Int):=by omega
   have ej:(bs.length+7) / 8=j:=by omega
   have HE:Hid (SpAt wr lo hi s n cap (z1q S2 (mtW n a S2.W bs))):=by
    unfold mtW;rw[ej];exact cH.out.1
   obtain⟨y0,y1,y2,y3,y4,y5⟩:=K7 ((HQ6.out.trans cH.out.2).heap lT.out (.inr bX.out));have HVa:Hid (Q8 2 a=true):=by
    have h1:=Ha.out;unfold Q8;rw[decide_eq_true_eq];exact .inr (.inl ⟨rfl,by omega,by omega⟩)
   go_wp2_with fail;refine(j6l HVa.out _).mono ?_;rintro e X8 ⟨rfl,q8⟩;have HQ8:=Q3 ((HQ1.out.trans (HQ6.out.trans cH.out.2)).trans (q8.any lo hi));have gG:=Q3 (HQ8.out.heap fR.out (.inr (by have h1:=Hh.out.1.top;have h2:=aW.out;omega)));have cW:=Q3 (HQ8.out.heap fF.out (.inr (by have h1:=Hh.out.1.top;have h2:=aW.out;omega)));have HS8:=Q3 (HE.out.quiet q8);obtain⟨a0,a1,a2,a3⟩:=Q5 gG.out;obtain⟨c0,c1,c2,c3⟩:=flt_facts cW.out;have e1:=G5 (x1:=2) (x2:=a) gG.out;have o1:=(Out.refl gv (gv+1) X8).set2 (b:=gv) (o:=0) (o':=1) Lz (Iz 2) (Iz a);have f1:=o1.heap cW.out (.inr (Nat.le_refl _));have f2:=J3 (x':=0) (y':=0) f1;have o2:=(Out.refl (gv+1) (gv+2) ((X8.setCell ⟨gv,0,none⟩ (Iz 2)).setCell ⟨gv,1,none⟩ (Iz a))).set2 (b:=gv+1) (o:=0) (o':=1) Lz (Iz 0) (Iz 0);have e2:=o2.heap e1 (.inl (Nat.lt_succ_self _));have hd:hi<=gv:=by have h1:=Hh.out.1.top;have h2:=aW.out;omega
   have hn:4<=gv:=by have h3:=Hh.out.1.glob;have h4:=Hh.out.1.inn 0 (by omega);omega
   have P9:=(HS8.out.kept o1 (.inl hd) (.inl hn)).kept o2 (.inl (by omega)) (.inl (by omega));have Q9:=(((HO.out.any lo hi).trans HQ8.out).then o1 (by have:=aW.out;omega)).then o2 (by have:=aW.out;omega);have jA:=Q3 (And.intro e2 (And.intro f2 (And.intro P9 Q9)));clear q8 e1 o1 f1 f2 o2 e2 P9 Q9;go_wp2;refine leaves_cons (f:=120) (args:=#[.pointer (some ⟨gv+1,0,none⟩)]) (by simp) (by simp[go_sem]) ?_;refine(z5h jA.out.2.1).mono ?_;rintro e u' w9 ⟨rfl,rfl,f9,q9⟩;exact Y7 (J2 Tryz.results64 rfl rfl (U1 (q9.heap jA.out.1 (.inl (Nat.lt_succ_self _)))) (J5 f9)) ⟨rfl,jA.out.2.2.1.kept q9 (.inl (by omega)) (.inl (by omega)),jA.out.2.2.2.then q9 (by have:=aW.out;omega)⟩
end
theorem x2g {n a:Nat} {W:Nat->Int} {bs:List Int}:∀ J:Nat,a+2+J<=64*n->(mtC n a W bs J) (a+1)=bs.length/\(∀ j,j<J->(mtC n a W bs J) (a+2+j)=wrap64 (pkU ((bs.drop (8*j)).take 8)))/\∀ i,i<=a\/a+2+J<=i->(mtC n a W bs J) i=W i
 | 0,h=>by
  refine⟨?_,fun j hj=>by omega,fun i hi=>?_⟩
  ·show F3 n W ((a:Int)+1) bs.length (a+1)=_
   rw[show (a:Int)+1=((a+1:Nat):Int) from by omega];exact q2k (by omega)
  ·exact z4s (by omega)
 | J+1,h=>by
  obtain⟨h1,h2,h3⟩:=x2g (n:=n) (a:=a) (W:=W) (bs:=bs) J (by omega);refine⟨?_,fun j hj=>?_,fun i hi=>?_⟩
  ·rw[<-h1];exact z4s (by omega)
  ·by_cases e:j=J
   ·subst e
    show F3 n _ ((a:Int)+2+(j:Int)) _ (a+2+j)=_
    rw[show (a:Int)+2+(j:Int)=((a+2+j:Nat):Int) from by omega];exact q2k (by omega)
   ·rw[<-h2 j (by omega)];exact z4s (by omega)
  ·rw[<-h3 i (by omega)];exact z4s (by omega)
def dtW (a:Nat) (W:Nat->Int) (bs:List Int) (k:Nat):Nat->Int:=fun i=>
 if i=a+1 then bs.length else if a+2<=i/\i<a+2+(bs.length+7) / 8 then wrap64 (pkU (((bs.drop (8*(i-(a+2)))).take 8).drop (k-8*(i-(a+2))))) else W i
theorem j7r (x b:Int):wrap64 (wrap64 x*256+b)=wrap64 (b+256*x):=by unfold wrap64;omega
theorem j8w {a:Nat} {W:Nat->Int} {bs:List Int} (hz:∀ i,a+2<=i->i<a+2+(bs.length+7) / 8->W i=0) (i:Nat):dtW a W bs bs.length i=if i=a+1 then (bs.length:Int) else W i:=by
 unfold dtW;by_cases e:i=a+1
 ·rw[if_pos e,if_pos e]
 ·rw[if_neg e,if_neg e];by_cases c:a+2<=i/\i<a+2+(bs.length+7) / 8
  ·rw[if_pos c,hz i c.1 c.2,List.drop_eq_nil_of_le (by rw[List.length_take,List.length_drop];omega)]
   show wrap64 0=0
   unfold wrap64;omega
  ·rw[if_neg c]
theorem x3f {a k:Nat} {W:Nat->Int} {bs:List Int} {b:Int} (hb:bs[k]? = some b) (i:Nat):dtW a W bs k i=if i=a+2+k / 8 then wrap64 (dtW a W bs (k+1) (a+2+k / 8)*256+b) else dtW a W bs (k+1) i:=by
 have hk:=(List.getElem?_eq_some_iff.1 hb).1;by_cases e:i=a+2+k / 8
 ·subst e;rw[if_pos rfl];unfold dtW;have h0:¬ a+2+k / 8=a+1:=by omega
  have h9:a+2<=a+2+k / 8/\a+2+k / 8<a+2+(bs.length+7) / 8:=by omega
  simp only[if_neg h0,if_pos h9];rw[j7r];rw[show a+2+k / 8-(a+2)=k / 8 from by omega];have h1:((bs.drop (8*(k / 8))).take 8)[k-8*(k / 8)]? = some b:=by
   rw[List.getElem?_take,if_pos (by omega),List.getElem?_drop,show 8*(k / 8)+(k-8*(k / 8))=k from by omega];exact hb
  generalize ((bs.drop (8*(k / 8))).take 8)=c at *
  rw[show k+1-8*(k / 8)=k-8*(k / 8)+1 from by omega];have hc:=(List.getElem?_eq_some_iff.1 h1)
  rw[List.drop_eq_getElem_cons hc.1,hc.2];rfl
 ·rw[if_neg e];unfold dtW;by_cases e1:i=a+1
  ·rw[if_pos e1,if_pos e1]
  ·rw[if_neg e1,if_neg e1];by_cases c:a+2<=i/\i<a+2+(bs.length+7) / 8
   ·rw[if_pos c,if_pos c];by_cases d:k<8*(i-(a+2))
    ·rw[show k-8*(i-(a+2))=0 from by omega,show k+1-8*(i-(a+2))=0 from by omega]
    ·rw[List.drop_eq_nil_of_le (i:=k-8*(i-(a+2))) (by rw[List.length_take];omega),List.drop_eq_nil_of_le (i:=k+1-8*(i-(a+2))) (by rw[List.length_take];omega)]
   ·rw[if_neg c,if_neg c]
theorem x5z {n a:Nat} {W:Nat->Int} {bs:List Int} (hn:a+2+(bs.length+7) / 8<=64*n):dtW a W bs 0=mtW n a W bs:=by
 obtain⟨h1,h2,h3⟩:=x2g (n:=n) (a:=a) (W:=W) (bs:=bs) ((bs.length+7) / 8) hn;funext i
 unfold dtW mtW;by_cases e:i=a+1
 ·subst e;rw[if_pos rfl,h1]
 ·rw[if_neg e];by_cases c:a+2<=i/\i<a+2+(bs.length+7) / 8
  ·rw[if_pos c];have:=h2 (i-(a+2)) (by omega);rw[show a+2+(i-(a+2))=i from by omega] at this;rw[this];simp
  ·rw[if_neg c,h3 i (by omega)]
end Go.Proofs.YtjgnogflgoihfaaGreatDoor
