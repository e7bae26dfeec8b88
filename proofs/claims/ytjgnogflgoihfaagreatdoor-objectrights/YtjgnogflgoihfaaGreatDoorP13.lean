import Derived.Test.YtjgnogflgoihfaaGreatDoorP12
namespace Go.Proofs.YtjgnogflgoihfaaGreatDoor
open Go.RowKit
set_option linter.unusedVariables false
set_option maxRecDepth 100000
set_option maxHeartbeats 16000000
set_option linter.unusedSimpArgs false
theorem z1f {n:Nat} (st:Sp):q2e (J0 n st):=by
 intro a ha;have h:ob n st a=true:=ha;unfold ob at h;rw[Bool.and_eq_true] at h;refine⟨st.O a,?_⟩
 show obM st (a:Int)=_
 unfold obM;rw[show ((a:Int)).toNat=a from by omega,if_pos ⟨by omega,h.2⟩]
theorem j6e {n:Nat} {st:Sp} (hI:Inv n st):∀ a b,(J0 n st).M a=some b->∃ j:Nat,a=j/\j<64*n:=by
 intro a b h;have h':obM st a=some b:=h;unfold obM at h';by_cases e:0<=a/\Y9 (st.O a.toNat)=true
 ·exact⟨a.toNat,by omega,(hI.objs _ e.2).1⟩
 ·rw[if_neg e] at h';cases h'
theorem z5k {n:Nat} {st:Sp} {a:Nat} {b:Blk} (h:(J0 n st).M (a:Int)=some b):b=st.O a/\Y9 (st.O a)=true:=by
 have h':obM st (a:Int)=some b:=h;unfold obM at h';rw[show ((a:Int)).toNat=a from by omega] at h';by_cases e:(0:Int)<=(a:Int)/\Y9 (st.O a)=true
 ·rw[if_pos e] at h';cases h';exact⟨rfl,e.2⟩
 ·rw[if_neg e] at h';cases h'
theorem x0r {a b x:Nat} (hx:0<x) (ha:a % x=0) (hb:b % x=0) (h:a<b):a+x<=b:=by
 obtain⟨p,rfl⟩:=Nat.dvd_of_mod_eq_zero ha;obtain⟨q,rfl⟩:=Nat.dvd_of_mod_eq_zero hb;have:p<q:=Nat.lt_of_mul_lt_mul_left h
 calc x*p+x=x*(p+1):=by rw[Nat.mul_succ]
  _<=x*q:=Nat.mul_le_mul_left _ this
theorem z6o {n:Nat} {st:Sp} (hI:Inv n st):j1o n (J0 n st):=by
 intro a b ha hb;obtain⟨rfl,hh⟩:=z5k hb;obtain⟨h1,h2,h3⟩:=hI.objs a hh;obtain⟨_,_,h4,h5⟩:=U7 h2;obtain⟨k,z,x,t,hO⟩:∃ k z x t,st.O a=(k,z,x,t):=⟨_,_,_,_,rfl⟩
 rw[hO] at h2 h3 h4 h5 ⊢;dsimp only at h2 h3 h4 h5 ⊢;refine⟨h4,h5,?_⟩;have hother:∀ a',(J0 n st).P a'=true->ObOk n st.S a' (st.O a'):=fun a' h'=>by
  have:ob n st a'=true:=h';unfold ob at this;rw[Bool.and_eq_true] at this;exact hI.objs a' this.2
 rcases h3 with ⟨s1,s2,s3⟩ | ⟨s1,s2,s3⟩
 ·obtain⟨c,hc,hc8⟩:=of_lt z (by unfold B9;rw[if_neg (by omega)];omega) (by unfold ofV;repeat' split;all_goals omega);obtain⟨w',y',e1,e2,e3,e4⟩:=z3b hc8;have hw:U1 z=w':=by unfold U1;rw[if_neg (by omega),hc,e2]
  rw[hw];rw[hc] at s2 s3;unfold G1 at s3;rw[Bool.and_eq_true,e2] at s3;have s4:a % 64 % w'=0:=by simpa using s3.1
  have s5:a % 64+w'<=64:=by simpa using s3.2
  refine⟨by omega,fun a' h6 h7=>?_⟩;by_cases hpg:a' / 64=a / 64
  ·obtain⟨o1,o2,o3⟩:=hother a' h7;rcases o3 with ⟨o4,o5,o6⟩ | ⟨o4,o5,o6⟩
   ·rw[hpg,s2] at o5;have oc:ofV (st.O a').2.1=(c:Int):=by simp at o5;omega
    rw[oc] at o6;unfold G1 at o6;rw[Bool.and_eq_true,e2] at o6;have o7:a' % 64 % w'=0:=by simpa using o6.1
    have:=x0r (a:=a % 64) (b:=a' % 64) (x:=w') (by omega) s4 o7 (by omega);omega
   ·rw[hpg,s2] at o6;simp at o6
  ·omega
 ·have hw:U1 z=((z+63) / 64).toNat*64:=by unfold U1;rw[if_pos s1]
  obtain⟨m,hm⟩:∃ m:Nat,(z+63) / 64=(m:Int):=⟨((z+63) / 64).toNat,by omega⟩
  rw[hm] at s3 hw;rw[hw,show ((m:Int)).toNat=m from by omega];rcases hI.good (a / 64) (by omega) with e | ⟨c,_,_,e⟩ | ⟨q,q1,q2,q3,e,q4⟩ | ⟨e,_⟩
  ·rw[s3] at e;simp at e
  ·rw[s3] at e;simp at e
  ·rw[s3] at e;have:m=q:=by simp at e;omega
   subst this;refine⟨by omega,fun a' h6 h7=>?_⟩;by_cases hpg:a / 64<a' / 64/\a' / 64<a / 64+m
   ·have e3:=q4 (a' / 64) hpg.1 hpg.2;obtain⟨o1,o2,o3⟩:=hother a' h7;rcases o3 with ⟨o4,o5,o6⟩ | ⟨o4,o5,o6⟩
    ·rw[e3] at o5;simp at o5
    ·rw[e3] at o6;simp at o6
   ·by_cases hsame:a' / 64=a / 64
    ·obtain⟨o1,o2,o3⟩:=hother a' h7;rcases o3 with ⟨o4,o5,o6⟩ | ⟨o4,o5,o6⟩
     ·rw[hsame,s3] at o5;simp at o5
     ·omega
    ·omega
  ·rw[s3] at e;simp at e
def z2x (r:Raw) (kp:Nat->Bool) (a:Nat):Bool:=r.P a && !kp a
theorem z3m (n:Nat) (r:Raw) (kp:Nat->Bool) (p:Nat):K8 n r kp (p+1)=if r.P p && !kp p then (match r.M (p:Int) with | some b=>drR n (K8 n r kp p) p b.2.1 b.2.2.1 | none=>K8 n r kp p) else K8 n r kp p:=rfl
theorem x2i {n:Nat} {r:Raw} {kp:Nat->Bool} (hT:q2e r):∀ (p:Nat) (i:Int),(K8 n r kp p).M i=if 0<=i/\i.toNat<p/\z2x r kp i.toNat=true then none else r.M i
 | 0,i=>by rw[if_neg (by omega)];rfl
 | p+1,i=>by
  have ih:=x2i (n:=n) (kp:=kp) hT p i;rw[z3m];cases e:(r.P p && !kp p) with
  | false=>
   rw[if_neg (by simp),ih];by_cases h:0<=i/\i.toNat<p/\z2x r kp i.toNat=true
   ·rw[if_pos h,if_pos ⟨h.1,by omega,h.2.2⟩]
   ·rw[if_neg h,if_neg ?_];rintro⟨h1,h2,h3⟩;by_cases ep:i.toNat=p
    ·rw[ep] at h3;unfold z2x at h3;rw[e] at h3;cases h3
    ·exact h ⟨h1,by omega,h3⟩
  | true=>
   rw[if_pos rfl];obtain⟨b,hb⟩:=hT p (by rw[Bool.and_eq_true] at e;exact e.1);rw[hb]
   show (if i=(p:Int) then none else (K8 n r kp p).M i)=_
   by_cases ei:i=(p:Int)
   ·rw[if_pos ei,if_pos ⟨by omega,by omega,by rw[ei,show ((p:Int)).toNat=p from by omega];exact e⟩]
   ·rw[if_neg ei,ih];by_cases h:0<=i/\i.toNat<p/\z2x r kp i.toNat=true
    ·rw[if_pos h,if_pos ⟨h.1,by omega,h.2.2⟩]
    ·rw[if_neg h,if_neg (fun h'=>h ⟨h'.1,by omega,h'.2.2⟩)]
def q4s (r:Raw) (kp:Nat->Bool) (p:Nat) (x:Int):Bool:=(List.range p).any fun a=>z2x r kp a && (match r.M (a:Int) with | some b=>b.2.2.1 == x | none=>false)
theorem j2j (r:Raw) (kp:Nat->Bool) (p:Nat) (x:Int):q4s r kp (p+1) x=(q4s r kp p x || (z2x r kp p && (match r.M (p:Int) with | some b=>b.2.2.1 == x | none=>false))):=by
 unfold q4s;rw[List.range_succ,List.any_append];simp
theorem x2j {n:Nat} {r:Raw} {kp:Nat->Bool} (hT:q2e r):∀ (p:Nat) (x:Int),(K8 n r kp p).R x=if q4s r kp p x=true then none else r.R x
 | 0,x=>by rw[if_neg (by unfold q4s;simp)];rfl
 | p+1,x=>by
  have ih:=x2j (n:=n) (kp:=kp) hT p x;rw[z3m,j2j];cases e:(r.P p && !kp p) with
  | false=>
   have e':z2x r kp p=false:=e;rw[if_neg (by simp),ih,e'];simp
  | true=>
   have e':z2x r kp p=true:=e;rw[if_pos rfl,e'];obtain⟨b,hb⟩:=hT p (by rw[Bool.and_eq_true] at e;exact e.1);rw[hb]
   show (if x=b.2.2.1 then none else (K8 n r kp p).R x)=_
   by_cases ex:x=b.2.2.1
   ·rw[if_pos ex,if_pos (by rw[ex];simp)]
   ·rw[if_neg ex,ih];have:(b.2.2.1 == x)=false:=by simpa using fun h=>ex h.symm
    simp[this]
def z2n (r:Raw) (kp:Nat->Bool) (p q:Nat):Bool:=(List.range p).any fun a=>z2x r kp a && (match r.M (a:Int) with | some b=>decide (32<b.2.1/\a / 64<=q/\q<a / 64+((b.2.1+63) / 64).toNat) | none=>false)
theorem j2i (r:Raw) (kp:Nat->Bool) (p q:Nat):z2n r kp (p+1) q=(z2n r kp p q || (z2x r kp p && (match r.M (p:Int) with | some b=>decide (32<b.2.1/\p / 64<=q/\q<p / 64+((b.2.1+63) / 64).toNat) | none=>false))):=by
 unfold z2n;rw[List.range_succ,List.any_append];simp
theorem goneP_iff {r:Raw} {kp:Nat->Bool} {p q:Nat}:z2n r kp p q=true ↔ ∃ a b,a<p/\z2x r kp a=true/\r.M (a:Int)=some b/\32<b.2.1/\a / 64<=q/\q<a / 64+((b.2.1+63) / 64).toNat:=by
 unfold z2n;rw[List.any_eq_true];constructor
 ·rintro⟨a,ha,h⟩;rw[List.mem_range] at ha;rw[Bool.and_eq_true] at h;cases e:r.M (a:Int) with
  | none=>rw[e] at h;exact absurd h.2 (by simp)
  | some b=>
   rw[e] at h;have:=h.2;simp only[decide_eq_true_eq] at this;exact⟨a,b,ha,h.1,e,this.1,this.2.1,this.2.2⟩
 ·rintro⟨a,b,h1,h2,h3,h4,h5,h6⟩;refine⟨a,by rw[List.mem_range];omega,?_⟩;rw[h2,h3];simp only[Bool.true_and,decide_eq_true_eq];exact⟨h4,h5,h6⟩
theorem x2k {n:Nat} {st:Sp} {kp:Nat->Bool} (hI:Inv n st):∀ (p:Nat) (q:Nat),(K8 n (J0 n st) kp p).S q=if z2n (J0 n st) kp p q=true then (0,0,0) else st.S q
 | 0,q=>by rw[if_neg (by unfold z2n;simp)];rfl
 | p+1,q=>by
  have ih:=fun q=>x2k (kp:=kp) hI p q
  rw[z3m,j2i];cases e:((J0 n st).P p && !kp p) with
  | false=>
   have e':z2x (J0 n st) kp p=false:=e;rw[if_neg (by simp),ih,e'];simp
  | true=>
   have e':z2x (J0 n st) kp p=true:=e;rw[if_pos rfl,e'];have hP:(J0 n st).P p=true:=by rw[Bool.and_eq_true] at e;exact e.1
   obtain⟨b,hb⟩:=z1f st p hP;have hRo:=z6o hI p b hP hb;obtain⟨rfl,hh⟩:=z5k hb;obtain⟨h1,h2,h3⟩:=hI.objs p hh;rw[hb]
   show (if 32<(st.O p).2.1 then gvS (K8 n (J0 n st) kp p).S n ((p / 64:Nat):Int) else (K8 n (J0 n st) kp p).S) q=_
   by_cases hz:32<(st.O p).2.1
   ·rw[if_pos hz];rcases h3 with ⟨h3,_⟩ | ⟨_,h4,h5⟩
    ·omega
    have nJ:U1 (st.O p).2.1=(((st.O p).2.1+63) / 64).toNat*64:=by unfold U1;rw[if_pos hz]
    have hng:z2n (J0 n st) kp p (p / 64)=false:=by
     cases eg:z2n (J0 n st) kp p (p / 64) with
     | false=>rfl
     | true=>
      obtain⟨a,b,g1,g2,g3,g4,g5,g6⟩:=goneP_iff.1 eg;have gP:(J0 n st).P a=true:=by unfold z2x at g2;rw[Bool.and_eq_true] at g2;exact g2.1
      have:=(z6o hI a b gP g3).2.2.2 p g1 hP;have hr:U1 b.2.1=((b.2.1+63) / 64).toNat*64:=by unfold U1;rw[if_pos g4]
      obtain⟨rfl,gh⟩:=z5k g3;obtain⟨_,_,i3⟩:=hI.objs a gh;rcases i3 with ⟨i3,_⟩ | ⟨_,i4,_⟩
      ·omega
      ·omega
    have hS:(K8 n (J0 n st) kp p).S (p / 64)=(2,0,((st.O p).2.1+63) / 64):=by rw[ih,if_neg (by rw[hng];simp),h5]
    unfold gvS z6c;rw[show (((p / 64:Nat):Int)).toNat=p / 64 from by omega,hS];rw[if_pos (by unfold inB;simp;omega)];unfold setF z6e;rw[if_pos rfl];dsimp only;by_cases hq:p / 64<=q/\q<p / 64+(((st.O p).2.1+63) / 64).toNat
    ·rw[if_pos hq,if_pos (by simp[hz,hq])]
    ·rw[if_neg hq,ih];have:decide (32<(st.O p).2.1/\p / 64<=q/\q<p / 64+(((st.O p).2.1+63) / 64).toNat)=false:=by simp only[decide_eq_false_iff_not];exact fun h=>hq h.2
     simp only[this,Bool.and_false,Bool.or_false]
   ·rw[if_neg hz,ih];have:decide (32<(st.O p).2.1/\p / 64<=q/\q<p / 64+(((st.O p).2.1+63) / 64).toNat)=false:=by simp only[decide_eq_false_iff_not];exact fun h=>hz h.1
    simp only[this,Bool.and_false,Bool.or_false]
def z5l (S:Nat->Int × Int × Int) (P:Nat->Bool) (p:Nat):Bool:=(S p).1 == 1 && z8k P (64*p) (64*p+64) == 0
def z8e (S:Nat->Int × Int × Int) (P:Nat->Bool) (c p:Nat):Bool:=(S p).1 == 1 && ((S p).2.1 == (c:Int) && !(z8k P (64*p) (64*p+64) == 0))
def dlS (S:Nat->Int × Int × Int) (P:Nat->Bool) (i:Nat):Nat->Int × Int × Int:=fun p=>if decide (p<i) && z5l S P p then (0,0,0) else S p
def dlF (S:Nat->Int × Int × Int) (P:Nat->Bool) (F:Nat->Nat->Bool) (i:Nat):Nat->Nat->Bool:=fun c j=>F c j || (decide (j / 64<i) && z8e S P c (j / 64) && G1 (c:Int) (j % 64) && !P j)
theorem z4q (p i:Nat):decide (p<i+1)=(decide (p<i) || decide (p=i)):=by
 by_cases h:p<i
 ·simp[h];omega
 ·by_cases e:p=i
  ·simp[e]
  ·simp[h,e];omega
theorem q4m {n:Nat} {q:Raw} (hg:Good n q.S):∀ i,i<=n->dlR n q.S q i={ q with S:=dlS q.S q.P i,F:=dlF q.S q.P q.F i }
 | 0,_=>by
  refine Raw.eq rfl ?_ ?_ rfl rfl rfl rfl
  ·funext p;show q.S p=dlS q.S q.P 0 p;unfold dlS;simp
  ·funext c j;show q.F c j=dlF q.S q.P q.F 0 c j;unfold dlF;simp
 | i+1,hi=>by
  show z9o n q.S (dlR n q.S q i) i=_
  rw[q4m hg i (by omega)];unfold z9o;dsimp only;have hSi:dlS q.S q.P i i=q.S i:=by unfold dlS;simp
  have hSn:∀ (hb:z5l q.S q.P i=false),dlS q.S q.P (i+1)=dlS q.S q.P i:=fun hb=>by
   funext p
   unfold dlS;rw[z4q];by_cases e:p=i
   ·subst e;simp[hb]
   ·simp[e]
  have hFn:∀ (hb:∀ c,z8e q.S q.P c i=false),dlF q.S q.P q.F (i+1)=dlF q.S q.P q.F i:=fun hb=>by
   funext c j
   unfold dlF;rw[z4q];by_cases e:j / 64=i
   ·rw[e,hb c];simp
   ·simp[e]
  by_cases h1:(q.S i).1=1
  ·rw[if_pos h1];obtain⟨c,hc,hS⟩:∃ c:Nat,c<8/\q.S i=(1,(c:Int),0):=by
    rcases hg.cases (i:=i) (by omega) with e | ⟨c,c1,c2,e⟩ | ⟨k,_,_,_,e⟩ | e
    ·rw[e] at h1;simp at h1
    ·exact⟨c.toNat,by omega,by rw[e];simp;omega⟩
    ·rw[e] at h1;simp at h1
    ·rw[e] at h1;simp at h1
   cases h2:(z8k q.P (64*i) (64*i+64) == 0) with
   | true=>
    rw[if_pos rfl];refine Raw.eq rfl ?_ ?_ rfl rfl rfl rfl
    ·show gvS (dlS q.S q.P i) n (i:Int)=dlS q.S q.P (i+1)
     unfold gvS z6c;rw[show ((i:Int)).toNat=i from by omega,hSi,hS,if_pos (by unfold inB;simp;omega)];funext p
     show (if i<=p/\p<i+z6e (1,(c:Int),0) then (0,0,0) else dlS q.S q.P i p)=_
     rw[show z6e (1,(c:Int),0)=1 from rfl];by_cases e:p=i
     ·subst e;rw[if_pos (by omega)];unfold dlS z5l;rw[hS,h2];simp
     ·rw[if_neg (by omega)];unfold dlS;rw[z4q];simp[e]
    ·show dlF q.S q.P q.F i=dlF q.S q.P q.F (i+1)
     exact(hFn fun c=>by unfold z8e;rw[h2];simp).symm
   | false=>
    rw[if_neg (by simp)];refine Raw.eq rfl ?_ ?_ rfl rfl rfl rfl
    ·show dlS q.S q.P i=dlS q.S q.P (i+1)
     exact(hSn (by unfold z5l;rw[h2];simp)).symm
    ·show (fun d=>if d=(q.S i).2.1.toNat then fuR { q with S:=dlS q.S q.P i,F:=dlF q.S q.P q.F i } (q.S i).2.1.toNat i else dlF q.S q.P q.F i d)=dlF q.S q.P q.F (i+1)
     rw[hS];funext d j
     show (if d=((c:Int)).toNat then fuR { q with S:=dlS q.S q.P i,F:=dlF q.S q.P q.F i } ((c:Int)).toNat i else dlF q.S q.P q.F i d) j=dlF q.S q.P q.F (i+1) d j
     rw[show ((c:Int)).toNat=c from by omega];by_cases e:d=c
     ·subst e;rw[if_pos rfl]
      show (dlF q.S q.P q.F i d j || (decide (j / 64=i) && G1 (d:Int) (j % 64) && !q.P j))=_
      unfold dlF;rw[z4q];by_cases ej:j / 64=i
      ·have hf:z8e q.S q.P d i=true:=by unfold z8e;rw[hS,h2];simp
       rw[ej,hf];simp
      ·simp[ej]
     ·rw[if_neg e];unfold dlF;rw[z4q];by_cases ej:j / 64=i
      ·have hf:z8e q.S q.P d i=false:=by unfold z8e;rw[hS];simp;omega
       rw[ej,hf];simp
      ·simp[ej]
  ·rw[if_neg h1];refine Raw.eq rfl ?_ ?_ rfl rfl rfl rfl
   ·exact(hSn (by unfold z5l;simp[h1])).symm
   ·exact(hFn fun c=>by unfold z8e;simp[h1]).symm
def q1n (n:Nat) (st:Sp):Nat->Sp
 | 0=>st
 | c+1=>{ q1n n st c with W:=z6g n (J0 n (q1n n st c)) c }
theorem x2p (n:Nat) (st:Sp):∀ c,lnR n (J0 n st) c=J0 n (q1n n st c)
 | 0=>rfl
 | c+1=>by
  show { lnR n (J0 n st) c with W:=z6g n (lnR n (J0 n st) c) c }=J0 n { q1n n st c with W:=z6g n (J0 n (q1n n st c)) c }
  rw[x2p n st c];rfl
theorem z8n (n:Nat) (st:Sp):∀ c,(q1n n st c).S=st.S/\(q1n n st c).O=st.O/\(q1n n st c).last=st.last
 | 0=>⟨rfl,rfl,rfl⟩
 | c+1=>z8n n st c
def kpO (st:Sp) (kp:Nat->Bool):Nat->Blk:=fun a=>if kp a then st.O a else noB
def z8f (n:Nat) (st:Sp) (kp:Nat->Bool):Nat->Int × Int × Int:=fun q=>if z2n (J0 n st) kp (64*n) q=true then (0,0,0) else st.S q
theorem j5p:Y9 noB=false:=rfl
theorem z4p (st:Sp) (kp:Nat->Bool) (a:Nat):Y9 (kpO st kp a)=(Y9 (st.O a) && kp a):=by
 unfold kpO;cases kp a with
 | true=>simp
 | false=>simp[j5p]
theorem kp_P {n:Nat} {st:Sp} {kp:Nat->Bool}:(K8 n (J0 n st) kp (64*n)).P=ob n { st with O:=kpO st kp }:=by
 funext a
 rw[(H8 (n:=n) (kp:=kp) (z1f st) (64*n) a).1]
 show (ob n st a && _)=(decide (a<64*n) && Y9 (kpO st kp a))
 rw[z4p];unfold ob;by_cases h:a<64*n
 ·simp[h]
 ·simp[h]
theorem kp_M {n:Nat} {st:Sp} {kp:Nat->Bool} (hI:Inv n st):(K8 n (J0 n st) kp (64*n)).M=obM { st with O:=kpO st kp }:=by
 funext i
 rw[x2i (n:=n) (kp:=kp) (z1f st)]
 show (if _ then none else obM st i)=(if 0<=i/\Y9 (kpO st kp i.toNat)=true then some (kpO st kp i.toNat) else none)
 unfold z2x;rw[z4p]
 show (if 0<=i/\i.toNat<64*n/\(ob n st i.toNat && !kp i.toNat)=true then none else obM st i)=_
 unfold ob obM;by_cases h0:0<=i
 ·cases hh:Y9 (st.O i.toNat) with
  | false=>simp[h0,hh]
  | true=>
   have eR:=(hI.objs _ hh).1;cases hk:kp i.toNat with
   | true=>simp[h0,hh,hk,kpO]
   | false=>simp[h0,hh,hk,eR]
 ·simp[h0]
theorem z6p {n:Nat} {st:Sp} {x:Int} {a:Nat} (hx:1<=x) (h:q5z n st x=some a):a<64*n/\Y9 (st.O a)=true/\(st.O a).2.2.1=x:=by
 unfold q5z at h;rw[if_pos hx] at h;have h1:=List.find?_some h;have h2:=List.mem_of_find?_eq_some h;rw[List.mem_range] at h2;rw[Bool.and_eq_true] at h1;exact⟨h2,h1.1,by simpa using h1.2⟩
theorem q6a {n:Nat} {st:Sp} {x:Int} (hx:1<=x) (h:q5z n st x=none):∀ a,a<64*n->Y9 (st.O a)=true->(st.O a).2.2.1 ≠ x:=by
 intro a ha hh he;unfold q5z at h;rw[if_pos hx,List.find?_eq_none] at h;have:=h a (by rw[List.mem_range];exact ha);rw[hh,he] at this;simp at this
theorem kp_R {n:Nat} {st:Sp} {kp:Nat->Bool} (hI:Inv n st):(K8 n (J0 n st) kp (64*n)).R=q6b n { st with O:=kpO st kp }:=by
 funext x
 rw[x2j (n:=n) (kp:=kp) (z1f st)]
 show (if q4s (J0 n st) kp (64*n) x=true then none else q6b n st x)=q6b n { st with O:=kpO st kp } x
 unfold q6b;by_cases hx:1<=x
 ·have hgone:q4s (J0 n st) kp (64*n) x=true ↔ ∃ a,a<64*n/\Y9 (st.O a)=true/\kp a=false/\(st.O a).2.2.1=x:=by
   unfold q4s;rw[List.any_eq_true];constructor
   ·rintro⟨a,ha,h⟩;rw[List.mem_range] at ha;rw[Bool.and_eq_true] at h;have hg:(ob n st a && !kp a)=true:=h.1;cases e:(J0 n st).M (a:Int) with
    | none=>rw[e] at h;exact absurd h.2 (by simp)
    | some b=>
     rw[e] at h;obtain⟨rfl,hh⟩:=z5k e;refine⟨a,ha,hh,?_,by simpa using h.2⟩;rw[Bool.and_eq_true] at hg;simpa using hg.2
   ·rintro⟨a,ha,hh,hk,hs⟩;refine⟨a,by rw[List.mem_range];exact ha,?_⟩;have hP:(J0 n st).P a=true:=by show ob n st a=true;unfold ob;simp[ha,hh]
    obtain⟨b,hb⟩:=z1f st a hP;obtain⟨rfl,_⟩:=z5k hb;rw[hb];unfold z2x;rw[hP,hk];simp[hs]
  cases h1:q5z n st x with
  | none=>
   have hn:=q6a hx h1;rw[if_neg (fun h=>by obtain⟨a,a1,a2,_,a3⟩:=hgone.1 h;exact hn a a1 a2 a3)];cases h2:q5z n { st with O:=kpO st kp } x with
   | none=>rfl
   | some a=>
    obtain⟨a1,a2,a3⟩:=z6p hx h2;have a2':Y9 (kpO st kp a)=true:=a2;have a3':(kpO st kp a).2.2.1=x:=a3;rw[z4p,Bool.and_eq_true] at a2';unfold kpO at a3';rw[if_pos a2'.2] at a3';exact absurd a3' (hn a a1 a2'.1)
  | some a=>
   obtain⟨a1,a2,a3⟩:=z6p hx h1;cases hk:kp a with
   | true=>
    rw[if_neg ?_]
    ·cases h2:q5z n { st with O:=kpO st kp } x with
     | none=>
      have:=q6a hx h2 a a1 (by show Y9 (kpO st kp a)=true;rw[z4p,a2,hk];rfl);exact absurd (show (kpO st kp a).2.2.1=x by unfold kpO;rw[if_pos hk];exact a3) this
     | some a'=>
      obtain⟨b1,b2,b3⟩:=z6p hx h2;have b2':Y9 (kpO st kp a')=true:=b2;have b3':(kpO st kp a').2.2.1=x:=b3;rw[z4p,Bool.and_eq_true] at b2';unfold kpO at b3';rw[if_pos b2'.2] at b3';have:a=a':=hI.one a a' a2 b2'.1 (by omega) (by omega);subst this;rfl
    ·intro h;obtain⟨a',c1,c2,c3,c4⟩:=hgone.1 h;have:a=a':=hI.one a a' a2 c2 (by omega) (by omega);subst this;rw[hk] at c3;cases c3
   | false=>
    rw[if_pos (hgone.2 ⟨a,a1,a2,hk,a3⟩)];cases h2:q5z n { st with O:=kpO st kp } x with
    | none=>rfl
    | some a'=>
     obtain⟨b1,b2,b3⟩:=z6p hx h2;have b2':Y9 (kpO st kp a')=true:=b2;have b3':(kpO st kp a').2.2.1=x:=b3;rw[z4p,Bool.and_eq_true] at b2';unfold kpO at b3';rw[if_pos b2'.2] at b3';have:a=a':=hI.one a a' a2 b2'.1 (by omega) (by omega);subst this;rw[hk] at b2';cases b2'.2
 ·have e1:q5z n st x=none:=by unfold q5z;rw[if_neg hx]
  have e2:q5z n { st with O:=kpO st kp } x=none:=by unfold q5z;rw[if_neg hx]
  rw[e1,e2];simp
theorem q4t {n:Nat} {st:Sp} {kp:Nat->Bool} (hI:Inv n st) {q:Nat} (h:z2n (J0 n st) kp (64*n) q=true):∃ p k:Nat,p<n/\st.S p=(2,0,(k:Int))/\p<=q/\q<p+k/\∀ j,p<=j->j<p+k->z2n (J0 n st) kp (64*n) j=true:=by
 obtain⟨a,b,g1,g2,g3,g4,g5,g6⟩:=goneP_iff.1 h;obtain⟨rfl,gh⟩:=z5k g3;obtain⟨_,_,i3⟩:=hI.objs a gh;rcases i3 with ⟨i3,_⟩ | ⟨_,i4,i5⟩
 ·omega
 ·refine⟨a / 64,(((st.O a).2.1+63) / 64).toNat,by omega,by rw[i5];simp;omega,g5,g6,fun j j1 j2=>goneP_iff.2 ⟨a,_,g1,g2,g3,g4,j1,j2⟩⟩
theorem j5o {n:Nat} {st:Sp} {kp:Nat->Bool} (hI:Inv n st):Good n (z8f n st kp):=by
 intro i hi;unfold PgOk z8f;cases hg:z2n (J0 n st) kp (64*n) i with
 | true=>exact .inl (by rw[if_pos rfl])
 | false=>
  simp only[Bool.false_eq_true,if_false];rcases hI.good i hi with e | ⟨c,c1,c2,e⟩ | ⟨k,k1,k2,k3,e,k4⟩ | ⟨e,h,k,h1,h2,h3⟩
  ·exact .inl e
  ·exact .inr (.inl ⟨c,c1,c2,e⟩)
  ·refine .inr (.inr (.inl ⟨k,k1,k2,k3,e,fun j j1 j2=>?_⟩));cases hj:z2n (J0 n st) kp (64*n) j with
   | false=>rw[if_neg (by simp)];exact k4 j j1 j2
   | true=>
    obtain⟨p,m,p1,p2,p3,p4,p5⟩:=q4t hI hj;by_cases ep:p<=i
    ·have:=p5 i ep (by omega);rw[hg] at this;cases this
    ·have:=k4 p (by omega) (by omega);rw[p2] at this;simp at this
  ·refine .inr (.inr (.inr ⟨e,h,k,h1,h2,?_⟩));cases hj:z2n (J0 n st) kp (64*n) h with
   | false=>rw[if_neg (by simp)];exact h3
   | true=>
    obtain⟨p,m,p1,p2,p3,p4,p5⟩:=q4t hI hj;by_cases ep:p=h
    ·subst ep;rw[h3] at p2;have:k=m:=by simp at p2;omega
     subst this;have:=p5 i (by omega) (by omega);rw[hg] at this;cases this
    ·rcases hI.good p p1 with e2 | ⟨c,_,_,e2⟩ | ⟨k',_,_,_,e2,q4⟩ | ⟨e2,_⟩
     ·rw[p2] at e2;simp at e2
     ·rw[p2] at e2;simp at e2
     ·rw[p2] at e2;have:m=k':=by simp at e2;omega
      subst this;have:=q4 h (by omega) p4;rw[h3] at this;simp at this
     ·rw[p2] at e2;simp at e2
def q7y (n:Nat) (st:Sp) (kp:Nat->Bool):Sp:=
 { W:=wpW (K8 n (J0 n st) kp (64*n)) (64*n),S:=dlS (z8f n st kp) (ob n { st with O:=kpO st kp }) n,O:=kpO st kp,last:=st.last }
def z0r (n:Nat) (st:Sp) (l:List Int):Sp:=q1n n (q7y n st (kpS l)) 8
theorem q7q {n:Nat} {r:Raw} {kp:Nat->Bool} (hT:q2e r):∀ p,(K8 n r kp p).F=r.F/\(K8 n r kp p).last=r.last
 | 0=>⟨rfl,rfl⟩
 | p+1=>by
  have ih:=q7q (n:=n) (kp:=kp) hT p;rw[z3m];cases e:(r.P p && !kp p) with
  | false=>rw[if_neg (by simp)];exact ih
  | true=>
   rw[if_pos rfl];obtain⟨b,hb⟩:=hT p (by rw[Bool.and_eq_true] at e;exact e.1);rw[hb];exact ih
theorem x0e {n:Nat} {st:Sp} {l:List Int} (hI:Inv n st):x4i n (J0 n st) l=J0 n (z0r n st l):=by
 unfold x4i x3n z0r;rw[<-x2p];congr 1
 obtain⟨q,hq⟩:∃ q,K8 n (J0 n st) (kpS l) (64*n)=q:=⟨_,rfl⟩
 have hS:q.S=z8f n st (kpS l):=by rw[<-hq];funext p;exact x2k hI (64*n) p
 have hP:q.P=ob n { st with O:=kpO st (kpS l) }:=by rw[<-hq];exact kp_P
 have hM:q.M=obM { st with O:=kpO st (kpS l) }:=by rw[<-hq];exact kp_M hI
 have hR:q.R=q6b n { st with O:=kpO st (kpS l) }:=by rw[<-hq];exact kp_R hI
 have hF:q.F=(J0 n st).F:=by rw[<-hq];exact(q7q (z1f st) _).1
 have hL:q.last=st.last:=by rw[<-hq];exact(q7q (z1f st) _).2
 have hg:Good n q.S:=by rw[hS];exact j5o hI
 rw[hq];have mJ:=q4m (n:=n) (q:=rsF { q with W:=wpW q (64*n) } 8) hg n (Nat.le_refl _);refine mJ.trans (Raw.eq ?_ ?_ ?_ ?_ ?_ ?_ ?_)
 ·show wpW q (64*n)=wpW (K8 n (J0 n st) (kpS l) (64*n)) (64*n)
  rw[hq]
 ·show dlS q.S q.P n=dlS (z8f n st (kpS l)) (ob n { st with O:=kpO st (kpS l) }) n
  rw[hS,hP]
 ·funext c j
  show dlF q.S q.P (fun d=>if d<8 then (fun _=>false) else q.F d) n c j=fr n (q7y n st (kpS l)) (c:Int) j
  have hF0:(if c<8 then (fun _=>false) else q.F c) j=false:=by
   by_cases hc:c<8
   ·rw[if_pos hc]
   ·rw[if_neg hc,hF]
    show fr n st (c:Int) j=false
    unfold fr;by_cases hj:j<64*n
    ·have:(st.S (j / 64) == (1,(c:Int),0))=false:=by
      rcases hI.good.cases (i:=j / 64) (by omega) with e | ⟨d,d1,d2,e⟩ | ⟨k,_,_,_,e⟩ | e <;> rw[e] <;> simp
      omega
     rw[this];simp
    ·simp[hj]
  unfold dlF fr
  show ((if c<8 then (fun _=>false) else q.F c) j || (decide (j / 64<n) && z8e q.S q.P c (j / 64) && G1 (c:Int) (j % 64) && !q.P j))=_
  rw[hF0,Bool.false_or]
  show (decide (j / 64<n) && z8e q.S q.P c (j / 64) && G1 (c:Int) (j % 64) && !q.P j)=(decide (j<64*n) && (dlS (z8f n st (kpS l)) (ob n { st with O:=kpO st (kpS l) }) n (j / 64) == (1,(c:Int),0)) && G1 (c:Int) (j % 64) && !Y9 (kpO st (kpS l) j))
  rw[<-hS,<-hP];by_cases hj:j<64*n
  ·have hPj:q.P j=Y9 (kpO st (kpS l) j):=by rw[hP];show (decide (j<64*n) && Y9 (kpO st (kpS l) j))=_;simp[hj]
   rw[hPj];have:z8e q.S q.P c (j / 64)=(dlS q.S q.P n (j / 64) == (1,(c:Int),0)):=by
    unfold z8e dlS z5l;have mU:j / 64<n:=by omega
    rcases hg.cases (i:=j / 64) mU with e | ⟨d,d1,d2,e⟩ | ⟨k,_,_,_,e⟩ | e
    ·rw[e];simp
    ·rw[e];cases hcn:(z8k q.P (64*(j / 64)) (64*(j / 64)+64) == 0) with
     | true=>simp[mU]
     | false=>
      simp[mU];rw[Bool.eq_iff_iff];simp
    ·rw[e];simp
    ·rw[e];simp
   rw[this];simp[hj,show j / 64<n from by omega]
  ·simp[hj,show ¬ j / 64<n from by omega]
 ·exact hP
 ·exact hM
 ·exact hR
 ·exact hL
theorem j4m {S:Nat->Bool} {a:Nat} (hS:S a=true) (b:Nat) (h:a<b):cnt S b ≠ 0:=fun h0=>by
 have:=j9e h0 a h;rw[hS] at this;cases this
theorem z5z {S:Nat->Int × Int × Int} {P:Nat->Bool} {m p:Nat} (h:(S p).1 ≠ 1):dlS S P m p=S p:=by
 unfold dlS z5l;simp[h]
theorem j9x {n m:Nat} {S:Nat->Int × Int × Int} {P:Nat->Bool} (hg:Good n S):Good n (dlS S P m):=by
 intro i hi;unfold PgOk;rcases hg i hi with e | ⟨c,c1,c2,e⟩ | ⟨k,k1,k2,k3,e,k4⟩ | ⟨e,h,k,h1,h2,h3⟩
 ·exact .inl (by rw[z5z (by rw[e];simp),e])
 ·unfold dlS;cases hb:(decide (i<m) && z5l S P i) with
  | true=>exact .inl (by simp)
  | false=>exact .inr (.inl ⟨c,c1,c2,by simp[e]⟩)
 ·refine .inr (.inr (.inl ⟨k,k1,k2,k3,by rw[z5z (by rw[e];simp),e],fun j j1 j2=>?_⟩));have:=k4 j j1 j2;rw[z5z (by rw[this];simp),this]
 ·exact .inr (.inr (.inr ⟨by rw[z5z (by rw[e];simp),e],h,k,h1,h2,by rw[z5z (by rw[h3];simp),h3]⟩))
theorem j0k {n:Nat} {st:Sp} {l:List Int} (hI:Inv n st):Inv n (z0r n st l):=by
 obtain⟨kp,hkp⟩:∃ kp,kpS l=kp:=⟨_,rfl⟩
 obtain⟨e1,e2,e3⟩:=z8n n (q7y n st (kpS l)) 8;have hS:(z0r n st l).S=dlS (z8f n st kp) (ob n { st with O:=kpO st kp }) n:=by rw[<-hkp];exact e1
 have hO:(z0r n st l).O=kpO st kp:=by rw[<-hkp];exact e2
 have hL:(z0r n st l).last=st.last:=e3;have hg:=j5o (kp:=kp) hI;have hk:∀ a,Y9 (kpO st kp a)=true->Y9 (st.O a)=true/\kp a=true/\kpO st kp a=st.O a:=fun a h=>by
  rw[z4p,Bool.and_eq_true] at h;exact⟨h.1,h.2,by unfold kpO;rw[if_pos h.2]⟩
 -- the page of a kept object is as it was
 have hpg:∀ a,Y9 (kpO st kp a)=true->a<64*n->dlS (z8f n st kp) (ob n { st with O:=kpO st kp }) n (a / 64)=st.S (a / 64):=fun a h ha=>by
  obtain⟨h1,h2,h3⟩:=hk a h;have hng:z2n (J0 n st) kp (64*n) (a / 64)=false:=by
   cases eg:z2n (J0 n st) kp (64*n) (a / 64) with
   | false=>rfl
   | true=>
    obtain⟨a',b,g1,g2,g3,g4,g5,g6⟩:=goneP_iff.1 eg;obtain⟨rfl,gh⟩:=z5k g3;have gk:kp a'=false:=by unfold z2x at g2;rw[Bool.and_eq_true] at g2;simpa using g2.2
    have gP:(J0 n st).P a'=true:=by unfold z2x at g2;rw[Bool.and_eq_true] at g2;exact g2.1
    have aP:(J0 n st).P a=true:=by show ob n st a=true;unfold ob;simp[ha,h1]
    obtain⟨_,_,i3⟩:=hI.objs a' gh;rcases i3 with ⟨i3,_⟩ | ⟨_,i4,i5⟩
    ·omega
    have hr:U1 (st.O a').2.1=(((st.O a').2.1+63) / 64).toNat*64:=by unfold U1;rw[if_pos g4]
    by_cases eR:a'<a
    ·have:=(z6o hI a' _ gP g3).2.2.2 a eR aP;omega
    ·by_cases he:a'=a
     ·subst he;rw[h2] at gk;cases gk
     ·omega
  unfold dlS z8f;rw[hng];have hc:z8k (ob n { st with O:=kpO st kp }) (64*(a / 64)) (64*(a / 64)+64) ≠ 0:=by
   unfold z8k;refine j4m (a:=a) ?_ _ (by omega)
   show (decide (64*(a / 64)<=a) && (decide (a<64*n) && Y9 (kpO st kp a)))=true
   rw[h];simp;omega
  have hb:z5l (fun q=>if z2n (J0 n st) kp (64*n) q=true then (0,0,0) else st.S q) (ob n { st with O:=kpO st kp }) (a / 64)=false:=by
   unfold z5l;simp[hc]
  rw[hb];simp
 refine⟨hI.n1,hI.n2,?_,?_,?_,?_,?_,?_,?_⟩
 ·rw[hS];exact j9x hg
 ·rw[hO,hS];intro a h;obtain⟨h1,h2,h3⟩:=hk a h;have ho:=hI.objs a h1;rw[h3];refine⟨ho.1,ho.2.1,?_⟩;rw[hpg a h ho.1];exact ho.2.2
 ·rw[hO];intro a h;unfold kpO at *;cases hka:kp a with
  | true=>rw[hka] at h;exact hI.none a h
  | false=>rfl
 ·rw[hO,hS];intro p hp h;have h2:(z8f n st kp p).1=2:=by
   unfold dlS at h;cases hb:(decide (p<n) && z5l (z8f n st kp) (ob n { st with O:=kpO st kp }) p) with
   | true=>rw[hb] at h;simp at h
   | false=>rw[hb] at h;simpa using h
  cases hgp:z2n (J0 n st) kp (64*n) p with
  | true=>unfold z8f at h2;rw[hgp] at h2;simp at h2
  | false=>
   have h3:(st.S p).1=2:=by unfold z8f at h2;rw[hgp] at h2;simpa using h2
   have hh:=hI.heads p hp h3;rw[z4p,hh];cases hka:kp (64*p) with
   | true=>rfl
   | false=>
    exfalso
    have hP:(J0 n st).P (64*p)=true:=by show ob n st (64*p)=true;unfold ob;simp[hh];omega
    obtain⟨b,hb⟩:=z1f st (64*p) hP;obtain⟨rfl,_⟩:=z5k hb;obtain⟨_,_,i3⟩:=hI.objs (64*p) hh;rw[show 64*p / 64=p from by omega] at i3;rcases i3 with ⟨_,i4,_⟩ | ⟨i4,_,i5⟩
    ·rw[i4] at h3;simp at h3
    ·have:=(goneP_iff (r:=J0 n st) (kp:=kp) (p:=64*n) (q:=p)).2 ⟨64*p,_,(by omega:64*p<64*n),(by unfold z2x;rw[hP,hka];rfl),hb,i4,(by omega:64*p / 64<=p),(by omega:p<64*p / 64+(((st.O (64*p)).2.1+63) / 64).toNat)⟩;rw[hgp] at this;cases this
 ·rw[hL];exact hI.last0
 ·rw[hO,hL];intro a h;obtain⟨h1,h2,h3⟩:=hk a h;rw[h3];exact hI.ser a h1
 ·rw[hO];intro a b ha hb;obtain⟨h1,h2,h3⟩:=hk a ha;obtain⟨g1,g2,g3⟩:=hk b hb;rw[h3,g3];exact hI.one a b h1 g1
theorem q1w {w:World} {lo hi n cap:Nat} {s:Nat->Nat} {st:Sp} (h:SpAt w lo hi s n cap st) {l:List Int} {p:Option Addr} {cp:Nat} (hl:q1a w p l) (hll:(l.length:Int)<9223372036854775807) :
  Calls Tryz.prog 81 #[.pointer (some ⟨s 14,0,none⟩),.slice p l.length cp] w fun e w'=>Out lo hi w w' ∧
   (((∀ a ∈ l,(obM st a).isSome=true)/\e=.returned (.tuple #[.int .i64 ((U4 (J0 n st) (kpS l) (64*n):Nat):Int),.int .i64 0])/\SpAt w' lo hi s n cap (z0r n st l)) ∨
    ((∃ a ∈ l,obM st a=none)/\e=.returned (.tuple #[.int .i64 0,.int .i64 22])/\SpAt w' lo hi s n cap st)):=by
 refine(x0c h.1 (z1f st) (z6o h.2) (j6e h.2) hl hll).mono ?_;rintro e w' ⟨o,⟨h1,h2,h3⟩ | ⟨h1,h2,h3⟩⟩
 ·exact⟨o,.inl ⟨h1,h2,by rw[x0e h.2] at h3;exact h3,j0k h.2⟩⟩
 ·exact⟨o,.inr ⟨h1,h2,h3,h.2⟩⟩
theorem q1v {z:Int} (h:z<=32):U1 z=wN (ofV z):=by unfold U1;rw[if_neg (by omega)]
theorem q1u {z:Int} (h:32<z):U1 z=((z+63) / 64).toNat*64:=by unfold U1;rw[if_pos h]
section
variable {n a:Nat} {st:Sp} {aV:Bool} {kd z t:Int}
theorem j6z:z0c st.O a (kd,z,Y6 st kd,t) a=(kd,z,Y6 st kd,t):=by unfold z0c;rw[if_pos rfl]
end
theorem z5g {n:Nat} {W:Nat->Int} {p v:Int} {i:Nat} (h:(i:Int) ≠ p):F8 n W p v i=W i:=by
 unfold F8 z3a;split
 ·rename_i hb
  obtain⟨k,rfl,_,_⟩:=z7d hb
  show (if i=((k:Nat):Int).toNat then v else W i)=W i
  rw[if_neg (by omega)]
 ·rfl
theorem q3j {n i:Nat} {W:Nat->Int} {v:Int} (h:i<64*n):F8 n W (i:Int) v i=v:=by
 unfold F8 z3a inB;rw[if_pos (by simp;omega)]
 show (if i=((i:Nat):Int).toNat then v else W i)=v
 rw[if_pos (by omega)]
theorem x5h {z:Int} (h1:1<=z) (h2:z<=1024):z<=(U1 z:Int):=by
 by_cases h:32<z
 ·rw[q1u h];omega
 ·rw[q1v (by omega)];unfold wN ofV;repeat' split
  all_goals first | omega | (unfold Y5;simp;omega)
theorem x2x {n a:Nat} {st:Sp} (ha:Y9 (st.O a)=true):(J0 n st).M (a:Int)=some (st.O a):=by
 show obM st (a:Int)=_
 unfold obM;rw[show ((a:Int)).toNat=a from by omega,if_pos ⟨by omega,ha⟩]
theorem z2h {T:TypeId} {z:Value} {a b:Nat} (h:(Tryz.prog.info? T).map (fun i=>(i.zero,i.size,i.bytes))=some (some z,a,b)):∃ i,Tryz.prog.info? T=some i/\i.zero=some z/\i.size=a/\i.bytes=b:=by
 cases hi:Tryz.prog.info? T with
 | none=>rw[hi] at h;cases h
 | some i=>rw[hi] at h;simp at h;exact⟨i,rfl,h.1,h.2.1,h.2.2⟩
def pkU:List Int->Int
 | []=>0
 | b :: bs=>b+256*pkU bs
def Byt (bs:List Int):Prop:=∀ b ∈ bs,0<=b/\b<=255
theorem x1a (bs:List Int) (b:Int):pkU (bs ++ [b])=pkU bs+256 ^ bs.length*b:=by
 induction bs with
 | nil=>simp[pkU]
 | cons c cs ih=>
  show c+256*pkU (cs ++ [b])=c+256*pkU cs+256 ^ (cs.length+1)*b
  rw[ih,Int.pow_succ,Int.mul_add,Int.mul_comm (256 ^ cs.length) 256,Int.mul_assoc];omega
theorem x7q {bs:List Int} (h:Byt bs):0<=pkU bs/\pkU bs<256 ^ bs.length:=by
 induction bs with
 | nil=>simp[pkU]
 | cons c cs ih=>
  have h1:=h c (by simp);have h2:=ih fun b hb=>h b (by simp[hb])
  show 0<=c+256*pkU cs/\c+256*pkU cs<256 ^ (cs.length+1)
  rw[Int.pow_succ];omega
theorem or_u (c t:Int) (k:Nat) (h1:0<=c) (h2:c*2 ^ k+t<18446744073709551616) (t1:0<=t) (t2:t<2 ^ k):bits .or .u64 t (c*2 ^ k)=t+c*2 ^ k:=by
 have hp:(0:Int)<2 ^ k:=Int.pow_pos (by decide);have hc:0<=c*2 ^ k:=Int.mul_nonneg h1 (Int.le_of_lt hp);have e:bits .or .u64 t (c*2 ^ k)=IntKind.wrap .u64 ((BitVec.ofInt 64 t ||| BitVec.ofInt 64 (c*2 ^ k)).toNat:Nat):=rfl;have e1:(c*2 ^ k % 18446744073709551616).toNat=2 ^ k*c.toNat:=by
  rw[Int.emod_eq_of_lt hc (by omega),Int.toNat_mul h1 (Int.le_of_lt hp),Nat.mul_comm];congr 1
 have e2:(t % 18446744073709551616).toNat=t.toNat:=by omega
 have e3:t.toNat<2 ^ k:=by
  have:((2 ^ k:Nat):Int)=(2:Int) ^ k:=by simp
  omega
 have h:(BitVec.ofInt 64 t ||| BitVec.ofInt 64 (c*2 ^ k)).toNat=2 ^ k*c.toNat+t.toNat:=by
  rw[BitVec.or_comm,BitVec.toNat_or,z1q,z1q,e1,e2,Nat.two_pow_add_eq_or_of_lt e3]
 have e4:((2 ^ k*c.toNat+t.toNat:Nat):Int)=c*2 ^ k+t:=by
  rw[Int.natCast_add,Int.natCast_mul,Int.toNat_of_nonneg h1,Int.toNat_of_nonneg t1,Int.natCast_pow,Int.mul_comm];simp
 rw[e,h,e4];generalize c*2 ^ k=z at *
 simp[IntKind.wrap,IntKind.signed,IntKind.bits];omega
theorem x2w (i:Nat):(256:Int) ^ i=2 ^ (8*i):=by
 rw[Int.pow_mul];rfl
theorem j6y {i:Nat} (h:i<8):(2:Int) ^ (8*i)<=72057594037927936:=by
 have:i=0\/i=1\/i=2\/i=3\/i=4\/i=5\/i=6\/i=7:=by omega
 rcases this with rfl | rfl | rfl | rfl | rfl | rfl | rfl | rfl <;> decide
theorem j6s {bs:List Int} {i:Nat} {b:Int} (h:Byt bs) (hb:bs[i]? = some b) (h8:i<8):bits .or .u64 (pkU (bs.take i)) (IntKind.u64.wrap (b*2 ^ (8*i)))=pkU (bs.take (i+1)):=by
 have hi:=(List.getElem?_eq_some_iff.1 hb).1;have hbb:=h b (List.mem_of_getElem? hb);have hl:=x7q (bs:=bs.take i) fun c hc=>h c (List.mem_of_mem_take hc)
 have cJ:(bs.take i).length=i:=by rw[List.length_take];omega
 rw[cJ,x2w] at hl;have hp:=j6y h8;have hp0:(0:Int)<2 ^ (8*i):=Int.pow_pos (by decide);have hm:b*2 ^ (8*i)<=255*72057594037927936:=Int.le_trans (Int.mul_le_mul_of_nonneg_right hbb.2 (Int.le_of_lt hp0)) (Int.mul_le_mul_of_nonneg_left hp (by decide));have hm0:0<=b*2 ^ (8*i):=Int.mul_nonneg hbb.1 (Int.le_of_lt hp0);have hw:IntKind.u64.wrap (b*2 ^ (8*i))=b*2 ^ (8*i):=by
  generalize b*2 ^ (8*i)=z at *
  simp[IntKind.wrap,IntKind.signed,IntKind.bits];omega
 rw[hw,or_u b _ (8*i) hbb.1 (by generalize b*2 ^ (8*i)=z at *;omega) hl.1 hl.2];rw[List.take_add_one,hb]
 show _=pkU (bs.take i ++ [b])
 rw[x1a,cJ,x2w,Int.mul_comm b]
def z1u (w:World) (p:Option Addr) (bs:List Int):Prop:=Byt bs/\(bs=[]\/∃ g cX,p=some ⟨g,cX,none⟩/\∀ j b,bs[j]? = some b->w.cell? ⟨g,cX+j,none⟩=some (.int .u8 b))
theorem x0y {w:World} {p:Option Addr} {bs:List Int} {cap:Nat} (h:z1u w p bs) (h8:bs.length<=8) :
  Kz 121 #[.slice p bs.length cap] w fun e w'=>e=.returned (Iz (wrap64 (pkU bs)))/\w'=w:=by
 have HB:=Q3 h;clear h;go_enter Tryz.func121,Tryz.ntmps121
 go_wp2_with fail;go_loopw [3,8] (fun x y wr=>∃ i:Nat,i<=bs.length/\x=.int .u64 (pkU (bs.take i))/\y=Iz i/\wr=w) (fun _ y _=>bs.length-(intOf y).toNat)
 case atStart=>exact⟨0,Nat.zero_le _,by simp[pkU],rfl,rfl⟩
 case round=>
  obtain⟨i,i1,rfl,rfl,rfl⟩:=hrel;have i0:(0:Int)<=(i:Int):=by omega
  by_cases oQ:i<bs.length
  ·have g1:(i:Int)<(bs.length:Int):=by omega
   have g8:(i:Int)<8:=by omega
   obtain⟨b,hb⟩:∃ b,bs[i]? = some b:=⟨_,List.getElem?_eq_getElem oQ⟩
   have hbb:=HB.out.1 b (List.mem_of_getElem? hb);rcases HB.out.2 with e | ⟨g,cX,rfl,hc⟩
   ·rw[e] at oQ;simp at oQ
   have c1:=hc i b hb;obtain⟨x,hx⟩:∃ x,pkU (bs.take i)=x:=⟨_,rfl⟩
   rw[hx];clear hc;go_wp2_with fail;rw[<-hx];refine⟨⟨i+1,oQ,?_,by go_num,trivial⟩,?_⟩
   ·rw[j6s HB.out.1 hb (by omega)]
   ·simp[intOf];omega
  ·have g1:(bs.length:Int)<=(i:Int):=by omega
   have e:i=bs.length:=by omega
   subst e;go_wp2;go_ret;rw[List.take_length];exact⟨rfl,rfl⟩
end Go.Proofs.YtjgnogflgoihfaaGreatDoor
