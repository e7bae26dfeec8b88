import Derived.Test.YtjbbkeoolodeaabGreatDoorB17
namespace Go.Proofs.YtjbbkeoolodeaabGreatDoor
open Go.RowKit
set_option linter.unusedVariables false
set_option maxRecDepth 100000
set_option maxHeartbeats 16000000
set_option linter.unusedSimpArgs false
theorem x0u {n:Nat} {r:Raw} {T:Nat->Int × Int × Int} {fr fs:Nat->Int} (h:PlOk n fr fs) {c:Nat} (hc:c<8):PlOk n (plB n r T fr fs c).2.2.1 (plB n r T fr fs c).2.2.2:=by
 unfold plB;by_cases h1:0<fs c
 ·rw[if_pos h1];refine⟨h.fr,fun d hd=>?_⟩
  show 0<=z3k fs c (fs c-1) d/\z3k fs c (fs c-1) d<=32
  unfold z3k;by_cases e:d=c
  ·rw[if_pos e];have:=h.fs c hc;omega
  ·rw[if_neg e];exact h.fs d hd
 ·rw[if_neg h1];rcases Q1 (r.F c) (64*n) (fr c).toNat with ⟨e1,_⟩ | ⟨m,e1,e2,_⟩
  ·rw[e1,if_neg (by omega)];by_cases h5:tcE T n (c:Int)=0
   ·rw[if_pos h5];refine⟨h.fr,fun d hd=>?_⟩
    show 0<=z3k fs c (J6 (c:Int)-1) d/\z3k fs c (J6 (c:Int)-1) d<=32
    unfold z3k;by_cases e:d=c
    ·rw[if_pos e];obtain⟨x',y',h1,h2,h3,h4⟩:=z0c hc;omega
    ·rw[if_neg e];exact h.fs d hd
   ·rw[if_neg h5];exact h
  ·rw[e1,if_pos (by omega)];refine⟨fun d hd=>?_,h.fs⟩
   show 0<=z3k fr c ((m:Int)+1) d/\z3k fr c ((m:Int)+1) d<=64*(n:Int)
   unfold z3k;by_cases e:d=c
   ·rw[if_pos e];omega
   ·rw[if_neg e];exact h.fr d hd
theorem x2f {n:Nat} {r:Raw} {T:Nat->Int × Int × Int} {fr fs:Nat->Int} (h:PlOk n fr fs) (z:Int):PlOk n (plT n r T fr fs z).2.2.1 (plT n r T fr fs z).2.2.2:=by
 unfold plT;by_cases h1:0<J4 z
 ·rw[if_pos h1];exact h
 ·rw[if_neg h1];by_cases h2:0<=ofV z
  ·rw[if_pos h2];obtain⟨c,hc,hc8⟩:=j4c z h1 h2;rw[hc,show ((c:Int)).toNat=c from by omega];exact x0u h hc8
  ·rw[if_neg h2];exact h
def z5d (n:Nat) (r:Raw):(Nat->Int × Int × Int)->(Nat->Int)->(Nat->Int)->List Int->Bool
 | _,_,_,[]=>true
 | T,fr,fs,z :: l=>(plT n r T fr fs z).1 && z5d n r (plT n r T fr fs z).2.1 (plT n r T fr fs z).2.2.1 (plT n r T fr fs z).2.2.2 l
section
variable {w:World} {lo hi n cap:Nat} {s:Nat->Nat} {r:Raw}
theorem q8g (h:RawAt w lo hi s n cap r) {l:List Int} {p:Option Addr} {cp:Nat} (hl:z5u w p l) (hll:(l.length:Int)<9223372036854775807) :
  Calls Tryz.prog 29 #[.pointer (some ⟨s 14,0,none⟩),.slice p l.length cp] w fun e w'=>e=.returned (.bool (z5d n r r.S (fun _=>0) (fun _=>0) l))/\Out 0 0 w w':=by
 have HR:=Z0 h;have HLi:=Z0 hl;have HT:Hid (hi<=w.heap.size/\4<=w.heap.size):=⟨h.top,h.tab.lt⟩
 clear h hl;go_enter Tryz.func29,Tryz.ntmps29
 go_wp2_with (go_at_call 49;refine Z5 (z0f _ _) ?_);obtain⟨W1,hW1⟩:∃ W1,w.alloc (.cells #[.pointer (some ⟨s 14,0,none⟩),.pointer none,.int .i64 0,.int .i64 0,.int .i64 0,.int .i64 0,.int .i64 0,.int .i64 0,.int .i64 0,.int .i64 0,.int .i64 0,.int .i64 0,.int .i64 0,.int .i64 0,.int .i64 0,.int .i64 0,.int .i64 0,.int .i64 0] 115)=W1:=⟨_,rfl⟩
 obtain⟨G,hG⟩:∃ G,w.heap.size=G:=⟨_,rfl⟩
 have HO1:Hid (Out 0 0 w W1):=by rw[<-hW1];exact(Out.refl 0 0 w).alloc _
 have HP1:Hid (Row W1 G 115 18 (plF (s 14) (.pointer none) (fun _=>0) (fun _=>0))):=by
  rw[<-hW1,<-hG];refine⟨_,heap_alloc_new _ _,by simp,fun i hi=>?_⟩;have:i=0\/i=1\/i=2\/i=3\/i=4\/i=5\/i=6\/i=7\/i=8\/i=9\/i=10\/i=11\/i=12\/i=13\/i=14\/i=15\/i=16\/i=17:=by omega
  rcases this with rfl | rfl | rfl | rfl | rfl | rfl | rfl | rfl | rfl | rfl | rfl | rfl | rfl | rfl | rfl | rfl | rfl | rfl <;> rfl
 rw[hW1,hG];rw[hG] at HT;have HGw:=Z0 hG;clear hW1 hG;go_loopw [13] (fun u wr=>∃ (i:Nat) (T:Nat->Int × Int × Int) (fr fs:Nat->Int) (tb:Value),u=.int .i64 (i:Int)/\i<=l.length/\PlOk n fr fs/\RawAt wr lo hi s n cap r/\Row wr G 115 18 (plF (s 14) tb fr fs)/\TbAt wr G G n r.S T tb/\z5d n r r.S (fun _=>0) (fun _=>0) l=z5d n r T fr fs (l.drop i)/\Out 0 0 w wr) (fun u _=>((l.length:Int)-intOf u).toNat)
 case atStart=>exact⟨0,r.S,fun _=>0,fun _=>0,.pointer none,rfl,Nat.zero_le _,⟨fun c _=>⟨Int.le_refl _,by omega⟩,fun c _=>⟨Int.le_refl _,by omega⟩⟩,HR.out.quiet HO1.out,HP1.out,.inl ⟨rfl,rfl⟩,rfl,HO1.out⟩
 case round=>
  clear HP1 HO1;obtain⟨i,T,fr,fs,tb,rfl,i1,i2,i3,i4,i5,i6,i7⟩:=hrel;have j0:(0:Int)<=(i:Int):=by omega
  by_cases hlt:(i:Int)<(l.length:Int)
  ·obtain⟨g,rfl,hg,hgc⟩:∃ g,p=some ⟨g,0,none⟩/\g<w.heap.size/\∀ j,j<l.length->w.cell? ⟨g,j,none⟩=some (.int .i64 (l[j]?.getD 0)):=by
    rcases HLi.out with e | e
    ·rw[e] at hlt;simp at hlt;omega
    ·exact e
   have q0:=i7.cell (hgc i (by omega)) z0;obtain⟨z,hz⟩:∃ z,l[i]?.getD 0=z:=⟨_,rfl⟩
   rw[hz] at q0;have hdr:l.drop i=z :: l.drop (i+1):=by
    rw[List.drop_eq_getElem_cons (by omega)];rw[List.getElem?_eq_getElem (by omega)] at hz;simp at hz;rw[hz]
   rw[hdr] at i6;have hpk:=x2f (r:=r) (T:=T) i2 z;have HTk:=Z0 (q2f i3 HT.out.1 (Nat.le_refl G) i4 i5 i2 z);rw[show z5d n r T fr fs (z :: l.drop (i+1))=((plT n r T fr fs z).1 && z5d n r (plT n r T fr fs z).2.1 (plT n r T fr fs z).2.2.1 (plT n r T fr fs z).2.2.2 (l.drop (i+1))) from rfl] at i6;obtain⟨⟨ok,T',fr',fs'⟩,hq⟩:∃ q,plT n r T fr fs z=q:=⟨_,rfl⟩
   rw[hq] at HTk hpk i6;dsimp only at HTk hpk i6;have A:=Z0 (And.intro i3 (And.intro i7 (And.intro hpk i6)));clear i2 i3 i4 i5 i6 i7 hz hdr hq hpk hg hgc;cases ok with
   | true=>
    go_wp2_with (go_at_call 71;refine HTk.out.mono ?_;rintro e w6 ⟨tb',rfl,hp6,ht6,ho6⟩;have HP6:=Z0 hp6;have HT6:=Z0 ht6;have HO6:=Z0 ho6;clear hp6 ht6 ho6);have hgw:=HGw.out;have hT:=HT.out;exact⟨⟨i+1,T',fr',fs',tb',by congr 1,by omega,A.out.2.2.1,A.out.1.kept HO6.out (.inl (by omega)) (.inl (by omega)),HP6.out,HT6.out,by rw[A.out.2.2.2];rfl,A.out.2.1.past HO6.out (by omega)⟩,by simp[intOf];omega⟩
   | false=>
    go_wp2_with (go_at_call 71;refine HTk.out.mono ?_;rintro e w6 ⟨tb',rfl,hp6,ht6,ho6⟩;have HO6:=Z0 ho6;clear hp6 ht6 ho6);go_ret;have hgw:=HGw.out;exact⟨K8 (by rw[A.out.2.2.2];rfl),A.out.2.1.past HO6.out (by omega)⟩
  ·have e:i=l.length:=by omega
   subst e;rw[List.drop_length] at i6;have A:=Z0 (And.intro i6 i7);clear i2 i3 i4 i5 i6 i7;go_wp2;go_ret;exact⟨K8 (by rw[A.out.1];rfl),A.out.2⟩
end
theorem B7 {n:Nat} (st:Sp):z8q (Z6 n st):=by
 intro a ha;have h:ob n st a=true:=ha;unfold ob at h;rw[Bool.and_eq_true] at h;refine⟨st.O a,?_⟩
 show obM st (a:Int)=_
 unfold obM;rw[show ((a:Int)).toNat=a from by omega,if_pos ⟨by omega,h.2⟩]
theorem j2l {n:Nat} {st:Sp} (hI:Inv n st):∀ a b,(Z6 n st).M a=some b->∃ j:Nat,a=j/\j<64*n:=by
 intro a b h;have h':obM st a=some b:=h;unfold obM at h';by_cases e:0<=a/\Q7 (st.O a.toNat)=true
 ·exact⟨a.toNat,by omega,(hI.objs _ e.2).1⟩
 ·rw[if_neg e] at h';cases h'
theorem z3q {n:Nat} {st:Sp} {a:Nat} {b:Blk} (h:(Z6 n st).M (a:Int)=some b):b=st.O a/\Q7 (st.O a)=true:=by
 have h':obM st (a:Int)=some b:=h;unfold obM at h';rw[show ((a:Int)).toNat=a from by omega] at h';by_cases e:(0:Int)<=(a:Int)/\Q7 (st.O a)=true
 ·rw[if_pos e] at h';cases h';exact⟨rfl,e.2⟩
 ·rw[if_neg e] at h';cases h'
theorem q6i {a b x:Nat} (hx:0<x) (ha:a % x=0) (hb:b % x=0) (h:a<b):a+x<=b:=by
 obtain⟨p,rfl⟩:=Nat.dvd_of_mod_eq_zero ha;obtain⟨q,rfl⟩:=Nat.dvd_of_mod_eq_zero hb;have:p<q:=Nat.lt_of_mul_lt_mul_left h
 calc x*p+x=x*(p+1):=by rw[Nat.mul_succ]
  _<=x*q:=Nat.mul_le_mul_left _ this
theorem z3i {n:Nat} {st:Sp} (hI:Inv n st):q7x n (Z6 n st):=by
 intro a b ha hb;obtain⟨rfl,hh⟩:=z3q hb;obtain⟨h1,h2,h3⟩:=hI.objs a hh;obtain⟨_,_,h4,h5⟩:=J8 h2;obtain⟨k,z,x,t,hO⟩:∃ k z x t,st.O a=(k,z,x,t):=⟨_,_,_,_,rfl⟩
 rw[hO] at h2 h3 h4 h5 ⊢;dsimp only at h2 h3 h4 h5 ⊢;refine⟨h4,h5,?_⟩;have hother:∀ a',(Z6 n st).P a'=true->ObOk n st.S a' (st.O a'):=fun a' h'=>by
  have:ob n st a'=true:=h';unfold ob at this;rw[Bool.and_eq_true] at this;exact hI.objs a' this.2
 rcases h3 with ⟨s1,s2,s3⟩ | ⟨s1,s2,s3⟩
 ·obtain⟨c,hc,hc8⟩:=j4c z (by unfold J4;rw[if_neg (by omega)];omega) (by unfold ofV;repeat' split;all_goals omega);obtain⟨w',y',e1,e2,e3,e4⟩:=z0c hc8;have hw:J3 z=w':=by unfold J3;rw[if_neg (by omega),hc,e2]
  rw[hw];rw[hc] at s2 s3;unfold K7 at s3;rw[Bool.and_eq_true,e2] at s3;have s4:a % 64 % w'=0:=by simpa using s3.1
  have s5:a % 64+w'<=64:=by simpa using s3.2
  refine⟨by omega,fun a' h6 h7=>?_⟩;by_cases hpg:a' / 64=a / 64
  ·obtain⟨o1,o2,o3⟩:=hother a' h7;rcases o3 with ⟨o4,o5,o6⟩ | ⟨o4,o5,o6⟩
   ·rw[hpg,s2] at o5;have oc:ofV (st.O a').2.1=(c:Int):=by simp at o5;omega
    rw[oc] at o6;unfold K7 at o6;rw[Bool.and_eq_true,e2] at o6;have o7:a' % 64 % w'=0:=by simpa using o6.1
    have:=q6i (a:=a % 64) (b:=a' % 64) (x:=w') (by omega) s4 o7 (by omega);omega
   ·rw[hpg,s2] at o6;simp at o6
  ·omega
 ·have hw:J3 z=((z+63) / 64).toNat*64:=by unfold J3;rw[if_pos s1]
  obtain⟨m,hm⟩:∃ m:Nat,(z+63) / 64=(m:Int):=⟨((z+63) / 64).toNat,by omega⟩
  rw[hm] at s3 hw;rw[hw,show ((m:Int)).toNat=m from by omega];rcases hI.good (a / 64) (by omega) with e | ⟨c,_,_,e⟩ | ⟨q,q1,q2,q3,e,q4⟩ | ⟨e,_⟩
  ·rw[s3] at e;simp at e
  ·rw[s3] at e;simp at e
  ·rw[s3] at e;have:m=q:=by simp at e;omega
   subst this;refine⟨by omega,fun a' h6 h7=>?_⟩;by_cases hpg:a / 64<a' / 64/\a' / 64<a / 64+m
   ·have e3:=q4 (a' / 64) hpg.1 hpg.2;obtain⟨o1,o2,o3⟩:=hother a' h7;rcases o3 with ⟨o4,o5,o6⟩ | ⟨o4,o5,o6⟩
    ·rw[e3] at o5;simp at o5
    ·rw[e3] at o6;simp at o6
   ·by_cases hsame:a' / 64=a / 64
    ·obtain⟨o1,o2,o3⟩:=hother a' h7;rcases o3 with ⟨o4,o5,o6⟩ | ⟨o4,o5,o6⟩
     ·rw[hsame,s3] at o5;simp at o5
     ·omega
    ·omega
  ·rw[s3] at e;simp at e
def z1l (r:Raw) (kp:Nat->Bool) (a:Nat):Bool:=r.P a && !kp a
theorem z2d (n:Nat) (r:Raw) (kp:Nat->Bool) (p:Nat):Q6 n r kp (p+1)=if r.P p && !kp p then (match r.M (p:Int) with | some b=>drR n (Q6 n r kp p) p b.2.1 b.2.2.1 | none=>Q6 n r kp p) else Q6 n r kp p:=rfl
theorem j6m {n:Nat} {r:Raw} {kp:Nat->Bool} (hT:z8q r):∀ (p:Nat) (i:Int),(Q6 n r kp p).M i=if 0<=i/\i.toNat<p/\z1l r kp i.toNat=true then none else r.M i
 | 0,i=>by rw[if_neg (by omega)];rfl
 | p+1,i=>by
  have ih:=j6m (n:=n) (kp:=kp) hT p i;rw[z2d];cases e:(r.P p && !kp p) with
  | false=>
   rw[if_neg (by simp),ih];by_cases h:0<=i/\i.toNat<p/\z1l r kp i.toNat=true
   ·rw[if_pos h,if_pos ⟨h.1,by omega,h.2.2⟩]
   ·rw[if_neg h,if_neg ?_];rintro⟨h1,h2,h3⟩;by_cases ep:i.toNat=p
    ·rw[ep] at h3;unfold z1l at h3;rw[e] at h3;cases h3
    ·exact h ⟨h1,by omega,h3⟩
  | true=>
   rw[if_pos rfl];obtain⟨b,hb⟩:=hT p (by rw[Bool.and_eq_true] at e;exact e.1);rw[hb]
   show (if i=(p:Int) then none else (Q6 n r kp p).M i)=_
   by_cases ei:i=(p:Int)
   ·rw[if_pos ei,if_pos ⟨by omega,by omega,by rw[ei,show ((p:Int)).toNat=p from by omega];exact e⟩]
   ·rw[if_neg ei,ih];by_cases h:0<=i/\i.toNat<p/\z1l r kp i.toNat=true
    ·rw[if_pos h,if_pos ⟨h.1,by omega,h.2.2⟩]
    ·rw[if_neg h,if_neg (fun h'=>h ⟨h'.1,by omega,h'.2.2⟩)]
def q1a (r:Raw) (kp:Nat->Bool) (p:Nat) (x:Int):Bool:=(List.range p).any fun a=>z1l r kp a && (match r.M (a:Int) with | some b=>b.2.2.1 == x | none=>false)
theorem q7t (r:Raw) (kp:Nat->Bool) (p:Nat) (x:Int):q1a r kp (p+1) x=(q1a r kp p x || (z1l r kp p && (match r.M (p:Int) with | some b=>b.2.2.1 == x | none=>false))):=by
 unfold q1a;rw[List.range_succ,List.any_append];simp
theorem j7b {n:Nat} {r:Raw} {kp:Nat->Bool} (hT:z8q r):∀ (p:Nat) (x:Int),(Q6 n r kp p).R x=if q1a r kp p x=true then none else r.R x
 | 0,x=>by rw[if_neg (by unfold q1a;simp)];rfl
 | p+1,x=>by
  have ih:=j7b (n:=n) (kp:=kp) hT p x;rw[z2d,q7t];cases e:(r.P p && !kp p) with
  | false=>
   have e':z1l r kp p=false:=e;rw[if_neg (by simp),ih,e'];simp
  | true=>
   have e':z1l r kp p=true:=e;rw[if_pos rfl,e'];obtain⟨b,hb⟩:=hT p (by rw[Bool.and_eq_true] at e;exact e.1);rw[hb]
   show (if x=b.2.2.1 then none else (Q6 n r kp p).R x)=_
   by_cases ex:x=b.2.2.1
   ·rw[if_pos ex,if_pos (by rw[ex];simp)]
   ·rw[if_neg ex,ih];have:(b.2.2.1 == x)=false:=by simpa using fun h=>ex h.symm
    simp[this]
def z1f (r:Raw) (kp:Nat->Bool) (p q:Nat):Bool:=(List.range p).any fun a=>z1l r kp a && (match r.M (a:Int) with | some b=>decide (32<b.2.1/\a / 64<=q/\q<a / 64+((b.2.1+63) / 64).toNat) | none=>false)
theorem q7j (r:Raw) (kp:Nat->Bool) (p q:Nat):z1f r kp (p+1) q=(z1f r kp p q || (z1l r kp p && (match r.M (p:Int) with | some b=>decide (32<b.2.1/\p / 64<=q/\q<p / 64+((b.2.1+63) / 64).toNat) | none=>false))):=by
 unfold z1f;rw[List.range_succ,List.any_append];simp
theorem goneP_iff {r:Raw} {kp:Nat->Bool} {p q:Nat}:z1f r kp p q=true ↔ ∃ a b,a<p/\z1l r kp a=true/\r.M (a:Int)=some b/\32<b.2.1/\a / 64<=q/\q<a / 64+((b.2.1+63) / 64).toNat:=by
 unfold z1f;rw[List.any_eq_true];constructor
 ·rintro⟨a,ha,h⟩;rw[List.mem_range] at ha;rw[Bool.and_eq_true] at h;cases e:r.M (a:Int) with
  | none=>rw[e] at h;exact absurd h.2 (by simp)
  | some b=>
   rw[e] at h;have:=h.2;simp only[decide_eq_true_eq] at this;exact⟨a,b,ha,h.1,e,this.1,this.2.1,this.2.2⟩
 ·rintro⟨a,b,h1,h2,h3,h4,h5,h6⟩;refine⟨a,by rw[List.mem_range];omega,?_⟩;rw[h2,h3];simp only[Bool.true_and,decide_eq_true_eq];exact⟨h4,h5,h6⟩
theorem j7a {n:Nat} {st:Sp} {kp:Nat->Bool} (hI:Inv n st):∀ (p:Nat) (q:Nat),(Q6 n (Z6 n st) kp p).S q=if z1f (Z6 n st) kp p q=true then (0,0,0) else st.S q
 | 0,q=>by rw[if_neg (by unfold z1f;simp)];rfl
 | p+1,q=>by
  have ih:=fun q=>j7a (kp:=kp) hI p q
  rw[z2d,q7j];cases e:((Z6 n st).P p && !kp p) with
  | false=>
   have e':z1l (Z6 n st) kp p=false:=e;rw[if_neg (by simp),ih,e'];simp
  | true=>
   have e':z1l (Z6 n st) kp p=true:=e;rw[if_pos rfl,e'];have hP:(Z6 n st).P p=true:=by rw[Bool.and_eq_true] at e;exact e.1
   obtain⟨b,hb⟩:=B7 st p hP;have hRo:=z3i hI p b hP hb;obtain⟨rfl,hh⟩:=z3q hb;obtain⟨h1,h2,h3⟩:=hI.objs p hh;rw[hb]
   show (if 32<(st.O p).2.1 then gvS (Q6 n (Z6 n st) kp p).S n ((p / 64:Nat):Int) else (Q6 n (Z6 n st) kp p).S) q=_
   by_cases hz:32<(st.O p).2.1
   ·rw[if_pos hz];rcases h3 with ⟨h3,_⟩ | ⟨_,h4,h5⟩
    ·omega
    have hroom:J3 (st.O p).2.1=(((st.O p).2.1+63) / 64).toNat*64:=by unfold J3;rw[if_pos hz]
    have hng:z1f (Z6 n st) kp p (p / 64)=false:=by
     cases eg:z1f (Z6 n st) kp p (p / 64) with
     | false=>rfl
     | true=>
      obtain⟨a,b,g1,g2,g3,g4,g5,g6⟩:=goneP_iff.1 eg;have gP:(Z6 n st).P a=true:=by unfold z1l at g2;rw[Bool.and_eq_true] at g2;exact g2.1
      have:=(z3i hI a b gP g3).2.2.2 p g1 hP;have hr:J3 b.2.1=((b.2.1+63) / 64).toNat*64:=by unfold J3;rw[if_pos g4]
      obtain⟨rfl,gh⟩:=z3q g3;obtain⟨_,_,i3⟩:=hI.objs a gh;rcases i3 with ⟨i3,_⟩ | ⟨_,i4,_⟩
      ·omega
      ·omega
    have hS:(Q6 n (Z6 n st) kp p).S (p / 64)=(2,0,((st.O p).2.1+63) / 64):=by rw[ih,if_neg (by rw[hng];simp),h5]
    unfold gvS z4n;rw[show (((p / 64:Nat):Int)).toNat=p / 64 from by omega,hS];rw[if_pos (by unfold inB;simp;omega)];unfold setF z4t;rw[if_pos rfl];dsimp only;by_cases hq:p / 64<=q/\q<p / 64+(((st.O p).2.1+63) / 64).toNat
    ·rw[if_pos hq,if_pos (by simp[hz,hq])]
    ·rw[if_neg hq,ih];have:decide (32<(st.O p).2.1/\p / 64<=q/\q<p / 64+(((st.O p).2.1+63) / 64).toNat)=false:=by simp only[decide_eq_false_iff_not];exact fun h=>hq h.2
     simp only[this,Bool.and_false,Bool.or_false]
   ·rw[if_neg hz,ih];have:decide (32<(st.O p).2.1/\p / 64<=q/\q<p / 64+(((st.O p).2.1+63) / 64).toNat)=false:=by simp only[decide_eq_false_iff_not];exact fun h=>hz h.1
    simp only[this,Bool.and_false,Bool.or_false]
def z3t (S:Nat->Int × Int × Int) (P:Nat->Bool) (p:Nat):Bool:=(S p).1 == 1 && z6o P (64*p) (64*p+64) == 0
def z6g (S:Nat->Int × Int × Int) (P:Nat->Bool) (c p:Nat):Bool:=(S p).1 == 1 && ((S p).2.1 == (c:Int) && !(z6o P (64*p) (64*p+64) == 0))
def dlS (S:Nat->Int × Int × Int) (P:Nat->Bool) (i:Nat):Nat->Int × Int × Int:=fun p=>if decide (p<i) && z3t S P p then (0,0,0) else S p
def dlF (S:Nat->Int × Int × Int) (P:Nat->Bool) (F:Nat->Nat->Bool) (i:Nat):Nat->Nat->Bool:=fun c j=>F c j || (decide (j / 64<i) && z6g S P c (j / 64) && K7 (c:Int) (j % 64) && !P j)
theorem z2z (p i:Nat):decide (p<i+1)=(decide (p<i) || decide (p=i)):=by
 by_cases h:p<i
 ·simp[h];omega
 ·by_cases e:p=i
  ·simp[e]
  ·simp[h,e];omega
theorem q2t {n:Nat} {q:Raw} (hg:Good n q.S):∀ i,i<=n->dlR n q.S q i={ q with S:=dlS q.S q.P i,F:=dlF q.S q.P q.F i }
 | 0,_=>by
  refine Raw.eq rfl ?_ ?_ rfl rfl rfl rfl
  ·funext p;show q.S p=dlS q.S q.P 0 p;unfold dlS;simp
  ·funext c j;show q.F c j=dlF q.S q.P q.F 0 c j;unfold dlF;simp
 | i+1,hi=>by
  show z8a n q.S (dlR n q.S q i) i=_
  rw[q2t hg i (by omega)];unfold z8a;dsimp only;have hSi:dlS q.S q.P i i=q.S i:=by unfold dlS;simp
  have hSn:∀ (hb:z3t q.S q.P i=false),dlS q.S q.P (i+1)=dlS q.S q.P i:=fun hb=>by
   funext p
   unfold dlS;rw[z2z];by_cases e:p=i
   ·subst e;simp[hb]
   ·simp[e]
  have hFn:∀ (hb:∀ c,z6g q.S q.P c i=false),dlF q.S q.P q.F (i+1)=dlF q.S q.P q.F i:=fun hb=>by
   funext c j
   unfold dlF;rw[z2z];by_cases e:j / 64=i
   ·rw[e,hb c];simp
   ·simp[e]
  by_cases h1:(q.S i).1=1
  ·rw[if_pos h1];obtain⟨c,hc,hS⟩:∃ c:Nat,c<8/\q.S i=(1,(c:Int),0):=by
    rcases hg.cases (i:=i) (by omega) with e | ⟨c,c1,c2,e⟩ | ⟨k,_,_,_,e⟩ | e
    ·rw[e] at h1;simp at h1
    ·exact⟨c.toNat,by omega,by rw[e];simp;omega⟩
    ·rw[e] at h1;simp at h1
    ·rw[e] at h1;simp at h1
   cases h2:(z6o q.P (64*i) (64*i+64) == 0) with
   | true=>
    rw[if_pos rfl];refine Raw.eq rfl ?_ ?_ rfl rfl rfl rfl
    ·show gvS (dlS q.S q.P i) n (i:Int)=dlS q.S q.P (i+1)
     unfold gvS z4n;rw[show ((i:Int)).toNat=i from by omega,hSi,hS,if_pos (by unfold inB;simp;omega)];funext p
     show (if i<=p/\p<i+z4t (1,(c:Int),0) then (0,0,0) else dlS q.S q.P i p)=_
     rw[show z4t (1,(c:Int),0)=1 from rfl];by_cases e:p=i
     ·subst e;rw[if_pos (by omega)];unfold dlS z3t;rw[hS,h2];simp
     ·rw[if_neg (by omega)];unfold dlS;rw[z2z];simp[e]
    ·show dlF q.S q.P q.F i=dlF q.S q.P q.F (i+1)
     exact(hFn fun c=>by unfold z6g;rw[h2];simp).symm
   | false=>
    rw[if_neg (by simp)];refine Raw.eq rfl ?_ ?_ rfl rfl rfl rfl
    ·show dlS q.S q.P i=dlS q.S q.P (i+1)
     exact(hSn (by unfold z3t;rw[h2];simp)).symm
    ·show (fun d=>if d=(q.S i).2.1.toNat then fuR { q with S:=dlS q.S q.P i,F:=dlF q.S q.P q.F i } (q.S i).2.1.toNat i else dlF q.S q.P q.F i d)=dlF q.S q.P q.F (i+1)
     rw[hS];funext d j
     show (if d=((c:Int)).toNat then fuR { q with S:=dlS q.S q.P i,F:=dlF q.S q.P q.F i } ((c:Int)).toNat i else dlF q.S q.P q.F i d) j=dlF q.S q.P q.F (i+1) d j
     rw[show ((c:Int)).toNat=c from by omega];by_cases e:d=c
     ·subst e;rw[if_pos rfl]
      show (dlF q.S q.P q.F i d j || (decide (j / 64=i) && K7 (d:Int) (j % 64) && !q.P j))=_
      unfold dlF;rw[z2z];by_cases ej:j / 64=i
      ·have hf:z6g q.S q.P d i=true:=by unfold z6g;rw[hS,h2];simp
       rw[ej,hf];simp
      ·simp[ej]
     ·rw[if_neg e];unfold dlF;rw[z2z];by_cases ej:j / 64=i
      ·have hf:z6g q.S q.P d i=false:=by unfold z6g;rw[hS];simp;omega
       rw[ej,hf];simp
      ·simp[ej]
  ·rw[if_neg h1];refine Raw.eq rfl ?_ ?_ rfl rfl rfl rfl
   ·exact(hSn (by unfold z3t;simp[h1])).symm
   ·exact(hFn fun c=>by unfold z6g;simp[h1]).symm
def q3o (n:Nat) (st:Sp):Nat->Sp
 | 0=>st
 | c+1=>{ q3o n st c with W:=z7b n (Z6 n (q3o n st c)) c }
theorem j6p (n:Nat) (st:Sp):∀ c,lnR n (Z6 n st) c=Z6 n (q3o n st c)
 | 0=>rfl
 | c+1=>by
  show { lnR n (Z6 n st) c with W:=z7b n (lnR n (Z6 n st) c) c }=Z6 n { q3o n st c with W:=z7b n (Z6 n (q3o n st c)) c }
  rw[j6p n st c];rfl
theorem z4b (n:Nat) (st:Sp):∀ c,(q3o n st c).S=st.S/\(q3o n st c).O=st.O/\(q3o n st c).last=st.last
 | 0=>⟨rfl,rfl,rfl⟩
 | c+1=>z4b n st c
def kpO (st:Sp) (kp:Nat->Bool):Nat->Blk:=fun a=>if kp a then st.O a else noB
def z6d (n:Nat) (st:Sp) (kp:Nat->Bool):Nat->Int × Int × Int:=fun q=>if z1f (Z6 n st) kp (64*n) q=true then (0,0,0) else st.S q
theorem j1o:Q7 noB=false:=rfl
theorem z2y (st:Sp) (kp:Nat->Bool) (a:Nat):Q7 (kpO st kp a)=(Q7 (st.O a) && kp a):=by
 unfold kpO;cases kp a with
 | true=>simp
 | false=>simp[j1o]
theorem kp_P {n:Nat} {st:Sp} {kp:Nat->Bool}:(Q6 n (Z6 n st) kp (64*n)).P=ob n { st with O:=kpO st kp }:=by
 funext a
 rw[(U6 (n:=n) (kp:=kp) (B7 st) (64*n) a).1]
 show (ob n st a && _)=(decide (a<64*n) && Q7 (kpO st kp a))
 rw[z2y];unfold ob;by_cases h:a<64*n
 ·simp[h]
 ·simp[h]
theorem kp_M {n:Nat} {st:Sp} {kp:Nat->Bool} (hI:Inv n st):(Q6 n (Z6 n st) kp (64*n)).M=obM { st with O:=kpO st kp }:=by
 funext i
 rw[j6m (n:=n) (kp:=kp) (B7 st)]
 show (if _ then none else obM st i)=(if 0<=i/\Q7 (kpO st kp i.toNat)=true then some (kpO st kp i.toNat) else none)
 unfold z1l;rw[z2y]
 show (if 0<=i/\i.toNat<64*n/\(ob n st i.toNat && !kp i.toNat)=true then none else obM st i)=_
 unfold ob obM;by_cases h0:0<=i
 ·cases hh:Q7 (st.O i.toNat) with
  | false=>simp[h0,hh]
  | true=>
   have hlt:=(hI.objs _ hh).1;cases hk:kp i.toNat with
   | true=>simp[h0,hh,hk,kpO]
   | false=>simp[h0,hh,hk,hlt]
 ·simp[h0]
theorem z4j {n:Nat} {st:Sp} {x:Int} {a:Nat} (hx:1<=x) (h:q2e n st x=some a):a<64*n/\Q7 (st.O a)=true/\(st.O a).2.2.1=x:=by
 unfold q2e at h;rw[if_pos hx] at h;have h1:=List.find?_some h;have h2:=List.mem_of_find?_eq_some h;rw[List.mem_range] at h2;rw[Bool.and_eq_true] at h1;exact⟨h2,h1.1,by simpa using h1.2⟩
theorem q1e {n:Nat} {st:Sp} {x:Int} (hx:1<=x) (h:q2e n st x=none):∀ a,a<64*n->Q7 (st.O a)=true->(st.O a).2.2.1 ≠ x:=by
 intro a ha hh he;unfold q2e at h;rw[if_pos hx,List.find?_eq_none] at h;have:=h a (by rw[List.mem_range];exact ha);rw[hh,he] at this;simp at this
theorem kp_R {n:Nat} {st:Sp} {kp:Nat->Bool} (hI:Inv n st):(Q6 n (Z6 n st) kp (64*n)).R=q2m n { st with O:=kpO st kp }:=by
 funext x
 rw[j7b (n:=n) (kp:=kp) (B7 st)]
 show (if q1a (Z6 n st) kp (64*n) x=true then none else q2m n st x)=q2m n { st with O:=kpO st kp } x
 unfold q2m;by_cases hx:1<=x
 ·have hgone:q1a (Z6 n st) kp (64*n) x=true ↔ ∃ a,a<64*n/\Q7 (st.O a)=true/\kp a=false/\(st.O a).2.2.1=x:=by
   unfold q1a;rw[List.any_eq_true];constructor
   ·rintro⟨a,ha,h⟩;rw[List.mem_range] at ha;rw[Bool.and_eq_true] at h;have hg:(ob n st a && !kp a)=true:=h.1;cases e:(Z6 n st).M (a:Int) with
    | none=>rw[e] at h;exact absurd h.2 (by simp)
    | some b=>
     rw[e] at h;obtain⟨rfl,hh⟩:=z3q e;refine⟨a,ha,hh,?_,by simpa using h.2⟩;rw[Bool.and_eq_true] at hg;simpa using hg.2
   ·rintro⟨a,ha,hh,hk,hs⟩;refine⟨a,by rw[List.mem_range];exact ha,?_⟩;have hP:(Z6 n st).P a=true:=by show ob n st a=true;unfold ob;simp[ha,hh]
    obtain⟨b,hb⟩:=B7 st a hP;obtain⟨rfl,_⟩:=z3q hb;rw[hb];unfold z1l;rw[hP,hk];simp[hs]
  cases h1:q2e n st x with
  | none=>
   have hn:=q1e hx h1;rw[if_neg (fun h=>by obtain⟨a,a1,a2,_,a3⟩:=hgone.1 h;exact hn a a1 a2 a3)];cases h2:q2e n { st with O:=kpO st kp } x with
   | none=>rfl
   | some a=>
    obtain⟨a1,a2,a3⟩:=z4j hx h2;have a2':Q7 (kpO st kp a)=true:=a2;have a3':(kpO st kp a).2.2.1=x:=a3;rw[z2y,Bool.and_eq_true] at a2';unfold kpO at a3';rw[if_pos a2'.2] at a3';exact absurd a3' (hn a a1 a2'.1)
  | some a=>
   obtain⟨a1,a2,a3⟩:=z4j hx h1;cases hk:kp a with
   | true=>
    rw[if_neg ?_]
    ·cases h2:q2e n { st with O:=kpO st kp } x with
     | none=>
      have:=q1e hx h2 a a1 (by show Q7 (kpO st kp a)=true;rw[z2y,a2,hk];rfl);exact absurd (show (kpO st kp a).2.2.1=x by unfold kpO;rw[if_pos hk];exact a3) this
     | some a'=>
      obtain⟨b1,b2,b3⟩:=z4j hx h2;have b2':Q7 (kpO st kp a')=true:=b2;have b3':(kpO st kp a').2.2.1=x:=b3;rw[z2y,Bool.and_eq_true] at b2';unfold kpO at b3';rw[if_pos b2'.2] at b3';have:a=a':=hI.one a a' a2 b2'.1 (by omega) (by omega);subst this;rfl
    ·intro h;obtain⟨a',c1,c2,c3,c4⟩:=hgone.1 h;have:a=a':=hI.one a a' a2 c2 (by omega) (by omega);subst this;rw[hk] at c3;cases c3
   | false=>
    rw[if_pos (hgone.2 ⟨a,a1,a2,hk,a3⟩)];cases h2:q2e n { st with O:=kpO st kp } x with
    | none=>rfl
    | some a'=>
     obtain⟨b1,b2,b3⟩:=z4j hx h2;have b2':Q7 (kpO st kp a')=true:=b2;have b3':(kpO st kp a').2.2.1=x:=b3;rw[z2y,Bool.and_eq_true] at b2';unfold kpO at b3';rw[if_pos b2'.2] at b3';have:a=a':=hI.one a a' a2 b2'.1 (by omega) (by omega);subst this;rw[hk] at b2';cases b2'.2
 ·have e1:q2e n st x=none:=by unfold q2e;rw[if_neg hx]
  have e2:q2e n { st with O:=kpO st kp } x=none:=by unfold q2e;rw[if_neg hx]
  rw[e1,e2];simp
theorem q3f {n:Nat} {st:Sp} {kp:Nat->Bool} (hI:Inv n st) {q:Nat} (h:z1f (Z6 n st) kp (64*n) q=true):∃ p k:Nat,p<n/\st.S p=(2,0,(k:Int))/\p<=q/\q<p+k/\∀ j,p<=j->j<p+k->z1f (Z6 n st) kp (64*n) j=true:=by
 obtain⟨a,b,g1,g2,g3,g4,g5,g6⟩:=goneP_iff.1 h;obtain⟨rfl,gh⟩:=z3q g3;obtain⟨_,_,i3⟩:=hI.objs a gh;rcases i3 with ⟨i3,_⟩ | ⟨_,i4,i5⟩
 ·omega
 ·refine⟨a / 64,(((st.O a).2.1+63) / 64).toNat,by omega,by rw[i5];simp;omega,g5,g6,fun j j1 j2=>goneP_iff.2 ⟨a,_,g1,g2,g3,g4,j1,j2⟩⟩
theorem j2j {n:Nat} {st:Sp} {kp:Nat->Bool} (hI:Inv n st):Good n (z6d n st kp):=by
 intro i hi;unfold PgOk z6d;cases hg:z1f (Z6 n st) kp (64*n) i with
 | true=>exact .inl (by rw[if_pos rfl])
 | false=>
  simp only[Bool.false_eq_true,if_false];rcases hI.good i hi with e | ⟨c,c1,c2,e⟩ | ⟨k,k1,k2,k3,e,k4⟩ | ⟨e,h,k,h1,h2,h3⟩
  ·exact .inl e
  ·exact .inr (.inl ⟨c,c1,c2,e⟩)
  ·refine .inr (.inr (.inl ⟨k,k1,k2,k3,e,fun j j1 j2=>?_⟩));cases hj:z1f (Z6 n st) kp (64*n) j with
   | false=>rw[if_neg (by simp)];exact k4 j j1 j2
   | true=>
    obtain⟨p,m,p1,p2,p3,p4,p5⟩:=q3f hI hj;by_cases ep:p<=i
    ·have:=p5 i ep (by omega);rw[hg] at this;cases this
    ·have:=k4 p (by omega) (by omega);rw[p2] at this;simp at this
  ·refine .inr (.inr (.inr ⟨e,h,k,h1,h2,?_⟩));cases hj:z1f (Z6 n st) kp (64*n) h with
   | false=>rw[if_neg (by simp)];exact h3
   | true=>
    obtain⟨p,m,p1,p2,p3,p4,p5⟩:=q3f hI hj;by_cases ep:p=h
    ·subst ep;rw[h3] at p2;have:k=m:=by simp at p2;omega
     subst this;have:=p5 i (by omega) (by omega);rw[hg] at this;cases this
    ·rcases hI.good p p1 with e2 | ⟨c,_,_,e2⟩ | ⟨k',_,_,_,e2,q4⟩ | ⟨e2,_⟩
     ·rw[p2] at e2;simp at e2
     ·rw[p2] at e2;simp at e2
     ·rw[p2] at e2;have:m=k':=by simp at e2;omega
      subst this;have:=q4 h (by omega) p4;rw[h3] at this;simp at this
     ·rw[p2] at e2;simp at e2
def q5h (n:Nat) (st:Sp) (kp:Nat->Bool):Sp:=
 { W:=wpW (Q6 n (Z6 n st) kp (64*n)) (64*n),S:=dlS (z6d n st kp) (ob n { st with O:=kpO st kp }) n,O:=kpO st kp,last:=st.last }
def G2 (n:Nat) (st:Sp) (l:List Int):Sp:=q3o n (q5h n st (kpS l)) 8
theorem q4q {n:Nat} {r:Raw} {kp:Nat->Bool} (hT:z8q r):∀ p,(Q6 n r kp p).F=r.F/\(Q6 n r kp p).last=r.last
 | 0=>⟨rfl,rfl⟩
 | p+1=>by
  have ih:=q4q (n:=n) (kp:=kp) hT p;rw[z2d];cases e:(r.P p && !kp p) with
  | false=>rw[if_neg (by simp)];exact ih
  | true=>
   rw[if_pos rfl];obtain⟨b,hb⟩:=hT p (by rw[Bool.and_eq_true] at e;exact e.1);rw[hb];exact ih
theorem j5j {n:Nat} {st:Sp} {l:List Int} (hI:Inv n st):j9c n (Z6 n st) l=Z6 n (G2 n st l):=by
 unfold j9c j7m G2;rw[<-j6p];congr 1
 obtain⟨q,hq⟩:∃ q,Q6 n (Z6 n st) (kpS l) (64*n)=q:=⟨_,rfl⟩
 have hS:q.S=z6d n st (kpS l):=by rw[<-hq];funext p;exact j7a hI (64*n) p
 have hP:q.P=ob n { st with O:=kpO st (kpS l) }:=by rw[<-hq];exact kp_P
 have hM:q.M=obM { st with O:=kpO st (kpS l) }:=by rw[<-hq];exact kp_M hI
 have hR:q.R=q2m n { st with O:=kpO st (kpS l) }:=by rw[<-hq];exact kp_R hI
 have hF:q.F=(Z6 n st).F:=by rw[<-hq];exact(q4q (B7 st) _).1
 have hL:q.last=st.last:=by rw[<-hq];exact(q4q (B7 st) _).2
 have hg:Good n q.S:=by rw[hS];exact j2j hI
 rw[hq];have hcl:=q2t (n:=n) (q:=rsF { q with W:=wpW q (64*n) } 8) hg n (Nat.le_refl _);refine hcl.trans (Raw.eq ?_ ?_ ?_ ?_ ?_ ?_ ?_)
 ·show wpW q (64*n)=wpW (Q6 n (Z6 n st) (kpS l) (64*n)) (64*n)
  rw[hq]
 ·show dlS q.S q.P n=dlS (z6d n st (kpS l)) (ob n { st with O:=kpO st (kpS l) }) n
  rw[hS,hP]
 ·funext c j
  show dlF q.S q.P (fun d=>if d<8 then (fun _=>false) else q.F d) n c j=fr n (q5h n st (kpS l)) (c:Int) j
  have hF0:(if c<8 then (fun _=>false) else q.F c) j=false:=by
   by_cases hc:c<8
   ·rw[if_pos hc]
   ·rw[if_neg hc,hF]
    show fr n st (c:Int) j=false
    unfold fr;by_cases hj:j<64*n
    ·have:(st.S (j / 64) == (1,(c:Int),0))=false:=by
      rcases hI.good.cases (i:=j / 64) (by omega) with e | ⟨d,d1,d2,e⟩ | ⟨k,_,_,_,e⟩ | e <;> rw[e] <;> simp
      omega
     rw[this];simp
    ·simp[hj]
  unfold dlF fr
  show ((if c<8 then (fun _=>false) else q.F c) j || (decide (j / 64<n) && z6g q.S q.P c (j / 64) && K7 (c:Int) (j % 64) && !q.P j))=_
  rw[hF0,Bool.false_or]
  show (decide (j / 64<n) && z6g q.S q.P c (j / 64) && K7 (c:Int) (j % 64) && !q.P j)=(decide (j<64*n) && (dlS (z6d n st (kpS l)) (ob n { st with O:=kpO st (kpS l) }) n (j / 64) == (1,(c:Int),0)) && K7 (c:Int) (j % 64) && !Q7 (kpO st (kpS l) j))
  rw[<-hS,<-hP];by_cases hj:j<64*n
  ·have hPj:q.P j=Q7 (kpO st (kpS l) j):=by rw[hP];show (decide (j<64*n) && Q7 (kpO st (kpS l) j))=_;simp[hj]
   rw[hPj];have:z6g q.S q.P c (j / 64)=(dlS q.S q.P n (j / 64) == (1,(c:Int),0)):=by
    unfold z6g dlS z3t;have hj':j / 64<n:=by omega
    rcases hg.cases (i:=j / 64) hj' with e | ⟨d,d1,d2,e⟩ | ⟨k,_,_,_,e⟩ | e
    ·rw[e];simp
    ·rw[e];cases hcn:(z6o q.P (64*(j / 64)) (64*(j / 64)+64) == 0) with
     | true=>simp[hj']
     | false=>
      simp[hj'];rw[Bool.eq_iff_iff];simp
    ·rw[e];simp
    ·rw[e];simp
   rw[this];simp[hj,show j / 64<n from by omega]
  ·simp[hj,show ¬ j / 64<n from by omega]
 ·exact hP
 ·exact hM
 ·exact hR
 ·exact hL
end Go.Proofs.YtjbbkeoolodeaabGreatDoor
