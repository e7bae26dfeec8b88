import Derived.Test.YtjbbkeoolodeaabGreatDoorB40
import Derived.Test.YtjbbkeoolodeaabGreatDoorB19
import Derived.Test.YtjbbkeoolodeaabGreatDoorB23
namespace Go.Proofs.YtjbbkeoolodeaabGreatDoor
open Go.RowKit
set_option linter.unusedVariables false
set_option maxRecDepth 100000
set_option maxHeartbeats 16000000
set_option linter.unusedSimpArgs false
def Cov (S:Nat->Int × Int × Int) (O:Nat->Blk) (p q:Nat):Prop:=∃ h,h<p/\G6 S O h=false/\((S h).1=1\/(S h).1=2)/\h<=q/\q<h+z4t (S h)
section
variable {n:Nat} {st:Sp}
theorem q4d {x:Int × Int × Int} (h:x.1=1):z4t x=1:=by unfold z4t;rw[if_neg (by omega)]
theorem j5d {O:Nat->Blk} {p:Nat} (hg:Good n st.S) (hp:p<n) (h:Cov st.S O p p):st.S p=(3,0,0):=by
 obtain⟨h,h1,h2,h3,h4,h5⟩:=h;rcases h3 with e | e
 ·rw[q4d e] at h5;omega
 ·rcases hg h (by omega) with q | ⟨c,_,_,q⟩ | ⟨k,k1,k2,k3,q,k5⟩ | ⟨q,_⟩
  ·rw[q] at e;cases e
  ·rw[q] at e;cases e
  ·have:z4t (st.S h)=k:=by rw[q];unfold z4t;simp
   rw[this] at h5;exact k5 p h1 h5
  ·rw[q] at e;cases e
theorem x1i {O:Nat->Blk} (hg:Good n st.S):∀ p,p<=n->∀ q,(Cov st.S O p q->gkS n { st with O:=O } p q=(0,0,0))/\(¬Cov st.S O p q->gkS n { st with O:=O } p q=st.S q)
 | 0,_,q=>⟨fun⟨h,h1,_⟩=>by omega,fun _=>rfl⟩
 | p+1,hp,q=>by
  have ih:=x1i (O:=O) hg p (by omega);obtain⟨T,hT⟩:∃ T,gkS n { st with O:=O } p=T:=⟨_,rfl⟩
  rw[hT] at ih;have hs:gkS n { st with O:=O } (p+1)=if G6 T O p then T else gvS T n (p:Int):=by rw[<-hT];rfl
  rw[hs];have hin:inB n (p:Int)=true:=by unfold inB;simp;omega
  have hup:Cov st.S O p q->Cov st.S O (p+1) q:=fun⟨h,h1,h2⟩=>⟨h,by omega,h2⟩
  have hdn:(¬((st.S p).1=1\/(st.S p).1=2)\/G6 st.S O p=true\/¬(p<=q/\q<p+z4t (st.S p)))->Cov st.S O (p+1) q->Cov st.S O p q:=fun hor ⟨h,h1,h2,h3,h4,h5⟩=>by
   by_cases e:h=p
   ·subst e;rcases hor with x | x | x
    ·exact absurd h3 x
    ·rw[x] at h2;cases h2
    ·exact absurd ⟨h4,h5⟩ x
   ·exact⟨h,by omega,h2,h3,h4,h5⟩
  by_cases hc:Cov st.S O p p
  ·have h3:=j5d hg (by omega) hc;have ht:=(ih p).1 hc;have hu:G6 T O p=false:=by unfold G6;rw[ht];rfl
   have hv:gvS T n (p:Int)=T:=by
    unfold gvS z4n;rw[show ((p:Nat):Int).toNat=p from by omega,ht,hin];rfl
   rw[hu,if_neg (by simp),hv];have hd:=hdn (.inl (by rw[h3];rintro(e | e) <;> cases e));exact⟨fun h=>(ih q).1 (hd h),fun h=>(ih q).2 (fun x=>h (hup x))⟩
  ·have ht:=(ih p).2 hc;have hu:G6 T O p=G6 st.S O p:=by unfold G6;rw[ht]
   rw[hu];cases hup2:G6 st.S O p with
   | true=>
    rw[if_pos rfl];have hd:=hdn (.inr (.inl hup2));exact⟨fun h=>(ih q).1 (hd h),fun h=>(ih q).2 (fun x=>h (hup x))⟩
   | false=>
    rw[if_neg (by simp)];unfold gvS z4n;rw[show ((p:Nat):Int).toNat=p from by omega,ht,hin];by_cases hk:(st.S p).1=1\/(st.S p).1=2
    ·have:(true && ((st.S p).1 == 1 || (st.S p).1 == 2))=true:=by simpa using hk
     rw[this,if_pos rfl];unfold setF;by_cases hr:p<=q/\q<p+z4t (st.S p)
     ·rw[if_pos hr];exact⟨fun _=>rfl,fun h=>absurd ⟨p,by omega,hup2,hk,hr.1,hr.2⟩ h⟩
     ·rw[if_neg hr];have hd:=hdn (.inr (.inr hr));exact⟨fun h=>(ih q).1 (hd h),fun h=>(ih q).2 (fun x=>h (hup x))⟩
    ·have:(true && ((st.S p).1 == 1 || (st.S p).1 == 2))=false:=by simpa using hk
     rw[this,if_neg (by simp)];have hd:=hdn (.inl hk);exact⟨fun h=>(ih q).1 (hd h),fun h=>(ih q).2 (fun x=>h (hup x))⟩
theorem q4n {O:Nat->Blk} {p:Nat}:∀ i,q4i O p i=true ↔ ∃ j,j<i/\Q7 (O (64*p+j))=true
 | 0=>⟨fun h=>(by cases h),fun⟨j,h,_⟩=>absurd h (Nat.not_lt_zero _)⟩
 | i+1=>by
  unfold q4i;rw[Bool.or_eq_true,q4n i];constructor
  ·rintro(⟨j,h1,h2⟩ | h)
   ·exact⟨j,by omega,h2⟩
   ·exact⟨i,by omega,h⟩
  ·rintro⟨j,h1,h2⟩;by_cases e:j=i
   ·exact .inr (e ▸ h2)
   ·exact .inl ⟨j,by omega,h2⟩
theorem j5n {P:Nat->Bool} {lo hi j:Nat} (h1:lo<=j) (h2:j<hi) (hp:P j=true):0<z6o P lo hi:=by
 exact Nat.pos_of_ne_zero (j0v (S:=fun j=>decide (lo<=j) && P j) (a:=j) (by simp[h1,hp]) hi h2)
theorem cntR_none {P:Nat->Bool} {lo hi:Nat}:(z6o P lo hi == 0)=true ↔ ∀ j,lo<=j->j<hi->P j=false:=by
 rw[beq_iff_eq];constructor
 ·intro h j h1 h2;cases hp:P j with
  | false=>rfl
  | true=>
   exfalso
   have:=j5n (P:=P) (lo:=lo) (hi:=hi) (j:=j) h1 h2 hp;omega
 ·intro h;unfold z6o;exact z4q fun j hj=>by
   by_cases e:lo<=j
   ·simp[h j e hj]
   ·simp[e]
theorem q9c {kp:Nat->Bool} {q:Nat} (hI:Inv n st) (hq:q<n) (hk:(st.S q).1=1):G6 st.S (kpO st kp) q = !(z6o (ob n { st with O:=kpO st kp }) (64*q) (64*q+64) == 0):=by
 have hu:G6 st.S (kpO st kp) q=q4i (kpO st kp) q 64:=by unfold G6;rw[if_neg (by omega),if_pos hk]
 rw[hu];cases ha:q4i (kpO st kp) q 64 with
 | true=>
  obtain⟨j,j1,j2⟩:=(q4n 64).1 ha;cases hc:(z6o (ob n { st with O:=kpO st kp }) (64*q) (64*q+64) == 0) with
  | false=>rfl
  | true=>
   have:=cntR_none.1 hc (64*q+j) (by omega) (by omega);unfold ob at this;rw[show decide (64*q+j<64*n)=true from by simp;omega] at this;have h2:Q7 (kpO st kp (64*q+j))=false:=this;rw[j2] at h2;cases h2
 | false=>
  have:(z6o (ob n { st with O:=kpO st kp }) (64*q) (64*q+64) == 0)=true:=cntR_none.2 fun j j1 j2=>by
   cases hb:ob n { st with O:=kpO st kp } j with
   | false=>rfl
   | true=>
    unfold ob at hb;rw[Bool.and_eq_true] at hb;have:=(q4n (O:=kpO st kp) (p:=q) 64).2 ⟨j-64*q,by omega,by rw[show 64*q+(j-64*q)=j from by omega];exact hb.2⟩;rw[ha] at this;cases this
  rw[this];rfl
theorem j6u {kp:Nat->Bool} (hI:Inv n st):gkS n { st with O:=kpO st kp } n=dlS (z6d n st kp) (ob n { st with O:=kpO st kp }) n:=by
 funext q
 have hg:=x1i (O:=kpO st kp) hI.good n (Nat.le_refl _) q;by_cases hc:Cov st.S (kpO st kp) n q
 ·rw[hg.1 hc];obtain⟨h,h1,h2,h3,h4,h5⟩:=hc;unfold dlS;rcases h3 with e | e
  ·rw[q4d e] at h5;obtain rfl:q=h:=by omega
   by_cases hgo:z1f (Z6 n st) kp (64*n) q=true
   ·have:z6d n st kp q=(0,0,0):=by unfold z6d;rw[if_pos hgo]
    rw[this];split <;> rfl
   ·have hk:z6d n st kp q=st.S q:=by unfold z6d;rw[if_neg hgo]
    have hb:z3t (z6d n st kp) (ob n { st with O:=kpO st kp }) q=true:=by
     unfold z3t;rw[hk,e];rw[q9c hI h1 e] at h2;simpa using h2
    rw[hb,show decide (q<n)=true from by simpa using h1];rfl
  ·have hh:=hI.heads h h1 e;have hu:Q7 (kpO st kp (64*h))=false:=by unfold G6 at h2;rw[if_pos e] at h2;exact h2
   have hkp:kp (64*h)=false:=by
    rw[z2y,hh] at hu;simpa using hu
   have hob:=hI.objs _ hh;obtain⟨o1,o2,o3⟩:=hob;rw[show 64*h / 64=h from by omega] at o3;obtain⟨z,hz⟩:∃ z,(st.O (64*h)).2.1=z:=⟨_,rfl⟩
   rw[hz] at o3;rcases o3 with ⟨_,e3,_⟩ | ⟨e2,_,e3⟩
   ·rw[e3] at e;cases e
   ·have hl:z4t (st.S h)=((z+63) / 64).toNat:=by rw[e3];unfold z4t;rw[if_pos rfl]
    rw[hl] at h5;have hgo:z1f (Z6 n st) kp (64*n) q=true:=goneP_iff.2 ⟨64*h,st.O (64*h),by omega,by
     unfold z1l;rw[j0g hI,hh,hkp];rfl,j2k hh,by rw[hz];exact e2,by omega,by rw[hz];omega⟩
    have:z6d n st kp q=(0,0,0):=by unfold z6d;rw[if_pos hgo]
    rw[this];split <;> rfl
 ·rw[hg.2 hc];have hgo:¬ z1f (Z6 n st) kp (64*n) q=true:=fun hgo=>by
   obtain⟨a,b,a1,a2,a3,a4,a5,a6⟩:=goneP_iff.1 hgo;unfold z1l at a2;rw[j0g hI,Bool.and_eq_true] at a2;rw[j2k a2.1] at a3;cases a3;obtain⟨o1,o2,o3⟩:=hI.objs a a2.1;rcases o3 with ⟨e1,_⟩ | ⟨_,e2,e3⟩
   ·omega
   ·refine hc ⟨a / 64,by omega,?_,.inr (by rw[e3]),a5,?_⟩
    ·unfold G6;rw[e3,if_pos rfl,show 64*(a / 64)=a from by omega,z2y];have:=a2.2;simp at this;rw[this];simp
    ·rw[e3];unfold z4t;rw[if_pos rfl];exact a6
  have hk:z6d n st kp q=st.S q:=by unfold z6d;rw[if_neg hgo]
  unfold dlS;rw[hk];cases hd:(decide (q<n) && z3t (z6d n st kp) (ob n { st with O:=kpO st kp }) q) with
  | false=>rfl
  | true=>
   exfalso
   rw[Bool.and_eq_true,decide_eq_true_eq] at hd;obtain⟨q1,q2⟩:=hd;unfold z3t at q2;rw[hk,Bool.and_eq_true,beq_iff_eq] at q2;exact hc ⟨q,q1,by rw[q9c hI q1 q2.1,q2.2];rfl,.inl q2.1,Nat.le_refl _,by rw[q4d q2.1];omega⟩
end
section
variable {n:Nat} {st:Sp}
theorem j7e {kp:Nat->Bool} (hI:Inv n st):dpO st kp (64*n)=kpO st kp:=by
 funext b
 unfold dpO;by_cases h:b<64*n
 ·rw[if_pos h]
 ·rw[if_neg h];have hb:Q7 (st.O b)=false:=by
   cases hh:Q7 (st.O b) with
   | false=>rfl
   | true=>exact absurd (hI.objs b hh).1 h
  have:=hI.none b hb;unfold kpO;split
  ·rfl
  ·exact this
theorem q9j {s2:Sp}:∀ p j,z1d s2 p j=true ↔ ∃ a,a<p/\Q7 (s2.O a)=true/\a<=j/\j<a+J3 (s2.O a).2.1
 | 0,j=>⟨fun h=>(by cases h),fun⟨a,h,_⟩=>absurd h (Nat.not_lt_zero _)⟩
 | p+1,j=>by
  unfold z1d;rw[Bool.or_eq_true,q9j p j,Bool.and_eq_true,decide_eq_true_eq];constructor
  ·rintro(⟨a,h1,h2⟩ | ⟨h1,h2⟩)
   ·exact⟨a,by omega,h2⟩
   ·exact⟨p,by omega,h1,h2⟩
  ·rintro⟨a,h1,h2,h3⟩;by_cases e:a=p
   ·subst e;exact .inr ⟨h2,h3⟩
   ·exact .inl ⟨a,by omega,h2,h3⟩
theorem j4p {l:List Int} {S:Nat->Int × Int × Int} (hI:Inv n st) (j:Nat):z1d { st with S:=S,O:=kpO st (kpS l) } (64*n) j=q7v (Q6 n (Z6 n st) (kpS l) (64*n)) j:=by
 rw[Bool.eq_iff_iff,q9j,j1a hI];constructor
 ·rintro⟨a,h1,h2,h3,h4⟩;have h2':Q7 (kpO st (kpS l) a)=true:=h2;have hk:=h2';rw[z2y,Bool.and_eq_true] at hk;have e:kpO st (kpS l) a=st.O a:=by unfold kpO;rw[if_pos hk.2]
  refine⟨a,by rw[z6n,hk.1,hk.2];rfl,h3,?_⟩;have h4':j<a+J3 (kpO st (kpS l) a).2.1:=h4;rw[e] at h4';exact h4'
 ·rintro⟨a,h1,h2,h3⟩;rw[z6n,Bool.and_eq_true] at h1;have e:kpO st (kpS l) a=st.O a:=by unfold kpO;rw[if_pos h1.2]
  refine⟨a,(hI.objs a h1.1).1,?_,h2,?_⟩
  ·show Q7 (kpO st (kpS l) a)=true
   rw[e];exact h1.1
  ·show j<a+J3 (kpO st (kpS l) a).2.1
   rw[e];exact h3
theorem j8v {l:List Int} (hI:Inv n st):({ st with W:=tzW n { st with S:=gkS n { st with O:=dpO st (kpS l) (64*n) } n,O:=dpO st (kpS l) (64*n) } (64*n),S:=gkS n { st with O:=dpO st (kpS l) (64*n) } n,O:=dpO st (kpS l) (64*n) }:Sp)=q5h n st (kpS l):=by
 rw[j7e hI,j6u hI];unfold q5h;congr 1
 funext j
 unfold tzW wpW;rw[j4p hI,(U6 (n:=n) (r:=Z6 n st) (kp:=kpS l) (B7 st) (64*n) j).2.2];rfl
theorem j3r {l:List Int} (hI:Inv n st):Inv n { st with S:=gkS n { st with O:=dpO st (kpS l) (64*n) } n,O:=dpO st (kpS l) (64*n) }:=by
 rw[j7e hI,j6u hI];have hk:=q7d (l:=l) hI;obtain⟨e1,e2,e3⟩:=z4b n (q5h n st (kpS l)) 8;have e1':(G2 n st l).S=dlS (z6d n st (kpS l)) (ob n { st with O:=kpO st (kpS l) }) n:=e1;have e2':(G2 n st l).O=kpO st (kpS l):=e2;have e3':(G2 n st l).last=st.last:=e3;refine⟨hk.n1,hk.n2,?_,?_,?_,?_,?_,?_,?_⟩
 ·have:=hk.good;rw[e1'] at this;exact this
 ·have:=hk.objs;rw[e1',e2'] at this;exact this
 ·have:=hk.none;rw[e2'] at this;exact this
 ·have:=hk.heads;rw[e1',e2'] at this;exact this
 ·have:=hk.last0;rw[e3'] at this;exact this
 ·have:=hk.ser;rw[e2',e3'] at this;exact this
 ·have:=hk.one;rw[e2'] at this;exact this
theorem q1f {w:World} {lo hi cw co:Nat} {s:Nat->Nat} (h:RfAt w lo hi s n cw co st) (hI:Inv n st) {l:List Int} {p:Option Addr} {cp:Nat} (hl:z2x w p l) (hll:(l.length:Int)<9223372036854775807) :
  Calls Tryz.prog 64 #[.pointer (some ⟨s 0,0,none⟩),.slice p l.length cp] w fun e w'=>Out lo hi w w' ∧
   (((∀ a ∈ l,(obM st a).isSome=true)/\e=.returned (.tuple #[.int .i64 ((J7 (Z6 n st) (kpS l) (64*n):Nat):Int),.int .i64 0])/\RfAt w' lo hi s n cw co (G2 n st l)) ∨
    ((∃ a ∈ l,obM st a=none)/\e=.returned (.tuple #[.int .i64 0,.int .i64 22])/\RfAt w' lo hi s n cw co st)):=by
 have:=q1p h hI (cp:=cp) hl hll (j3r hI);rw[j8v hI] at this;exact this
end
def pr0 (x y:Nat):Obj:=.cells #[.pointer (some ⟨x,0,none⟩),.pointer (some ⟨y,0,none⟩),.slice none 0 0,.slice none 0 0,.slice none 0 0,.slice none 0 0,.slice none 0 0,.slice none 0 0,.slice none 0 0,.slice none 0 0,.slice none 0 0,.slice none 0 0,.slice none 0 0,.slice none 0 0] 54
theorem j3e (n:Int) (h:j2u n=false) (w:World):Calls Tryz.prog 12 #[.int .i64 n] w fun e w'=>e=.returned (.tuple #[.pointer none,.int .i64 1])/\w'=w:=by
 have HP:=Z0 (fun w=>x2c n h w);clear h;go_enter Tryz.func12,Tryz.ntmps12
 go_wp2_with (go_at_call 46;refine Z5 (HP.out _) ?_);go_ret2;exact⟨rfl,rfl⟩
theorem j7o (n:Int) (h:j2u n=false) (w:World):Calls Tryz.prog 8 #[.int .i64 n] w fun e w'=>e=.returned (.tuple #[.pointer none,.bool true])/\w'=w:=by
 have HP:=Z0 (fun w=>j3e n h w);have HR:=Z0 (fun w=>q7m n h w);unfold j2u at h;simp at h;by_cases h1:1<=n
 ·have h2:4096<n:=by omega
  have h3:¬ n<=4096:=by omega
  have h4:24<n:=by omega
  clear h;go_enter Tryz.func8,Tryz.ntmps8
  go_wp2_with (first | (go_at_call 12;refine Z5 (HP.out _) ?_) | (go_at_call 16;refine Z5 (HR.out _) ?_));go_ret2;exact⟨rfl,rfl⟩
 ·have h4:¬ 24<n:=by omega
  clear h h1;go_enter Tryz.func8,Tryz.ntmps8
  go_wp2_with (first | (go_at_call 12;refine Z5 (HP.out _) ?_) | (go_at_call 16;refine Z5 (HR.out _) ?_));go_ret2;exact⟨rfl,rfl⟩
theorem q8o {w:World} (hT:Tab w) (n:Nat) (h1:24<n) (h2:n<=4096):Calls Tryz.prog 8 #[.int .i64 n] w fun e w'=>e=.returned (.tuple #[.pointer none,.bool true])/\Out 0 0 w w':=by
 have HP:=Z0 (z6u hT n (by omega) h2);have n1:(24:Int)<(n:Int):=by omega
 have n2:(n:Int)<=4096:=by omega
 clear hT h1 h2;go_enter Tryz.func8,Tryz.ntmps8
 go_wp2_with fail;refine HP.out.mono ?_;rintro e w1 ⟨s,cap,rfl,hs,ho⟩;have hW:=z3r hs.1;rw[show ((64*n:Nat):Int)=64*(n:Int) from by omega] at hW;obtain⟨X,hX⟩:∃ X,s 14=X:=⟨_,rfl⟩
 rw[hX] at hW ⊢;have HW:=Z0 hW;have HO:=Z0 ho;clear hs ho hX hW;go_wp2_with (go_at_call 15;refine Z5 HW.out ?_);go_ret2;exact⟨rfl,HO.out⟩
theorem j3n {w:World} (hT:Tab w) (n:Nat) (h1:1<=n) (h2:n<=24):Calls Tryz.prog 8 #[.int .i64 n] w fun e w'=>∃ b s sr cap m,e=.returned (.tuple #[.pointer (some ⟨b,0,none⟩),.bool true])/\SpAt w' w.heap.size m s n cap newSp/\RfAt w' m b sr n (64*n) (64*n) newSp/\w'.heap[b]? = some (pr0 (s 14) (sr 0))/\w'.heap.size=b+1/\Out 0 0 w w':=by
 have HP:=Z0 (z6u hT n h1 (by omega));have HT:=Z0 hT;have HN:=Z0 (And.intro h1 h2);have n1:(1:Int)<=(n:Int):=by omega
 have n2:(n:Int)<=24:=by omega
 have n3:¬ (24:Int)<(n:Int):=by omega
 clear hT h1 h2;go_enter Tryz.func8,Tryz.ntmps8
 go_wp2_with fail;refine HP.out.mono ?_;rintro e w1 ⟨s,cap,rfl,hs,ho⟩;obtain⟨X,hX⟩:∃ X,s 14=X:=⟨_,rfl⟩
 rw[hX];have hNr:=q4z (w:=w1) (by have:=(HT.out.quiet ho).lt;omega) n HN.out.1 (by have:=HN.out;omega);have HNr:=Z0 hNr;have H1:=Z0 (And.intro hs (And.intro ho hX));clear hs ho hX hNr;go_wp2_with fail;refine HNr.out.mono ?_;rintro e w2 ⟨sr,rfl,hr,o2⟩;obtain⟨Y,hY⟩:∃ Y,sr 0=Y:=⟨_,rfl⟩
 rw[hY];have H2:=Z0 (And.intro hr (And.intro o2 hY));clear hr o2 hY;go_wp2_with fail;go_ret2;have o3:Out 0 0 w2 (w2.alloc (pr0 X Y)):=(Out.refl 0 0 w2).alloc _;refine⟨w2.heap.size,s,sr,cap,w1.heap.size,rfl,?_,?_,?_,World.size_alloc _ _,(H1.out.2.1.trans H2.out.2.1).trans o3⟩
 ·exact((H1.out.1.quiet H2.out.2.1).quiet o3)
 ·exact H2.out.1.quiet o3
 ·rw[H1.out.2.2,H2.out.2.2];exact heap_alloc_new _ _
structure Two (w:World) (b lo hi lo' hi':Nat) (s sr:Nat->Nat) (n cap cw co:Nat) (st:Sp):Prop where
 sp:SpAt w lo hi s n cap st
 rf:RfAt w lo' hi' sr n cw co st
 p0:w.cell? ⟨b,0,none⟩=some (.pointer (some ⟨s 14,0,none⟩))
 p1:w.cell? ⟨b,1,none⟩=some (.pointer (some ⟨sr 0,0,none⟩))
section
variable {w w':World} {b lo hi lo' hi' n cap cw co:Nat} {s sr:Nat->Nat} {st:Sp}
theorem Two.quiet (h:Two w b lo hi lo' hi' s sr n cap cw co st) (o:Out 0 0 w w'):Two w' b lo hi lo' hi' s sr n cap cw co st:=
 ⟨h.sp.quiet o,h.rf.quiet o,o.cell h.p0 z0,o.cell h.p1 z0⟩
theorem z0l (e a:Int) (w:World):Calls Tryz.prog 18 #[.agg #[.int .i64 e,.int .i64 a],.agg #[.int .i64 e,.int .i64 a]] w fun x w'=>x=.returned (.bool true)/\Out 0 0 w w':=by
 go_enter Tryz.func18,Tryz.ntmps18
 go_wp2;go_ret;exact⟨rfl,((Out.refl 0 0 w).alloc _).alloc _⟩
theorem j0s (hI:Inv n st) (a:Int):∃ v1 v2 v3 v4 v5 ok,(∀ w lo hi s cap,SpAt w lo hi s n cap st->Calls Tryz.prog 65 #[.pointer (some ⟨s 14,0,none⟩),.int .i64 a] w fun e w'=>e=.returned (.tuple #[.agg #[.int .i64 v1,.int .i64 v2,.int .i64 v3,.int .i64 v4,.int .i64 v5],.bool ok])/\Out 0 0 w w') ∧
  (∀ w lo hi s cw co,RfAt w lo hi s n cw co st->Calls Tryz.prog 66 #[.pointer (some ⟨s 0,0,none⟩),.int .i64 a] w fun e w'=>e=.returned (.tuple #[.agg #[.int .i64 v1,.int .i64 v2,.int .i64 v3,.int .i64 v4,.int .i64 v5],.bool ok])/\Out 0 0 w w'):=by
 cases hob:obM st a with
 | none=>
  refine⟨0,0,0,0,0,false,fun w lo hi s cap h=>z8v h.1 hob,fun w lo hi s cw co h=>z2c h (fun k e hk=>?_)⟩;unfold obM at hob;cases hh:Q7 (st.O k) with
  | false=>rfl
  | true=>rw[if_pos ⟨by omega,by rw[e,show ((k:Nat):Int).toNat=k from by omega];exact hh⟩] at hob;cases hob
 | some bk=>
  obtain⟨k,rfl,hk,hbk⟩:∃ k:Nat,a=(k:Int)/\Q7 (st.O k)=true/\st.O k=bk:=by
   unfold obM at hob;split at hob
   ·rename_i q
    exact⟨a.toNat,by omega,q.2,by simpa using hob⟩
   ·cases hob
  obtain⟨b1,b2,b3,b4⟩:=bk;exact⟨k,b1,b2,b3,b4,true,fun w lo hi s cap h=>z5c h.1 hob,fun w lo hi s cw co h=>z1z h (hI.objs k hk).1 hk hbk⟩
theorem z9u (h:Two w b lo hi lo' hi' s sr n cap cw co st) (a i:Int):Calls Tryz.prog 27 #[.pointer (some ⟨b,0,none⟩),.int .i64 a,.int .i64 i] w fun e w'=>e=.returned (.bool true)/\Out 0 0 w w':=by
 obtain⟨v1,v2,v3,v4,v5,ok,hB,hC⟩:=j0s h.sp.2 a;have hI:=h.sp.2;have HB:=Z0 (fun W (o:Out 0 0 w W)=>hB W _ _ _ _ (h.quiet o).sp);have HC:=Z0 (fun W (o:Out 0 0 w W)=>hC W _ _ _ _ _ (h.quiet o).rf);have hR:=fun W (o:Out 0 0 w W)=>j5v (h.quiet o).sp.1 (z7e hI) a i
 have hR':=fun W (o:Out 0 0 w W)=>q0u (h.quiet o).rf hI a i
 have hK:=fun W (o:Out 0 0 w W)=>q1u (h.quiet o).sp.1 (z7e hI) a
 have hK':=fun W (o:Out 0 0 w W)=>z2n (h.quiet o).rf hI a
 obtain⟨x1,hx1⟩:∃ x,rdV (Z6 n st) a i=x:=⟨_,rfl⟩
 obtain⟨x2,hx2⟩:∃ x,z4v (Z6 n st) a i=x:=⟨_,rfl⟩
 obtain⟨x3,hx3⟩:∃ x,z3w (Z6 n st) a=x:=⟨_,rfl⟩
 obtain⟨x4,hx4⟩:∃ x,z8k (Z6 n st) a=x:=⟨_,rfl⟩
 unfold z3l at hR' hK hK';simp only[hx1,hx2,hx3,hx4] at hR hR' hK hK';obtain⟨X,hX⟩:∃ X,s 14=X:=⟨_,rfl⟩
 obtain⟨Y,hY⟩:∃ Y,sr 0=Y:=⟨_,rfl⟩
 have p0:=h.p0;have p1:=h.p1;rw[hX] at p0 HB;rw[hY] at p1 HC;simp only[hX] at hR hK;simp only[hY] at hR' hK';have HR:=Z0 hR;have HR':=Z0 hR';have HK:=Z0 hK;have HK':=Z0 hK';clear h hB hC hI hR hR' hK hK' hx1 hx2 hx3 hx4 hX hY;have blt:b<w.heap.size:=by
  by_cases q:b<w.heap.size
  ·exact q
  ·have:w.heap[b]? = none:=by simp;omega
   simp[World.cell?,this] at p0
 go_enter Tryz.func27,Tryz.ntmps27
 go_wp2_with fail;refine(HB.out _ (Out.refl 0 0 w)).mono ?_;rintro e w1 ⟨rfl,o1⟩;have oB:=o1.alloc (.cells #[.int .i64 v1,.int .i64 v2,.int .i64 v3,.int .i64 v4,.int .i64 v5] 97);have pB:=oB.cell p1 z0;have fB:(w1.alloc (.cells #[.int .i64 v1,.int .i64 v2,.int .i64 v3,.int .i64 v4,.int .i64 v5] 97)).heap[w1.heap.size]? = some (.cells #[.int .i64 v1,.int .i64 v2,.int .i64 v3,.int .i64 v4,.int .i64 v5] 97):=heap_alloc_new _ _;obtain⟨b1,hb1⟩:∃ b1,w1.heap.size=b1:=⟨_,rfl⟩
 rw[hb1] at fB;have H1:=Z0 (And.intro oB fB);clear o1 oB fB;go_wp2_with fail;clear pB;refine(HC.out _ H1.out.1).mono ?_;rintro e w2 ⟨rfl,o2⟩;have oC:=(H1.out.1.trans o2).alloc (.cells #[.int .i64 v1,.int .i64 v2,.int .i64 v3,.int .i64 v4,.int .i64 v5] 97);have pC:=oC.cell p0 z0;have fC:(w2.alloc (.cells #[.int .i64 v1,.int .i64 v2,.int .i64 v3,.int .i64 v4,.int .i64 v5] 97)).heap[w2.heap.size]? = some (.cells #[.int .i64 v1,.int .i64 v2,.int .i64 v3,.int .i64 v4,.int .i64 v5] 97):=heap_alloc_new _ _;have fB2:=(o2.alloc (.cells #[.int .i64 v1,.int .i64 v2,.int .i64 v3,.int .i64 v4,.int .i64 v5] 97)).heap H1.out.2 z0;obtain⟨c1,hc1⟩:∃ c1,w2.heap.size=c1:=⟨_,rfl⟩
 rw[hc1] at fC;have H2:=Z0 (And.intro oC (And.intro fB2 fC));clear o2 oC fC fB2;go_wp2_with fail;clear pC;refine(HR.out _ H2.out.1).mono ?_;rintro e w3 ⟨rfl,o3⟩;have oF:=(H2.out.1.trans o3).alloc (.cells #[.int .i64 x2,.int .i64 x3] 39);have oF':=o3.alloc (.cells #[.int .i64 x2,.int .i64 x3] 39);have pF:=oF.cell p1 z0;have fF:(w3.alloc (.cells #[.int .i64 x2,.int .i64 x3] 39)).heap[w3.heap.size]? = some (.cells #[.int .i64 x2,.int .i64 x3] 39 (0,0)):=heap_alloc_new _ _;obtain⟨f1,hf1⟩:∃ f1,w3.heap.size=f1:=⟨_,rfl⟩
 rw[hf1] at fF;have H3:=Z0 (And.intro oF (And.intro (oF'.heap H2.out.2.1 z0) (And.intro (oF'.heap H2.out.2.2 z0) fF)));clear o3 oF oF' fF;go_wp2_with fail;clear pF;refine(HR'.out _ H3.out.1).mono ?_;rintro e w4 ⟨rfl,o4⟩;have oG:=(H3.out.1.trans o4).alloc (.cells #[.int .i64 x2,.int .i64 x3] 56);have oG':=o4.alloc (.cells #[.int .i64 x2,.int .i64 x3] 56);have fG:(w4.alloc (.cells #[.int .i64 x2,.int .i64 x3] 56)).heap[w4.heap.size]? = some (.cells #[.int .i64 x2,.int .i64 x3] 56 (0,0)):=heap_alloc_new _ _;obtain⟨g1,hg1⟩:∃ g1,w4.heap.size=g1:=⟨_,rfl⟩
 rw[hg1] at fG;have H4:=Z0 (And.intro oG (And.intro (oG'.heap H3.out.2.1 z0) (And.intro (oG'.heap H3.out.2.2.1 z0) (And.intro (oG'.heap H3.out.2.2.2 z0) fG))));clear o4 oG oG' fG;go_wp2_with fail;obtain⟨V,hV⟩:∃ V,w4.alloc (.cells #[.int .i64 x2,.int .i64 x3] 56)=V:=⟨_,rfl⟩
 rw[hV] at H4;(try rw[hV]);have r0:=H4.out.1.cell p0 z0;have r1:=H4.out.1.cell p1 z0;obtain⟨m0,m1,m2,m3,m4⟩:=V7 H4.out.2.1;obtain⟨k0,k1,k2,k3,k4⟩:=V7 H4.out.2.2.1;obtain⟨u0,u1,_,_⟩:=Z7 H4.out.2.2.2.1;obtain⟨t0,t1,_,_⟩:=Z7 H4.out.2.2.2.2;have hOV:=H4.out.1;clear hV;refine wp_region_held_drew (S:=fun w'=>w'.cell? ⟨b,0,none⟩=some (.pointer (some ⟨X,0,none⟩))/\w'.cell? ⟨b,1,none⟩=some (.pointer (some ⟨Y,0,none⟩))/\w'.cell? ⟨b1,0,none⟩=some (.int .i64 v1)/\w'.cell? ⟨b1,1,none⟩=some (.int .i64 v2)/\w'.cell? ⟨b1,2,none⟩=some (.int .i64 v3)/\w'.cell? ⟨b1,3,none⟩=some (.int .i64 v4)/\w'.cell? ⟨b1,4,none⟩=some (.int .i64 v5)/\w'.cell? ⟨c1,0,none⟩=some (.int .i64 v1)/\w'.cell? ⟨c1,1,none⟩=some (.int .i64 v2)/\w'.cell? ⟨c1,2,none⟩=some (.int .i64 v3)/\w'.cell? ⟨c1,3,none⟩=some (.int .i64 v4)/\w'.cell? ⟨c1,4,none⟩=some (.int .i64 v5)/\w'.cell? ⟨f1,0,none⟩=some (.int .i64 x2)/\w'.cell? ⟨f1,1,none⟩=some (.int .i64 x3)/\w'.cell? ⟨g1,0,none⟩=some (.int .i64 x2)/\w'.cell? ⟨g1,1,none⟩=some (.int .i64 x3)/\Out 0 0 w w') (by kernel_rfl) ?hS1 (fun hHeld=>?rest1)
 case hS1=>exact⟨r0,r1,m0,m1,m2,m3,m4,k0,k1,k2,k3,k4,u0,u1,t0,t1,hOV.drew⟩
 refine tk 0 ?_;refine tk 1 ?_;refine tk 2 ?_;refine tk 3 ?_;refine tk 4 ?_;refine tk 5 ?_;refine tk 6 ?_;refine tk 7 ?_;refine tk 8 ?_;refine tk 9 ?_;refine tk 10 ?_;refine tk 11 ?_;refine tk 12 ?_;refine tk 13 ?_;refine tk 15 ?_;refine tk 16 ?_;refine tk 17 ?_;refine tk 18 ?_;refine tk 19 ?_;refine rd1 14 fun KK hK=>?_
 simp only[xa,xb,xc];go_simp;refine(HK.out _ hHeld.2.2.2.2.2.2.2.2.2.2.2.2.2.2.2.2).mono ?_;rintro e V1 ⟨rfl,q1⟩;refine hK.out _ _ ?hS21 (fun hHeld2=>?rest21)
 case hS21=>exact⟨q1.cell hHeld.1 z0,q1.cell hHeld.2.1 z0,q1.cell hHeld.2.2.1 z0,q1.cell hHeld.2.2.2.1 z0,q1.cell hHeld.2.2.2.2.1 z0,q1.cell hHeld.2.2.2.2.2.1 z0,q1.cell hHeld.2.2.2.2.2.2.1 z0,q1.cell hHeld.2.2.2.2.2.2.2.1 z0,q1.cell hHeld.2.2.2.2.2.2.2.2.1 z0,q1.cell hHeld.2.2.2.2.2.2.2.2.2.1 z0,q1.cell hHeld.2.2.2.2.2.2.2.2.2.2.1 z0,q1.cell hHeld.2.2.2.2.2.2.2.2.2.2.2.1 z0,q1.cell hHeld.2.2.2.2.2.2.2.2.2.2.2.2.1 z0,q1.cell hHeld.2.2.2.2.2.2.2.2.2.2.2.2.2.1 z0,q1.cell hHeld.2.2.2.2.2.2.2.2.2.2.2.2.2.2.1 z0,q1.cell hHeld.2.2.2.2.2.2.2.2.2.2.2.2.2.2.2.1 z0,hHeld.2.2.2.2.2.2.2.2.2.2.2.2.2.2.2.2.trans q1⟩
 clear hK KK;replace hHeld:=hHeld2;clear hHeld2;refine rd1 20 fun KK hK=>?_
 simp only[xa,xb,xc];go_simp;refine(HK'.out _ hHeld.2.2.2.2.2.2.2.2.2.2.2.2.2.2.2.2).mono ?_;rintro e V2 ⟨rfl,q2⟩;refine hK.out _ _ ?hS22 (fun hHeld2=>?rest22)
 case hS22=>exact⟨q2.cell hHeld.1 z0,q2.cell hHeld.2.1 z0,q2.cell hHeld.2.2.1 z0,q2.cell hHeld.2.2.2.1 z0,q2.cell hHeld.2.2.2.2.1 z0,q2.cell hHeld.2.2.2.2.2.1 z0,q2.cell hHeld.2.2.2.2.2.2.1 z0,q2.cell hHeld.2.2.2.2.2.2.2.1 z0,q2.cell hHeld.2.2.2.2.2.2.2.2.1 z0,q2.cell hHeld.2.2.2.2.2.2.2.2.2.1 z0,q2.cell hHeld.2.2.2.2.2.2.2.2.2.2.1 z0,q2.cell hHeld.2.2.2.2.2.2.2.2.2.2.2.1 z0,q2.cell hHeld.2.2.2.2.2.2.2.2.2.2.2.2.1 z0,q2.cell hHeld.2.2.2.2.2.2.2.2.2.2.2.2.2.1 z0,q2.cell hHeld.2.2.2.2.2.2.2.2.2.2.2.2.2.2.1 z0,q2.cell hHeld.2.2.2.2.2.2.2.2.2.2.2.2.2.2.2.1 z0,hHeld.2.2.2.2.2.2.2.2.2.2.2.2.2.2.2.2.trans q2⟩
 clear hK KK;replace hHeld:=hHeld2;clear hHeld2;refine rd1 21 fun KK hK=>?_
 simp only[xa,xb,xc];go_simp;refine(z0l _ _ _).mono ?_;rintro e V3 ⟨rfl,q3⟩;refine hK.out _ _ ?hS23 (fun hHeld2=>?rest23)
 case hS23=>exact⟨q3.cell hHeld.1 z0,q3.cell hHeld.2.1 z0,q3.cell hHeld.2.2.1 z0,q3.cell hHeld.2.2.2.1 z0,q3.cell hHeld.2.2.2.2.1 z0,q3.cell hHeld.2.2.2.2.2.1 z0,q3.cell hHeld.2.2.2.2.2.2.1 z0,q3.cell hHeld.2.2.2.2.2.2.2.1 z0,q3.cell hHeld.2.2.2.2.2.2.2.2.1 z0,q3.cell hHeld.2.2.2.2.2.2.2.2.2.1 z0,q3.cell hHeld.2.2.2.2.2.2.2.2.2.2.1 z0,q3.cell hHeld.2.2.2.2.2.2.2.2.2.2.2.1 z0,q3.cell hHeld.2.2.2.2.2.2.2.2.2.2.2.2.1 z0,q3.cell hHeld.2.2.2.2.2.2.2.2.2.2.2.2.2.1 z0,q3.cell hHeld.2.2.2.2.2.2.2.2.2.2.2.2.2.2.1 z0,q3.cell hHeld.2.2.2.2.2.2.2.2.2.2.2.2.2.2.2.1 z0,hHeld.2.2.2.2.2.2.2.2.2.2.2.2.2.2.2.2.trans q3⟩
 clear hK KK;replace hHeld:=hHeld2;clear hHeld2;refine tk 22 ?_;refine tk 23 ?_;refine tk 24 ?_;refine tk 25 ?_;refine tk 26 ?_;refine tk 27 ?_;refine tk 28 ?_;refine tk 29 ?_;refine tk 30 ?_;refine rd1 31 fun KK hK=>?_
 simp only[xa,xb,xc];go_simp;refine(z0l _ _ _).mono ?_;rintro e V4 ⟨rfl,q4⟩;refine hK.out _ _ ?hS33 (fun hHeld2=>?rest33)
 case hS33=>exact⟨q4.cell hHeld.1 z0,q4.cell hHeld.2.1 z0,q4.cell hHeld.2.2.1 z0,q4.cell hHeld.2.2.2.1 z0,q4.cell hHeld.2.2.2.2.1 z0,q4.cell hHeld.2.2.2.2.2.1 z0,q4.cell hHeld.2.2.2.2.2.2.1 z0,q4.cell hHeld.2.2.2.2.2.2.2.1 z0,q4.cell hHeld.2.2.2.2.2.2.2.2.1 z0,q4.cell hHeld.2.2.2.2.2.2.2.2.2.1 z0,q4.cell hHeld.2.2.2.2.2.2.2.2.2.2.1 z0,q4.cell hHeld.2.2.2.2.2.2.2.2.2.2.2.1 z0,q4.cell hHeld.2.2.2.2.2.2.2.2.2.2.2.2.1 z0,q4.cell hHeld.2.2.2.2.2.2.2.2.2.2.2.2.2.1 z0,q4.cell hHeld.2.2.2.2.2.2.2.2.2.2.2.2.2.2.1 z0,q4.cell hHeld.2.2.2.2.2.2.2.2.2.2.2.2.2.2.2.1 z0,hHeld.2.2.2.2.2.2.2.2.2.2.2.2.2.2.2.2.trans q4⟩
 clear hK KK;replace hHeld:=hHeld2;clear hHeld2;refine tk 32 ?_;refine tk 33 ?_;refine dn ?_;have hE:=hHeld.2.2.2.2.2.2.2.2.2.2.2.2.2.2.2.2;clear hHeld;go_wp2;go_ret;exact⟨rfl,hE⟩
end
end Go.Proofs.YtjbbkeoolodeaabGreatDoor
