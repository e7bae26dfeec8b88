import Derived.Test.YtjbbkeoolodeaabGreatDoorB09
import Derived.Test.YtjbbkeoolodeaabGreatDoorB29
import Derived.Test.YtjbbkeoolodeaabGreatDoorB30
import Derived.Test.YtjbbkeoolodeaabGreatDoorB07
namespace Go.Proofs.YtjbbkeoolodeaabGreatDoor
open Go.RowKit
set_option linter.unusedVariables false
set_option maxRecDepth 100000
set_option maxHeartbeats 16000000
set_option linter.unusedSimpArgs false
def obC (st:Sp) (j:Nat):Int:=
 if Q7 (st.O (j / 5)) then (if j % 5=0 then ((j / 5:Nat):Int) else if j % 5=1 then (st.O (j / 5)).1 else if j % 5=2 then (st.O (j / 5)).2.1 else if j % 5=3 then (st.O (j / 5)).2.2.1 else (st.O (j / 5)).2.2.2) else 0
structure RfAt (w:World) (lo hi:Nat) (s:Nat->Nat) (n cw co:Nat) (st:Sp):Prop where
 n1:1<=n
 n2:n<=4096
 top:hi<=w.heap.size
 glob:4<=lo
 inn:∀ i,i<5->lo<=s i/\s i<hi
 ne:∀ i j,i<5->j<5->s i=s j->i=j
 box:w.heap[s 0]? = some (.cells #[.slice (some ⟨s 1,0,none⟩) (64*n) cw,.pointer (some ⟨s 2,0,none⟩),.slice (some ⟨s 4,0,none⟩) (64*n) co,.int .i64 st.last] 74 (0,0))
 rw:Row w (s 1) 3 (64*n) (fun j=>.int .i64 (st.W j))
 rt:TblAt 130 w (s 2) (s 3) n st.S
 ro:Row w (s 4) 97 (64*n*5) (fun j=>.int .i64 (obC st j))
section
variable {w w':World} {lo hi n cw co:Nat} {s:Nat->Nat} {st:Sp}
theorem RfAt.kept {x y:Nat} (h:RfAt w lo hi s n cw co st) (o:Out x y w w') (hd:hi<=x\/y<=lo):RfAt w' lo hi s n cw co st:=
 have f:∀ i,i<5->s i<x\/y<=s i:=fun i hi=>by have:=h.inn i hi;omega
 ⟨h.n1,h.n2,Nat.le_trans h.top o.size,h.glob,h.inn,h.ne,o.heap h.box (f 0 (by omega)),h.rw.kept o (f 1 (by omega)),h.rt.kept o (f 2 (by omega)) (f 3 (by omega)),h.ro.kept o (f 4 (by omega))⟩
theorem RfAt.quiet (h:RfAt w lo hi s n cw co st) (o:Out 0 0 w w'):RfAt w' lo hi s n cw co st:=h.kept o z0
theorem RfAt.cells (h:RfAt w lo hi s n cw co st):w.cell? ⟨s 0,0,none⟩=some (.slice (some ⟨s 1,0,none⟩) (64*n) cw)/\w.cell? ⟨s 0,1,none⟩=some (.pointer (some ⟨s 2,0,none⟩))/\w.cell? ⟨s 0,2,none⟩=some (.slice (some ⟨s 4,0,none⟩) (64*n) co)/\w.cell? ⟨s 0,3,none⟩=some (.int .i64 st.last)/\∀ j,w.frozen? ⟨s 0,j,none⟩=false:=by
 refine⟨?_,?_,?_,?_,fun j=>?_⟩ <;> simp[World.cell?,World.frozen?,h.box]
theorem RfAt.setW (h:RfAt w lo hi s n cw co st) {a:Nat} (ha:a<64*n) (x:Int):RfAt (w.setCell ⟨s 1,a,none⟩ (.int .i64 x)) lo hi s n cw co { st with W:=z5b st.W a x }/\Out lo hi w (w.setCell ⟨s 1,a,none⟩ (.int .i64 x)):=by
 have o:Out (s 1) (s 1+1) w (w.setCell ⟨s 1,a,none⟩ (.int .i64 x)):=(Out.refl _ _ _).setCell (p:=⟨s 1,a,none⟩) z1 _;have h1:=h.inn 1 (by omega);have f:∀ i,i<5->i ≠ 1->s i<s 1\/s 1+1<=s i:=fun i hi hne=>by
  have:s i ≠ s 1:=fun e=>hne (h.ne i 1 hi (by omega) e)
  omega
 refine⟨⟨h.n1,h.n2,Nat.le_trans h.top o.size,h.glob,h.inn,h.ne,o.heap h.box (f 0 (by omega) (by omega)),?_,h.rt.kept o (f 2 (by omega) (by omega)) (f 3 (by omega) (by omega)),h.ro.kept o (f 4 (by omega) (by omega))⟩,o.wide h1.1 (by omega)⟩;refine(h.rw.set a (.int .i64 x)).congr fun j _=>?_
 show (if j=a then _ else _)=Value.int .i64 (z5b st.W a x j)
 unfold z5b;by_cases e:j=a
 ·rw[if_pos e,if_pos e]
 ·rw[if_neg e,if_neg e]
theorem q3y (h:RfAt w lo hi s n cw co st) (a:Int):Calls Tryz.prog 26 #[.pointer (some ⟨s 0,0,none⟩),.int .i64 a] w fun e w'=>e=.returned (.tuple #[.int .i64 (z7r n st.W a),.bool (inB (64*n) a)])/\w'=w:=by
 have c0:=h.cells.1;have h2:=h.n2;obtain⟨M,hM⟩:∃ M,64*n=M:=⟨_,rfl⟩
 have M1:(M:Int)<=262144:=by omega
 have M0:(0:Int)<=(M:Int):=by omega
 unfold z7r;rw[hM] at c0 ⊢;by_cases h0:0<=a
 ·by_cases h1:a<(M:Int)
  ·obtain⟨k,rfl⟩:∃ k:Nat,a=(k:Int):=⟨a.toNat,by omega⟩
   have d0:=h.rw.cell (i:=k) (by omega);have hin:inB M (k:Int)=true:=by unfold inB;simp;omega
   rw[hin,if_pos rfl,show ((k:Nat):Int).toNat=k from by omega];clear h h2 hM hin;go_enter Tryz.func26,Tryz.ntmps26
   go_wp2;go_ret2;exact⟨rfl,rfl⟩
  ·have hin:inB M a=false:=by unfold inB;simp;omega
   rw[hin,if_neg (by simp)];clear h h2 hM hin;go_enter Tryz.func26,Tryz.ntmps26
   go_wp2;go_ret2;exact⟨rfl,rfl⟩
 ·have hin:inB M a=false:=by unfold inB;simp;omega
  have h1:a<0:=by omega
  rw[hin,if_neg (by simp)];clear h h2 hM hin h0;go_enter Tryz.func26,Tryz.ntmps26
  go_wp2;go_ret2;exact⟨rfl,rfl⟩
theorem z7d (h:RfAt w lo hi s n cw co st) (a x:Int):Calls Tryz.prog 23 #[.pointer (some ⟨s 0,0,none⟩),.int .i64 a,.int .i64 x] w fun e w'=>e=.returned (.bool (inB (64*n) a))/\RfAt w' lo hi s n cw co { st with W:=z6c n st.W a x }/\Out lo hi w w':=by
 have c0:=h.cells.1;have h2:=h.n2;obtain⟨M,hM⟩:∃ M,64*n=M:=⟨_,rfl⟩
 have M1:(M:Int)<=262144:=by omega
 have M0:(0:Int)<=(M:Int):=by omega
 have HH:=Z0 h;unfold z6c;rw[hM] at c0 ⊢;by_cases h0:0<=a
 ·by_cases h1:a<(M:Int)
  ·obtain⟨k,rfl⟩:∃ k:Nat,a=(k:Int):=⟨a.toNat,by omega⟩
   have d0:=h.rw.cell (i:=k) (by omega);have d1:=h.rw.frozen k;have hin:inB M (k:Int)=true:=by unfold inB;simp;omega
   rw[hin,if_pos rfl,show ((k:Nat):Int).toNat=k from by omega];have HS:=Z0 (h.setW (a:=k) (by omega) x);clear h h2 hM hin;go_enter Tryz.func23,Tryz.ntmps23
   go_wp2;go_ret;exact⟨rfl,HS.out⟩
  ·have hin:inB M a=false:=by unfold inB;simp;omega
   rw[hin,if_neg (by simp)];clear h h2 hM hin;go_enter Tryz.func23,Tryz.ntmps23
   go_wp2;go_ret;exact⟨rfl,HH.out,Out.refl _ _ _⟩
 ·have hin:inB M a=false:=by unfold inB;simp;omega
  have h1:a<0:=by omega
  rw[hin,if_neg (by simp)];clear h h2 hM hin h0;go_enter Tryz.func23,Tryz.ntmps23
  go_wp2;go_ret;exact⟨rfl,HH.out,Out.refl _ _ _⟩
end
theorem z0w {x:Int} (h1:-1<=x) (h2:x<=262143) (w:World):Calls Tryz.prog 58 #[.int .i64 x] w fun e w'=>e=.returned (.int .i64 (Y7 x))/\w'=w:=by
 have HL:Hid (Y7 x=x*8+4):=by show _=_;unfold Y7 q7n;rw[if_pos (by simp;omega)]
 go_enter Tryz.func58,Tryz.ntmps58
 go_wp2;go_ret;exact⟨by rw[HL.out];rfl,rfl⟩
theorem z6y {z:Int} (z1:1<=z) (z2:z<=1024) (w:World):Calls Tryz.prog 83 #[.int .i64 z] w fun e w'=>e=.returned (.int .i64 (J3 z:Int))/\w'=w:=by
 have HP:=Z0 (fun w=>z2q z w);by_cases hz:z<=32
 ·have hp:J4 z=0:=by unfold J4;rw[if_neg (by omega)]
  have HO:=Z0 (fun w=>z1u z w);have HW:=Z0 (fun w=>z5y (ofV z) w);have hs:=W9 z1 hz;have hr:(J3 z:Int)=J2 (ofV z):=by
   unfold J3;rw[if_neg (by omega)];unfold wN;omega
  rw[hp] at HP;rw[hr];clear hp hr hs z1 z2 hz;go_enter Tryz.func83,Tryz.ntmps83
  go_wp2_with (first | (go_at_call 107;refine Z5 (HP.out _) ?_) | (go_at_call 57;refine Z5 (HO.out _) ?_) | (go_at_call 109;refine Z5 (HW.out _) ?_));go_ret;exact⟨rfl,rfl⟩
 ·have hk:=z6f (s:=z) (by omega) z2;obtain⟨k,hkk⟩:∃ k,((z+63) / 64).toNat=k:=⟨_,rfl⟩
  rw[hkk] at hk;have hp:J4 z=(k:Int):=by unfold J4;rw[if_pos (by omega),hk.2.2]
  have hr:(J3 z:Int)=(k:Int)*64:=by
   unfold J3;rw[if_pos (by omega),hkk];push_cast;rfl
  have k1:(0:Int)<(k:Int):=by omega
  have k2:(k:Int)<=16:=by omega
  rw[hp] at HP;rw[hr];clear hp hr hk hkk z1 z2 hz;go_enter Tryz.func83,Tryz.ntmps83
  go_wp2_with (go_at_call 107;refine Z5 (HP.out _) ?_);go_ret;exact⟨rfl,rfl⟩
theorem z3g (st:Sp) (a:Nat):obC st (a*5+1)=if Q7 (st.O a) then (st.O a).1 else 0:=by
 unfold obC;rw[show (a*5+1) / 5=a from by omega,show (a*5+1) % 5=1 from by omega];rfl
section
variable {n:Nat} {st:Sp} {c:Int}
theorem x0z {f a:Nat} (h1:f<=a) (h2:fr n st c a=true) (h3:∀ j,f<=j->j<a->fr n st c j=false):nf n st c f=(a:Int):=by
 have ha:=(fr_iff.1 h2).1;unfold nf;rcases Q1 (fr n st c) (64*n) f with ⟨_,e⟩ | ⟨i,e,i1,i2,i3,i4⟩
 ·rw[e a h1 ha] at h2;cases h2
 ·have hfi:=i2 (by omega);by_cases h:i<a
  ·rw[h3 i hfi h] at i3;cases i3
  ·by_cases h':a<i
   ·rw[i4 a h1 h'] at h2;cases h2
   ·rw[e];omega
theorem x2e {f:Nat} (hf:f<=64*n) (h3:∀ j,f<=j->j<64*n->fr n st c j=false):nf n st c f = -1:=by
 unfold nf;rcases Q1 (fr n st c) (64*n) f with ⟨e,_⟩ | ⟨i,e,i1,i2,i3,i4⟩
 ·exact e
 ·rw[h3 i (i2 hf) i1] at i3;cases i3
theorem j3m {p j:Nat} (h:st.S p ≠ (1,c,0)) (h1:64*p<=j) (h2:j<64*p+64):fr n st c j=false:=by
 cases hf:fr n st c j with
 | false=>rfl
 | true=>
  have:=(fr_iff.1 hf).2.1;rw[show j / 64=p from by omega] at this;exact absurd this h
theorem z2v (h0:0<=c) (h7:c<=7) {p i j:Nat} (hi:(i+1)*wN c<=64) (h1:64*p+i*wN c<j) (h2:j<64*p+(i+1)*wN c):fr n st c j=false:=by
 have hw:=z4l h0 h7;rw[Nat.add_mul] at h2 hi;obtain⟨q,hq⟩:∃ q,i*wN c=q:=⟨_,rfl⟩
 rw[hq] at h1 h2 hi;cases hf:fr n st c j with
 | false=>rfl
 | true=>
  obtain⟨_,_,e,_⟩:=fr_iff.1 hf;unfold K7 at e;simp only[Bool.and_eq_true,decide_eq_true_eq] at e;obtain⟨d,hd⟩:∃ d,j=64*p+q+d:=⟨j-(64*p+q),by omega⟩
  subst hd;rw[show (64*p+q+d) % 64=q+d from by omega,<-hq,Nat.mul_comm,Nat.mul_add_mod,Nat.mod_eq_of_lt (by omega)] at e;omega
theorem q3j (h0:0<=c) (h7:c<=7) {p i j:Nat} (hi:64<(i+1)*wN c) (h1:64*p+i*wN c<=j) (h2:j<64*p+64):fr n st c j=false:=by
 rw[Nat.add_mul] at hi;cases hf:fr n st c j with
 | false=>rfl
 | true=>
  obtain⟨_,_,e,_⟩:=fr_iff.1 hf;unfold K7 at e;simp only[Bool.and_eq_true,decide_eq_true_eq] at e;omega
end
theorem j7c {c:Nat} (h:c<8):∃ B z:Nat,J6 (c:Int)=(B:Int)/\J2 (c:Int)=(z:Int)/\wN (c:Int)=z/\2<=z/\z<=32/\2<=B/\B<=32/\B*z<=64/\64<(B+1)*z:=by
 have:c=0\/c=1\/c=2\/c=3\/c=4\/c=5\/c=6\/c=7:=by omega
 rcases this with rfl | rfl | rfl | rfl | rfl | rfl | rfl | rfl
 ·exact⟨32,2,rfl,rfl,rfl,by decide⟩
 ·exact⟨16,4,rfl,rfl,rfl,by decide⟩
 ·exact⟨10,6,rfl,rfl,rfl,by decide⟩
 ·exact⟨8,8,rfl,rfl,rfl,by decide⟩
 ·exact⟨5,12,rfl,rfl,rfl,by decide⟩
 ·exact⟨4,16,rfl,rfl,rfl,by decide⟩
 ·exact⟨3,20,rfl,rfl,rfl,by decide⟩
 ·exact⟨2,32,rfl,rfl,rfl,by decide⟩
theorem G0 {w:World} {lo hi n cw co:Nat} {s:Nat->Nat} {st:Sp} (h:RfAt w lo hi s n cw co st) {c:Nat} (hc:c<8) {f:Nat} (hf:f<=64*n) :
  Calls Tryz.prog 59 #[.pointer (some ⟨s 0,0,none⟩),.int .i64 (c:Int),.int .i64 (f:Int)] w fun e w'=>e=.returned (.int .i64 (nf n st (c:Int) f))/\w'=w:=by
 obtain⟨c0,c1,c2,c3,_⟩:=h.cells;obtain⟨cap,d0,_⟩:=h.rt.cell;have HPr:=Z0 h.rt.row;have HGd:=Z0 h.rt.good;have HRo:=Z0 h.ro;have HN:=Z0 (And.intro h.n1 h.n2);obtain⟨B,z,hB,hz,hzN,z1,z2,B1,B2,Bz1,Bz2⟩:=j7c hc;have HBk:=Z0 (fun w=>z2g (c:Int) w);have HSt:=Z0 (fun(i:Int) w=>z5v (c:Int) i w);rw[hB] at HBk;obtain⟨M,hM⟩:∃ M,64*n=M:=⟨_,rfl⟩
 have hn:=HN.out;have f0:(0:Int)<=(f:Int):=by omega
 have f1:¬ (f:Int)<0:=by omega
 have f2:(f:Int)<=262144:=by omega
 have n0:(1:Int)<=(n:Int):=by omega
 have n1:(n:Int)<=4096:=by omega
 obtain⟨fp,hfp⟩:∃ fp,f / 64=fp:=⟨_,rfl⟩
 have f3:(f:Int) / 64=(fp:Int):=by omega
 have B0:(0:Int)<=(B:Int):=by omega
 have B3:(B:Int)<=32:=by omega
 have cz:(0:Int)<=(c:Int):=by omega
 have c7:(c:Int)<=7:=by omega
 have HF:=Z0 (And.intro hf (And.intro hfp (And.intro hB (And.intro hz (And.intro hzN (And.intro z1 (And.intro z2 (And.intro Bz1 (And.intro Bz2 hM)))))))));rw[hM] at c2;have M1:(M:Int)<=262144:=by omega
 clear h hf hfp hB hz hzN z1 z2 Bz1 Bz2 hn B1 B2 c0 c3 hM;go_enter Tryz.func59,Tryz.ntmps59
 go_wp2_with fail;go_loopw [7] (fun u wr=>∃ p:Nat,u=.int .i64 (p:Int)/\fp<=p/\p<=n/\(∀ j,f<=j->j<64*p->fr n st (c:Int) j=false)/\wr=w) (fun u _=>n-(intOf u).toNat)
 case atStart=>exact⟨fp,rfl,Nat.le_refl _,by have:=HF.out;omega,fun j h1 h2=>by have:=HF.out.2.1;omega,rfl⟩
 case round=>
  obtain⟨p,rfl,pa,pb,hno,hwr⟩:=hrel;subst hwr;have p0:(0:Int)<=(p:Int):=by omega
  by_cases hp:p<n
  ·have p1:(p:Int)<(n:Int):=by omega
   obtain⟨e0,e1,_⟩:=HPr.out.cells hp;obtain⟨kd,hkd⟩:∃ kd,(st.S p).1=kd:=⟨_,rfl⟩
   obtain⟨cl,hcl⟩:∃ cl,(st.S p).2.1=cl:=⟨_,rfl⟩
   rw[hkd] at e0;rw[hcl] at e1;have HNo:=Z0 hno;clear hno;by_cases hk:kd=1/\cl=(c:Int)
   ·obtain⟨rfl,rfl⟩:=hk;have hS:st.S p=(1,(c:Int),0):=by
     rcases HGd.out p hp with e | ⟨c',_,_,e⟩ | ⟨k,_,_,_,e,_⟩ | ⟨e,_⟩
     ·rw[e] at hkd;cases hkd
     ·rw[e] at hcl ⊢;rw[show c'=(c:Int) from hcl]
     ·rw[e] at hkd;cases hkd
     ·rw[e] at hkd;cases hkd
    have HSp:=Z0 hS;clear hkd hcl hS;go_wp2_with fail;go_loopw [8] (fun u wq=>∃ i:Nat,u=.int .i64 (i:Int)/\i<=B/\(∀ j,f<=j->j<64*p+i*z->fr n st (c:Int) j=false)/\wq=wr) (fun u _=>B-(intOf u).toNat)
    case atStart=>exact⟨0,rfl,Nat.zero_le _,fun j h1 h2=>HNo.out j h1 (by omega),rfl⟩
    case round=>
     obtain⟨i,rfl,ib,hno,hwq⟩:=hrel;subst hwq;have i0:(0:Int)<=(i:Int):=by omega
     have HNi:=Z0 hno;clear hno;by_cases hi':i<B
     ·have i1:(i:Int)<(B:Int):=by omega
      have hF:=HF.out;have hle:(i+1)*z<=B*z:=Nat.mul_le_mul_right _ hi';have hst:z0o (c:Int) (i:Int)=((i*z:Nat):Int):=by
       unfold z0o;rw[hF.2.2.1,if_pos ⟨by omega,by omega⟩,hF.2.2.2.1];push_cast;rfl
      have HSi:=Z0 (fun w=>HSt.out (i:Int) w);rw[hst] at HSi;obtain⟨q,hq⟩:∃ q,i*z=q:=⟨_,rfl⟩
      have hle2:q+z<=64:=by rw[Nat.add_mul] at hle;omega
      rw[hq] at HSi;obtain⟨a,ha⟩:∃ a,64*p+q=a:=⟨_,rfl⟩
      have q0:(0:Int)<=(q:Int):=by omega
      have q1:(q:Int)<=64:=by omega
      obtain⟨P,hP⟩:∃ P,p*64=P:=⟨_,rfl⟩
      have P0:(p:Int)*64=(P:Int):=by omega
      have P1:(0:Int)<=(P:Int):=by omega
      have P2:(P:Int)<=262144:=by omega
      have a0:(P:Int)+(q:Int)=(a:Int):=by omega
      have a1:(0:Int)<=(a:Int):=by omega
      have aM:a<64*n:=by omega
      have a2:(a:Int)<(M:Int):=by omega
      have d5:=HRo.out.cell (i:=a*5+1) (by omega);rw[z3g] at d5;have hst2:K7 (c:Int) (a % 64)=true:=by
       unfold K7;rw[hF.2.2.2.2.1,show a % 64=q from by omega,<-hq];simp only[Bool.and_eq_true,decide_eq_true_eq];exact⟨Nat.mul_mod_left _ _,by omega⟩
      have hfr:fr n st (c:Int) a = !Q7 (st.O a):=by
       unfold fr;rw[show a / 64=p from by omega,HSp.out,hst2,show decide (a<64*n)=true from by simp;omega];simp
      have hnext:fr n st (c:Int) a=false\/a<f->∀ j,f<=j->j<64*p+(i+1)*z->fr n st (c:Int) j=false:=fun hor j h1 h2=>by
       by_cases hj:j<64*p+i*z
       ·exact HNi.out j h1 hj
       ·by_cases he:j=a
        ·rcases hor with hor | hor
         ·rw[he];exact hor
         ·omega
        ·exact z2v cz c7 (p:=p) (i:=i) (by rw[hF.2.2.2.2.1,Nat.add_mul];omega) (by rw[hF.2.2.2.2.1];omega) (by rw[hF.2.2.2.2.1];exact h2)
      have hfound:fr n st (c:Int) a=true->f<=a->nf n st (c:Int) f=(a:Int):=fun h1 h2=>x0z h2 h1 fun j j1 j2=>HNi.out j j1 (by omega)
      have HX:=Z0 (And.intro hnext (And.intro hfound hfr));clear hle hst hq hle2 hP ha hst2 hfr hnext hfound hF aM;by_cases hfa:(f:Int)<=(a:Int)
      ·cases hb:Q7 (st.O a) with
       | false=>
        rw[hb,if_neg (by simp)] at d5;have hres:=HX.out.2.1 (by rw[HX.out.2.2,hb];rfl) (by omega);have HRes:=Z0 hres;clear hb hres;go_wp2_with (first | (go_at_call 110;refine Z5 (HBk.out _) ?_) | (go_at_call 111;refine Z5 (HSi.out _) ?_));go_ret;exact⟨by rw[HRes.out];rfl,rfl⟩
       | true=>
        rw[hb,if_pos rfl] at d5;obtain⟨k5,hk5⟩:∃ k,(st.O a).1=k:=⟨_,rfl⟩
        rw[hk5] at d5;have hk0:k5 ≠ 0:=by unfold Q7 at hb;rw[hk5] at hb;simpa using hb
        have HNx:=Z0 (HX.out.1 (.inl (by rw[HX.out.2.2,hb];rfl)));clear hb hk5;go_wp2_with (first | (go_at_call 110;refine Z5 (HBk.out _) ?_) | (go_at_call 111;refine Z5 (HSi.out _) ?_));exact⟨⟨i+1,by congr 1,by omega,HNx.out,by trivial⟩,by simp[intOf] <;> omega⟩
      ·have HNx:=Z0 (HX.out.1 (.inr (by omega)));clear d5;go_wp2_with (first | (go_at_call 110;refine Z5 (HBk.out _) ?_) | (go_at_call 111;refine Z5 (HSi.out _) ?_));exact⟨⟨i+1,by congr 1,by omega,HNx.out,by trivial⟩,by simp[intOf] <;> omega⟩
     ·have e:i=B:=by omega
      subst e;go_wp2_with (go_at_call 110;refine Z5 (HBk.out _) ?_);refine⟨⟨p+1,by congr 1,by omega,by omega,fun j h1 h2=>?_,by trivial⟩,by simp[intOf] <;> omega⟩;have hF:=HF.out;by_cases hj:j<64*p+i*z
      ·exact HNi.out j h1 hj
      ·exact q3j cz c7 (p:=p) (i:=i) (by rw[hF.2.2.2.2.1];exact hF.2.2.2.2.2.2.2.2.1) (by rw[hF.2.2.2.2.1];omega) (by omega)
   ·have hne:st.S p ≠ (1,(c:Int),0):=fun e=>hk ⟨by rw[<-hkd,e],by rw[<-hcl,e]⟩
    have HNx:Hid (∀ j,f<=j->j<64*(p+1)->fr n st (c:Int) j=false):=fun j h1 h2=>by
     by_cases hj:j<64*p
     ·exact HNo.out j h1 hj
     ·exact j3m hne (by omega) (by omega)
    clear hne hkd hcl;by_cases hk1:kd=1
    ·have hk2:cl ≠ (c:Int):=fun e=>hk ⟨hk1,e⟩
     clear hk;subst hk1;go_wp2_with fail;exact⟨⟨p+1,by congr 1,by omega,by omega,HNx.out,by trivial⟩,by simp[intOf] <;> omega⟩
    ·clear hk;go_wp2_with fail;exact⟨⟨p+1,by congr 1,by omega,by omega,HNx.out,by trivial⟩,by simp[intOf] <;> omega⟩
  ·have e:p=n:=by omega
   subst e;have hres:=x2e (n:=p) (st:=st) (c:=(c:Int)) HF.out.1 hno;have HRes:=Z0 hres;clear hno hres;go_wp2;go_ret;exact⟨by rw[HRes.out];rfl,rfl⟩
section
variable {w:World} {lo hi n cw co:Nat} {s:Nat->Nat} {st:Sp}
theorem q9a (W:Nat->Int) (a k:Nat):z5b (U9 W a k) (a+k) 0=U9 W a (k+1):=by
 funext i
 unfold z5b U9;by_cases e:i=a+k
 ·rw[if_pos e,if_pos (by omega)]
 ·rw[if_neg e];by_cases e2:a<=i/\i<a+k
  ·rw[if_pos e2,if_pos (by omega)]
  ·rw[if_neg e2,if_neg (by omega)]
theorem q9m (W:Nat->Int) (a:Nat):U9 W a 0=W:=by
 funext i
 unfold U9;rw[if_neg (by omega)]
theorem z7w (h:RfAt w lo hi s n cw co st) {a k:Nat} (ha:a+k<=64*n):Calls Tryz.prog 113 #[.pointer (some ⟨s 0,0,none⟩),.int .i64 (a:Int),.int .i64 (k:Int)] w fun e w'=>(∃ v,e=.returned v)/\RfAt w' lo hi s n cw co { st with W:=U9 st.W a k }/\Out lo hi w w':=by
 have H0:=Z0 h;have h2:=h.n2;obtain⟨M,hM⟩:∃ M,64*n=M:=⟨_,rfl⟩
 have HM:=Z0 (And.intro hM ha);have M1:(M:Int)<=262144:=by omega
 have a0:(0:Int)<=(a:Int):=by omega
 have a1:(a:Int)<=262144:=by omega
 have k0:(k:Int)<=262144:=by omega
 clear h ha hM h2;go_enter Tryz.func113,Tryz.ntmps113
 go_wp2_with fail;go_loopw [6] (fun u wr=>∃ i:Nat,u=.int .i64 (i:Int)/\i<=k/\RfAt wr lo hi s n cw co { st with W:=U9 st.W a i }/\Out lo hi w wr) (fun u _=>k-(intOf u).toNat)
 case atStart=>exact⟨0,rfl,Nat.zero_le _,by rw[q9m];exact H0.out,Out.refl _ _ _⟩
 case round=>
  obtain⟨i,rfl,ib,r1,r2⟩:=hrel;have i0:(0:Int)<=(i:Int):=by omega
  by_cases hi':i<k
  ·have i1:(i:Int)<(k:Int):=by omega
   have c0:=r1.cells.1;rw[HM.out.1] at c0;obtain⟨x,hx⟩:∃ x,a+i=x:=⟨_,rfl⟩
   have hm:=HM.out;have x0:(a:Int)+(i:Int)=(x:Int):=by omega
   have x1:(0:Int)<=(x:Int):=by omega
   have x2:(x:Int)<(M:Int):=by omega
   have d0:=r1.rw.cell (i:=x) (by omega);have d1:=r1.rw.frozen x;have HS:=Z0 (r1.setW (a:=x) (by omega) 0);have HR:=Z0 (And.intro r2 hx);obtain⟨y,hy⟩:∃ y,U9 st.W a i x=y:=⟨_,rfl⟩
   dsimp only at d0;rw[hy] at d0;clear r1 r2 hx hm hy;go_wp2_with fail;refine⟨⟨i+1,by congr 1,by omega,?_,HR.out.1.trans HS.out.2⟩,by simp[intOf] <;> omega⟩;have:=HS.out.1;dsimp only at this;rw[<-HR.out.2,q9a] at this;rw[<-HR.out.2];exact this
  ·have e:i=k:=by omega
   subst e;have HR:=Z0 (And.intro r1 r2);clear r1 r2;go_wp2;exact bodyPost_end (results_none Tryz.results113 _ _ _) rfl ⟨⟨_,rfl⟩,HR.out⟩
theorem q2o {a:Nat} (hb:Q7 (st.O a)=true):obC st (a*5)=(a:Int)/\obC st (a*5+1)=(st.O a).1/\obC st (a*5+2)=(st.O a).2.1/\obC st (a*5+3)=(st.O a).2.2.1/\obC st (a*5+4)=(st.O a).2.2.2:=by
 unfold obC;refine⟨?_,?_,?_,?_,?_⟩
 ·rw[show a*5 / 5=a from by omega,show a*5 % 5=0 from by omega,hb];rfl
 ·rw[show (a*5+1) / 5=a from by omega,show (a*5+1) % 5=1 from by omega,hb];rfl
 ·rw[show (a*5+2) / 5=a from by omega,show (a*5+2) % 5=2 from by omega,hb];rfl
 ·rw[show (a*5+3) / 5=a from by omega,show (a*5+3) % 5=3 from by omega,hb];rfl
 ·rw[show (a*5+4) / 5=a from by omega,show (a*5+4) % 5=4 from by omega,hb];rfl
theorem z1z (h:RfAt w lo hi s n cw co st) {a:Nat} (ha:a<64*n) (hb:Q7 (st.O a)=true) {k z x t:Int} (hO:st.O a=(k,z,x,t)):Calls Tryz.prog 66 #[.pointer (some ⟨s 0,0,none⟩),.int .i64 (a:Int)] w fun e w'=>e=.returned (.tuple #[.agg #[.int .i64 (a:Int),.int .i64 k,.int .i64 z,.int .i64 x,.int .i64 t],.bool true])/\Out 0 0 w w':=by
 have h':=h.quiet ((Out.refl 0 0 w).alloc (.cells #[.int .i64 0,.int .i64 0,.int .i64 0,.int .i64 0,.int .i64 0] 97));have h2:=h.n2;obtain⟨M,hM⟩:∃ M,64*n=M:=⟨_,rfl⟩
 have c2:=h'.cells.2.2.1;rw[hM] at c2;have a0:(0:Int)<=(a:Int):=by omega
 have a1:(a:Int)<(M:Int):=by omega
 have a2:(M:Int)<=262144:=by omega
 obtain⟨o0,o1,o2,o3,o4⟩:=q2o (st:=st) hb;rw[hO] at o1 o2 o3 o4;dsimp only at o1 o2 o3 o4;have d0:=h'.ro.cell (i:=a*5) (by omega);have d1:=h'.ro.cell (i:=a*5+1) (by omega);have d2:=h'.ro.cell (i:=a*5+2) (by omega);have d3:=h'.ro.cell (i:=a*5+3) (by omega);have d4:=h'.ro.cell (i:=a*5+4) (by omega);rw[o0] at d0;rw[o1] at d1;rw[o2] at d2;rw[o3] at d3;rw[o4] at d4;have hk:k ≠ 0:=by rw[hO] at hb;unfold Q7 at hb;simpa using hb
 have hkb:(k == 0)=false:=by simpa using hk
 have hne:s 4 ≠ w.heap.size:=by have:=h.inn 4 (by omega);have:=h.top;omega
 clear h h' h2 hM hO hb o0 o1 o2 o3 o4 ha;go_enter Tryz.func66,Tryz.ntmps66
 go_wp2;refine z4z (g:=w.heap.size) Tryz.results66 rfl rfl rfl (heap_alloc_new _ _) ⟨rfl,(Out.refl _ _ _).alloc _⟩
theorem z2c (h:RfAt w lo hi s n cw co st) {a:Int} (hno:∀ k:Nat,a=(k:Int)->k<64*n->Q7 (st.O k)=false):Calls Tryz.prog 66 #[.pointer (some ⟨s 0,0,none⟩),.int .i64 a] w fun e w'=>e=.returned (.tuple #[.agg #[.int .i64 0,.int .i64 0,.int .i64 0,.int .i64 0,.int .i64 0],.bool false])/\Out 0 0 w w':=by
 have h':=h.quiet ((Out.refl 0 0 w).alloc (.cells #[.int .i64 0,.int .i64 0,.int .i64 0,.int .i64 0,.int .i64 0] 97));have h2:=h.n2;obtain⟨M,hM⟩:∃ M,64*n=M:=⟨_,rfl⟩
 have c2:=h'.cells.2.2.1;rw[hM] at c2;have a2:(M:Int)<=262144:=by omega
 have a3:(0:Int)<=(M:Int):=by omega
 by_cases h0:a<0
 ·clear h h' h2 hM hno;go_enter Tryz.func66,Tryz.ntmps66
  go_wp2;exact z4z (g:=w.heap.size) Tryz.results66 rfl rfl rfl (heap_alloc_new _ _) ⟨rfl,(Out.refl _ _ _).alloc _⟩
 ·by_cases h1:(M:Int)<=a
  ·clear h h' h2 hM hno;go_enter Tryz.func66,Tryz.ntmps66
   go_wp2;exact z4z (g:=w.heap.size) Tryz.results66 rfl rfl rfl (heap_alloc_new _ _) ⟨rfl,(Out.refl _ _ _).alloc _⟩
  ·obtain⟨k,rfl⟩:∃ k:Nat,a=(k:Int):=⟨a.toNat,by omega⟩
   have hb:=hno k rfl (by omega);have d1:=h'.ro.cell (i:=k*5+1) (by omega);rw[z3g,hb,if_neg (by simp)] at d1;have k0:(0:Int)<=(k:Int):=by omega
   have k1:(k:Int)<(M:Int):=by omega
   clear h h' h2 hM hno hb h0 h1;go_enter Tryz.func66,Tryz.ntmps66
   go_wp2;exact z4z (g:=w.heap.size) Tryz.results66 rfl rfl rfl (heap_alloc_new _ _) ⟨rfl,(Out.refl _ _ _).alloc _⟩
end
def x2n (st:Sp) (x:Int) (a:Nat):Bool:=Q7 (st.O a) && ((st.O a).2.2.1 == x)
theorem x3m (n:Nat) (st:Sp) (x:Int):q2e n st x=if 1<=x then (List.range (64*n)).find? (x2n st x) else none:=rfl
section
variable {w:World} {lo hi n cw co:Nat} {s:Nat->Nat} {st:Sp}
theorem x2y (h:RfAt w lo hi s n cw co st) (x:Int):Calls Tryz.prog 33 #[.pointer (some ⟨s 0,0,none⟩),.int .i64 x] w fun e w'=>e=.returned (.tuple #[.int .i64 ((q2m n st x).getD 0),.bool (q2m n st x).isSome])/\w'=w:=by
 have h2:=h.n2;obtain⟨M,hM⟩:∃ M,64*n=M:=⟨_,rfl⟩
 have c2:=h.cells.2.2.1;rw[hM] at c2;have M1:(M:Int)<=262144:=by omega
 have M0:(0:Int)<=(M:Int):=by omega
 have HRo:=Z0 h.ro;have HM:=Z0 hM;clear h h2 hM;go_enter Tryz.func33,Tryz.ntmps33
 go_wp2_with fail;go_loopw [6] (fun u wr=>∃ a:Nat,u=.int .i64 (a:Int)/\a<=M/\(1<=x->∀ j,j<a->x2n st x j=false)/\wr=w) (fun u _=>M-(intOf u).toNat)
 case atStart=>exact⟨0,rfl,Nat.zero_le _,fun _ j hj=>by omega,rfl⟩
 case round=>
  obtain⟨a,rfl,ab,hno,hwr⟩:=hrel;subst hwr;have a0:(0:Int)<=(a:Int):=by omega
  have HNo:=Z0 hno;clear hno;by_cases ha:a<M
  ·have a1:(a:Int)<(M:Int):=by omega
   have hm:=HM.out;have d1:=HRo.out.cell (i:=a*5+1) (by omega);have d3:=HRo.out.cell (i:=a*5+3) (by omega);rw[z3g] at d1;cases hb:Q7 (st.O a) with
   | false=>
    rw[hb,if_neg (by simp)] at d1;have HNx:Hid (1<=x->∀ j,j<a+1->x2n st x j=false):=fun h1 j hj=>by
     by_cases e:j=a
     ·rw[e];unfold x2n;rw[hb];rfl
     ·exact HNo.out h1 j (by omega)
    clear hb d3 hm;go_wp2_with fail;exact⟨⟨a+1,by congr 1,by omega,HNx.out,by trivial⟩,by simp[intOf] <;> omega⟩
   | true=>
    obtain⟨o0,o1,o2,o3,o4⟩:=q2o (st:=st) hb;rw[hb,if_pos rfl] at d1;rw[o3] at d3;obtain⟨k,hk⟩:∃ k,(st.O a).1=k:=⟨_,rfl⟩
    obtain⟨y,hy⟩:∃ y,(st.O a).2.2.1=y:=⟨_,rfl⟩
    rw[hk] at d1;rw[hy] at d3;have hk0:k ≠ 0:=by unfold Q7 at hb;rw[hk] at hb;simpa using hb
    have hkb:(k != 0)=true:=by simpa using hk0
    have HB:=Z0 (And.intro hb hy);clear hb hk hy o0 o1 o2 o3 o4;by_cases hx:y=x
    ·by_cases h1:1<=x
     ·have hs:q2m n st x=some (a:Int):=by
       have hf:q2e n st x=some a:=by
        rw[x3m,if_pos h1];exact z2l (by omega) (by unfold x2n;rw[HB.out.1,HB.out.2,hx];simp) (fun q hq=>HNo.out h1 q hq)
       unfold q2m;rw[hf];rfl
      have HS:=Z0 hs;clear hs hm;subst hx;go_wp2;go_ret2;exact⟨by rw[HS.out];rfl,rfl⟩
     ·have HNx:Hid (1<=x->∀ j,j<a+1->x2n st x j=false):=fun h=>absurd h h1
      clear hm;subst hx;go_wp2_with fail;exact⟨⟨a+1,by congr 1,by omega,HNx.out,by trivial⟩,by simp[intOf] <;> omega⟩
    ·have hxb:(y == x)=false:=by simpa using hx
     have HNx:Hid (1<=x->∀ j,j<a+1->x2n st x j=false):=fun h1 j hj=>by
      by_cases e:j=a
      ·rw[e];unfold x2n;rw[HB.out.2,hxb];simp
      ·exact HNo.out h1 j (by omega)
     clear hm;go_wp2_with fail;exact⟨⟨a+1,by congr 1,by omega,HNx.out,by trivial⟩,by simp[intOf] <;> omega⟩
  ·have e:a=M:=by omega
   subst e;have hs:q2m n st x=none:=by
    have hf:q2e n st x=none:=by
     rw[x3m];by_cases h1:1<=x
     ·rw[if_pos h1];exact z2r fun q hq=>HNo.out h1 q (by have:=HM.out;omega)
     ·rw[if_neg h1]
    unfold q2m;rw[hf];rfl
   have HS:=Z0 hs;clear hs;go_wp2;go_ret2;exact⟨by rw[HS.out];rfl,rfl⟩
end
theorem j6z:(Tryz.prog.info? 56).map (·.size)=some 2:=by kernel_rfl
theorem z9r {fn:Func} {p:Tmp} (hr:fn.results = #[.cell p 56]) {a:Act} {w:World} {g:Nat} {x y:Int} {post:Ending->World->Prop} (hp:a.tmps.getD p undef=.pointer (some ⟨g,0,none⟩))
  (hd:a.defers=[]) (b:w.heap[g]? = some (.cells #[.int .i64 x,.int .i64 y] 56 (0,0))) (h:post (.returned (z3l x y)) w):bodyPost Tryz.prog fn post Exit.ret a w:=
 bodyPost_ret (v:=z3l x y) (results_cell_row hr a.tmps w g 56 _ (0,0) _ hp b Tryz.underlying56 rfl j6z) hd h
theorem z2i {w:World} {g:Nat} {T:TypeId} {u v:Value} (h:w.heap[g]? = some (.cells #[u,v] T (0,0))) (x y:Value):((w.setCell ⟨g,0,none⟩ x).setCell ⟨g,1,none⟩ y).heap[g]? = some (.cells #[x,y] T (0,0)):=by
 simp[World.setCell,Array.getElem?_modify,h]
section
variable {w:World} {lo hi n cw co:Nat} {s:Nat->Nat} {st:Sp}
theorem q0i (h:RfAt w lo hi s n cw co st) {a:Int} (hno:∀ k:Nat,a=(k:Int)->k<64*n->Q7 (st.O k)=false):Calls Tryz.prog 70 #[.pointer (some ⟨s 0,0,none⟩),.int .i64 a] w fun e w'=>e=.returned (z3l 22 0)/\Out 0 0 w w':=by
 have o1:Out 0 0 w (w.alloc (.cells #[.int .i64 0,.int .i64 0] 56)):=(Out.refl 0 0 w).alloc _;have f1:(w.alloc (.cells #[.int .i64 0,.int .i64 0] 56)).heap[w.heap.size]? = some (.cells #[.int .i64 0,.int .i64 0] 56 (0,0)):=heap_alloc_new _ _;have HBk:=Z0 (z2c (h.quiet o1) hno);have H1:=Z0 (And.intro o1 f1);clear h hno o1 f1;go_enter Tryz.func70,Tryz.ntmps70
 go_wp2_with fail;refine HBk.out.mono ?_;rintro e w1 ⟨rfl,ho⟩;have fF:=ho.heap H1.out.2 z0;have oB:Out 0 0 w1 (w1.alloc (.cells #[.int .i64 0,.int .i64 0,.int .i64 0,.int .i64 0,.int .i64 0] 97)):=(Out.refl 0 0 w1).alloc _;have fB:=oB.heap fF z0;obtain⟨F,hF⟩:∃ F,w.heap.size=F:=⟨_,rfl⟩
 rw[hF] at fF fB ⊢;have HFF:=Z0 fB;have HO:=Z0 ((H1.out.1.trans ho).trans oB);have HSz:Hid (w.heap.size=F):=hF;obtain⟨e0,e1,e2,e3⟩:=Z7 fB;clear fF fB oB ho hF;go_wp2;refine z9r (g:=F) Tryz.results70 rfl rfl (z2i HFF.out _ _) ⟨rfl,?_⟩;exact Z9 HO.out (((Out.refl F (F+1) _).setCell (p:=⟨F,0,none⟩) z1 _).setCell (p:=⟨F,1,none⟩) z1 _) (.inl (by have:=HSz.out;omega))
theorem z9z (h:RfAt w lo hi s n cw co st) {a:Nat} (ha:a<64*n) (hb:Q7 (st.O a)=true):Calls Tryz.prog 70 #[.pointer (some ⟨s 0,0,none⟩),.int .i64 (a:Int)] w fun e w'=>e=.returned (if st.W a=X9 a (st.O a).1 (st.O a).2.1 then z3l 0 0 else z3l 21 a)/\Out 0 0 w w':=by
 have h2:=h.n2;have o1:Out 0 0 w (w.alloc (.cells #[.int .i64 0,.int .i64 0] 56)):=(Out.refl 0 0 w).alloc _;have f1:(w.alloc (.cells #[.int .i64 0,.int .i64 0] 56)).heap[w.heap.size]? = some (.cells #[.int .i64 0,.int .i64 0] 56 (0,0)):=heap_alloc_new _ _;obtain⟨k,z,x,t,hO⟩:∃ k z x t,st.O a=(k,z,x,t):=⟨_,_,_,_,rfl⟩
 have HBk:=Z0 (z1z (h.quiet o1) ha hb hO);rw[hO];dsimp only;obtain⟨y,hy⟩:∃ y,st.W a=y:=⟨_,rfl⟩
 obtain⟨v,hv⟩:∃ v,X9 (a:Int) k z=v:=⟨_,rfl⟩
 have HMk:=Z0 (fun w=>z7y (a:Int) k z w);rw[hv] at HMk ⊢;rw[hy];obtain⟨M,hM⟩:∃ M,64*n=M:=⟨_,rfl⟩
 have a0:(0:Int)<=(a:Int):=by omega
 have a1:(a:Int)<(M:Int):=by omega
 have a2:(M:Int)<=262144:=by omega
 have H1:=Z0 (And.intro o1 f1);have HR:=Z0 (And.intro h (And.intro hM (And.intro hy ha)));clear h hb o1 f1 hO hy hv hM ha h2;go_enter Tryz.func70,Tryz.ntmps70
 go_wp2_with fail;refine HBk.out.mono ?_;rintro e w1 ⟨rfl,ho⟩;have fF:=ho.heap H1.out.2 z0;have HO1:=Z0 (And.intro (H1.out.1.trans ho) fF);clear ho fF HBk;go_wp2_with fail;obtain⟨W2,hW2⟩:∃ W,w1.alloc (.cells #[.int .i64 (a:Int),.int .i64 k,.int .i64 z,.int .i64 x,.int .i64 t] 97)=W:=⟨_,rfl⟩
 obtain⟨B,hB⟩:∃ B,w1.heap.size=B:=⟨_,rfl⟩
 obtain⟨F,hF⟩:∃ F,w.heap.size=F:=⟨_,rfl⟩
 have o2:Out 0 0 w1 W2:=by rw[<-hW2];exact(Out.refl 0 0 w1).alloc _
 have fB:W2.heap[B]? = some (.cells #[.int .i64 (a:Int),.int .i64 k,.int .i64 z,.int .i64 x,.int .i64 t] 97 (0,0)):=by rw[<-hW2,<-hB];exact heap_alloc_new _ _
 have HO2:=Z0 (HO1.out.1.trans o2);have HF2:Hid (W2.heap[F]? = some (.cells #[.int .i64 0,.int .i64 0] 56 (0,0))/\w.heap.size=F):=⟨by rw[<-hF];exact o2.heap HO1.out.2 z0,hF⟩
 have h2':=HR.out.1.quiet HO2.out;have c0:=h2'.cells.1;rw[HR.out.2.1] at c0;have d0:=h2'.rw.cell (i:=a) HR.out.2.2.2;rw[HR.out.2.2.1] at d0;have b1:W2.cell? ⟨B,1,none⟩=some (.int .i64 k):=by simp[World.cell?,fB]
 have b2:W2.cell? ⟨B,2,none⟩=some (.int .i64 z):=by simp[World.cell?,fB]
 rw[hW2,hB];(try rw[hF]);clear hW2 hB hF o2 fB h2';refine wp_region_held_drew (S:=fun w'=>w'.cell? ⟨s 0,0,none⟩=some (.slice (some ⟨s 1,0,none⟩) M cw)/\w'.cell? ⟨s 1,a,none⟩=some (.int .i64 y)/\w'.cell? ⟨B,1,none⟩=some (.int .i64 k)/\w'.cell? ⟨B,2,none⟩=some (.int .i64 z)) (by kernel_rfl) ?hS1 (fun hHeld=>?rest1)
 case hS1=>exact⟨c0,d0,b1,b2⟩
 obtain⟨Z3,hZ⟩:∃ Z,W2.drew=Z:=⟨_,rfl⟩
 have OZ3:Out 0 0 W2 Z3:=by rw[<-hZ];exact(Out.refl 0 0 W2).drew
 rw[hZ] at hHeld ⊢;clear hZ;refine tk 0 ?_;refine tk 1 ?_;refine tk 2 ?_;refine tk 3 ?_;refine tk 4 ?_;refine tk 5 ?_;refine tk 6 ?_;refine tk 7 ?_;refine tk 8 ?_;refine tk 9 ?_;refine tk 10 ?_;refine tk 11 ?_;refine rd1 12 fun KK hK=>?_
 simp only[xa,xb,xc];go_simp;refine Z5 (HMk.out _) ?_;refine hK.out _ _ ?hS14 (fun hHeld2=>?rest14)
 case hS14=>exact hHeld
 clear hK KK;replace hHeld:=hHeld2;clear hHeld2;refine tk 13 ?_;refine dn ?_;clear hHeld;have fF:=OZ3.heap HF2.out.1 z0;obtain⟨e0,e1,e2,e3⟩:=Z7 fF;have HFF:=Z0 fF;have HO3:=Z0 (HO2.out.trans OZ3);clear fF OZ3 c0 d0 b1 b2;by_cases hyv:y=v
 ·have hyb:(y != v)=false:=by simp[hyv]
  go_wp2;refine z9r (g:=F) Tryz.results70 rfl rfl (z2i HFF.out _ _) ⟨rfl,?_⟩;exact Z9 HO3.out (((Out.refl F (F+1) _).setCell (p:=⟨F,0,none⟩) z1 _).setCell (p:=⟨F,1,none⟩) z1 _) (.inl (by have:=HF2.out.2;omega))
 ·have hyb:(y != v)=true:=by simpa using hyv
  go_wp2;refine z9r (g:=F) Tryz.results70 rfl rfl (z2i HFF.out _ _) ⟨rfl,?_⟩;exact Z9 HO3.out (((Out.refl F (F+1) _).setCell (p:=⟨F,0,none⟩) z1 _).setCell (p:=⟨F,1,none⟩) z1 _) (.inl (by have:=HF2.out.2;omega))
end
end Go.Proofs.YtjbbkeoolodeaabGreatDoor
