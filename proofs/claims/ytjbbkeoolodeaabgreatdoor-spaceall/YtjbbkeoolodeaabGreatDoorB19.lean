import Derived.Test.YtjbbkeoolodeaabGreatDoorB18
namespace Go.Proofs.YtjbbkeoolodeaabGreatDoor
open Go.RowKit
set_option linter.unusedVariables false
set_option maxRecDepth 100000
set_option maxHeartbeats 16000000
set_option linter.unusedSimpArgs false
theorem j0v {S:Nat->Bool} {a:Nat} (hS:S a=true) (b:Nat) (h:a<b):cnt S b ≠ 0:=fun h0=>by
 have:=q6j h0 a h;rw[hS] at this;cases this
theorem z4k {S:Nat->Int × Int × Int} {P:Nat->Bool} {m p:Nat} (h:(S p).1 ≠ 1):dlS S P m p=S p:=by
 unfold dlS z3t;simp[h]
theorem j3f {n m:Nat} {S:Nat->Int × Int × Int} {P:Nat->Bool} (hg:Good n S):Good n (dlS S P m):=by
 intro i hi;unfold PgOk;rcases hg i hi with e | ⟨c,c1,c2,e⟩ | ⟨k,k1,k2,k3,e,k4⟩ | ⟨e,h,k,h1,h2,h3⟩
 ·exact .inl (by rw[z4k (by rw[e];simp),e])
 ·unfold dlS;cases hb:(decide (i<m) && z3t S P i) with
  | true=>exact .inl (by simp)
  | false=>exact .inr (.inl ⟨c,c1,c2,by simp[e]⟩)
 ·refine .inr (.inr (.inl ⟨k,k1,k2,k3,by rw[z4k (by rw[e];simp),e],fun j j1 j2=>?_⟩));have:=k4 j j1 j2;rw[z4k (by rw[this];simp),this]
 ·exact .inr (.inr (.inr ⟨by rw[z4k (by rw[e];simp),e],h,k,h1,h2,by rw[z4k (by rw[h3];simp),h3]⟩))
theorem q7d {n:Nat} {st:Sp} {l:List Int} (hI:Inv n st):Inv n (G2 n st l):=by
 obtain⟨kp,hkp⟩:∃ kp,kpS l=kp:=⟨_,rfl⟩
 obtain⟨e1,e2,e3⟩:=z4b n (q5h n st (kpS l)) 8;have hS:(G2 n st l).S=dlS (z6d n st kp) (ob n { st with O:=kpO st kp }) n:=by rw[<-hkp];exact e1
 have hO:(G2 n st l).O=kpO st kp:=by rw[<-hkp];exact e2
 have hL:(G2 n st l).last=st.last:=e3;have hg:=j2j (kp:=kp) hI;have hk:∀ a,Q7 (kpO st kp a)=true->Q7 (st.O a)=true/\kp a=true/\kpO st kp a=st.O a:=fun a h=>by
  rw[z2y,Bool.and_eq_true] at h;exact⟨h.1,h.2,by unfold kpO;rw[if_pos h.2]⟩
 -- the page of a kept object is as it was
 have hpg:∀ a,Q7 (kpO st kp a)=true->a<64*n->dlS (z6d n st kp) (ob n { st with O:=kpO st kp }) n (a / 64)=st.S (a / 64):=fun a h ha=>by
  obtain⟨h1,h2,h3⟩:=hk a h;have hng:z1f (Z6 n st) kp (64*n) (a / 64)=false:=by
   cases eg:z1f (Z6 n st) kp (64*n) (a / 64) with
   | false=>rfl
   | true=>
    obtain⟨a',b,g1,g2,g3,g4,g5,g6⟩:=goneP_iff.1 eg;obtain⟨rfl,gh⟩:=z3q g3;have gk:kp a'=false:=by unfold z1l at g2;rw[Bool.and_eq_true] at g2;simpa using g2.2
    have gP:(Z6 n st).P a'=true:=by unfold z1l at g2;rw[Bool.and_eq_true] at g2;exact g2.1
    have aP:(Z6 n st).P a=true:=by show ob n st a=true;unfold ob;simp[ha,h1]
    obtain⟨_,_,i3⟩:=hI.objs a' gh;rcases i3 with ⟨i3,_⟩ | ⟨_,i4,i5⟩
    ·omega
    have hr:J3 (st.O a').2.1=(((st.O a').2.1+63) / 64).toNat*64:=by unfold J3;rw[if_pos g4]
    by_cases hlt:a'<a
    ·have:=(z3i hI a' _ gP g3).2.2.2 a hlt aP;omega
    ·by_cases he:a'=a
     ·subst he;rw[h2] at gk;cases gk
     ·omega
  unfold dlS z6d;rw[hng];have hc:z6o (ob n { st with O:=kpO st kp }) (64*(a / 64)) (64*(a / 64)+64) ≠ 0:=by
   unfold z6o;refine j0v (a:=a) ?_ _ (by omega)
   show (decide (64*(a / 64)<=a) && (decide (a<64*n) && Q7 (kpO st kp a)))=true
   rw[h];simp;omega
  have hb:z3t (fun q=>if z1f (Z6 n st) kp (64*n) q=true then (0,0,0) else st.S q) (ob n { st with O:=kpO st kp }) (a / 64)=false:=by
   unfold z3t;simp[hc]
  rw[hb];simp
 refine⟨hI.n1,hI.n2,?_,?_,?_,?_,?_,?_,?_⟩
 ·rw[hS];exact j3f hg
 ·rw[hO,hS];intro a h;obtain⟨h1,h2,h3⟩:=hk a h;have ho:=hI.objs a h1;rw[h3];refine⟨ho.1,ho.2.1,?_⟩;rw[hpg a h ho.1];exact ho.2.2
 ·rw[hO];intro a h;unfold kpO at *;cases hka:kp a with
  | true=>rw[hka] at h;exact hI.none a h
  | false=>rfl
 ·rw[hO,hS];intro p hp h;have h2:(z6d n st kp p).1=2:=by
   unfold dlS at h;cases hb:(decide (p<n) && z3t (z6d n st kp) (ob n { st with O:=kpO st kp }) p) with
   | true=>rw[hb] at h;simp at h
   | false=>rw[hb] at h;simpa using h
  cases hgp:z1f (Z6 n st) kp (64*n) p with
  | true=>unfold z6d at h2;rw[hgp] at h2;simp at h2
  | false=>
   have h3:(st.S p).1=2:=by unfold z6d at h2;rw[hgp] at h2;simpa using h2
   have hh:=hI.heads p hp h3;rw[z2y,hh];cases hka:kp (64*p) with
   | true=>rfl
   | false=>
    exfalso
    have hP:(Z6 n st).P (64*p)=true:=by show ob n st (64*p)=true;unfold ob;simp[hh];omega
    obtain⟨b,hb⟩:=B7 st (64*p) hP;obtain⟨rfl,_⟩:=z3q hb;obtain⟨_,_,i3⟩:=hI.objs (64*p) hh;rw[show 64*p / 64=p from by omega] at i3;rcases i3 with ⟨_,i4,_⟩ | ⟨i4,_,i5⟩
    ·rw[i4] at h3;simp at h3
    ·have:=(goneP_iff (r:=Z6 n st) (kp:=kp) (p:=64*n) (q:=p)).2 ⟨64*p,_,(by omega:64*p<64*n),(by unfold z1l;rw[hP,hka];rfl),hb,i4,(by omega:64*p / 64<=p),(by omega:p<64*p / 64+(((st.O (64*p)).2.1+63) / 64).toNat)⟩;rw[hgp] at this;cases this
 ·rw[hL];exact hI.last0
 ·rw[hO,hL];intro a h;obtain⟨h1,h2,h3⟩:=hk a h;rw[h3];exact hI.ser a h1
 ·rw[hO];intro a b ha hb;obtain⟨h1,h2,h3⟩:=hk a ha;obtain⟨g1,g2,g3⟩:=hk b hb;rw[h3,g3];exact hI.one a b h1 g1
theorem q8i {w:World} {lo hi n cap:Nat} {s:Nat->Nat} {st:Sp} (h:SpAt w lo hi s n cap st) {l:List Int} {p:Option Addr} {cp:Nat} (hl:z5u w p l) (hll:(l.length:Int)<9223372036854775807) :
  Calls Tryz.prog 63 #[.pointer (some ⟨s 14,0,none⟩),.slice p l.length cp] w fun e w'=>Out lo hi w w' ∧
   (((∀ a ∈ l,(obM st a).isSome=true)/\e=.returned (.tuple #[.int .i64 ((J7 (Z6 n st) (kpS l) (64*n):Nat):Int),.int .i64 0])/\SpAt w' lo hi s n cap (G2 n st l)) ∨
    ((∃ a ∈ l,obM st a=none)/\e=.returned (.tuple #[.int .i64 0,.int .i64 22])/\SpAt w' lo hi s n cap st)):=by
 refine(j5w h.1 (B7 st) (z3i h.2) (j2l h.2) hl hll).mono ?_;rintro e w' ⟨o,⟨h1,h2,h3⟩ | ⟨h1,h2,h3⟩⟩
 ·exact⟨o,.inl ⟨h1,h2,by rw[j5j h.2] at h3;exact h3,q7d h.2⟩⟩
 ·exact⟨o,.inr ⟨h1,h2,h3,h.2⟩⟩
theorem z2m {P Q:Nat->Bool} {n k:Nat} (h:∀ j,k<=j->j<n->P j=Q j):nxr P n k=nxr Q n k:=by
 unfold nxr;rw[j3g h]
def Rt (n:Nat) (st:Sp):Prop:=(∀ c a,fr n st c a=true->st.W a=Y7 (nf n st c (a+1)))/\∀ a,Q7 (st.O a)=true->st.W a=X9 a (st.O a).1 (st.O a).2.1
theorem z1r {z:Int} (h:z<=32):J3 z=wN (ofV z):=by unfold J3;rw[if_neg (by omega)]
theorem z3c {z:Int} (h:32<z):J3 z=((z+63) / 64).toNat*64:=by unfold J3;rw[if_pos h]
theorem j4b {n:Nat} {st:Sp} (hi:Inv n st) {c:Int} {i a:Nat} (hf:fr n st c i=true) (ha:Q7 (st.O a)=true):i<a\/a+J3 (st.O a).2.1<=i:=by
 obtain⟨f1,f2,f3,f4⟩:=fr_iff.1 hf;obtain⟨h1,h2,h3⟩:=hi.objs a ha;have hz:=J8 h2;by_cases hlt:i<a
 ·exact .inl hlt
 right
 rcases h3 with ⟨s1,s2,s3⟩ | ⟨s1,s2,s3⟩
 ·rw[z1r s1];have hc:=W9 hz.2.2.1 s1;have hw:=z4l hc.1 hc.2.1;unfold K7 at s3;rw[Bool.and_eq_true] at s3;have s4:a % 64 % wN (ofV (st.O a).2.1)=0:=by simpa using s3.1
  have s5:a % 64+wN (ofV (st.O a).2.1)<=64:=by simpa using s3.2
  by_cases hge:a+wN (ofV (st.O a).2.1)<=i
  ·exact hge
  exfalso
  have hp:i / 64=a / 64:=by omega
  rw[hp,s2] at f2;have hcc:c=ofV (st.O a).2.1:=by simp at f2;exact f2.symm
  rw[hcc] at f3;unfold K7 at f3;rw[Bool.and_eq_true] at f3;have s6:i % 64 % wN (ofV (st.O a).2.1)=0:=by simpa using f3.1
  by_cases he:i=a
  ·rw[he,ha] at f4;cases f4
  ·have:=q6i (by omega) s4 s6 (by omega);omega
 ·rw[z3c s1];obtain⟨k1,k2,k3⟩:=z6f s1 hz.2.2.2;by_cases hge:a+(((st.O a).2.1+63) / 64).toNat*64<=i
  ·exact hge
  exfalso
  have hp:=hi.good (a / 64) (by omega);unfold PgOk at hp;rw[s3] at hp;rcases hp with e | ⟨c',_,_,e⟩ | ⟨k,_,_,e3,e4,e5⟩ | ⟨e,_⟩
  ·simp at e
  ·simp at e
  ·have e4':(((st.O a).2.1+63) / 64)=(k:Int):=by simp at e4;exact e4
   by_cases he:i / 64=a / 64
   ·rw[he,s3] at f2;simp at f2
   ·have:=e5 (i / 64) (by omega) (by omega);rw[this] at f2;simp at f2
  ·simp at e
theorem j9p {n:Nat} {st:Sp} (hi:Inv n st) {a b:Nat} (ha:Q7 (st.O a)=true) (hb:Q7 (st.O b)=true) (hne:b ≠ a):b<a\/a+J3 (st.O a).2.1<=b:=by
 have hP:∀ x,Q7 (st.O x)=true->(Z6 n st).P x=true:=fun x hx=>by show ob n st x=true;rw[z9j hi];exact hx
 have hM:(Z6 n st).M (a:Int)=some (st.O a):=by
  show obM st (a:Int)=_
  unfold obM;rw[show ((a:Int)).toNat=a from by omega,if_pos ⟨by omega,ha⟩]
 by_cases h:b<a
 ·exact .inl h
 ·exact .inr ((z3i hi a _ (hP a ha) hM).2.2.2 b (by omega) (hP b hb))
section
variable {n a:Nat} {st:Sp} {fresh:Bool} {kd z t:Int}
theorem z8g:U4 st.O a (kd,z,Q9 st kd,t) a=(kd,z,Q9 st kd,t):=by unfold U4;rw[if_pos rfl]
theorem j9b {i:Nat} (h:i ≠ a):U4 st.O a (kd,z,Q9 st kd,t) i=st.O i:=by unfold U4;rw[if_neg h]
theorem j9x {W1:Nat->Int} (hi':Inv n (V8 n st a fresh kd z t)) (hW:(V8 n st a fresh kd z t).W=z5b (U9 W1 a (J3 z)) a (X9 a kd z)) (hf:W8 kd z=true)
  (hl:∀ c i,fr n (V8 n st a fresh kd z t) c i=true->W1 i=Y7 (nf n (V8 n st a fresh kd z t) c (i+1)))
  (hh:∀ b,b ≠ a->Q7 (st.O b)=true->W1 b=X9 b (st.O b).1 (st.O b).2.1):Rt n (V8 n st a fresh kd z t):=by
 have hk:=J8 hf;have hO:(V8 n st a fresh kd z t).O=U4 st.O a (kd,z,Q9 st kd,t):=rfl;have hba:Q7 ((V8 n st a fresh kd z t).O a)=true:=by rw[hO,z8g];unfold Q7;simp;omega
 have hra:((V8 n st a fresh kd z t).O a).2.1=z:=by rw[hO,z8g]
 have hw:1<=J3 z:=by
  by_cases h:z<=32
  ·rw[z1r h];have hc:=W9 hk.2.2.1 h;have:=z4l hc.1 hc.2.1;omega
  ·rw[z3c (by omega)];have:=z6f (s:=z) (by omega) hk.2.2.2;omega
 have out:∀ i,(i<a\/a+J3 z<=i)->(V8 n st a fresh kd z t).W i=W1 i:=by
  intro i h;rw[hW];unfold z5b U9;rw[if_neg (by omega),if_neg (by omega)]
 refine⟨fun c i h=>?_,fun b h=>?_⟩
 ·have:=j4b hi' h hba;rw[hra] at this;rw[out i this];exact hl c i h
 ·by_cases e:b=a
  ·subst e;rw[hO,z8g,hW];unfold z5b;rw[if_pos rfl]
  ·have:=j9p hi' hba h e;rw[hra] at this;rw[out b this];rw[hO,j9b e] at h ⊢;exact hh b e h
theorem x1q {p:Nat} (hi:Inv n st) (hR:Rt n st) (hf:W8 kd z=true) (h32:32<z) (hr:U2 st.S n ((z+63) / 64).toNat=some p):Rt n (V8 n st (64*p) false kd z t):=by
 obtain⟨t1,t2,t3,t4⟩:=z3j (t:=t) hi hf h32 hr;refine j9x (W1:=st.W) t1 rfl hf (fun c i h=>?_) (fun b _ h=>hR.2 b h);unfold nf;rw[t2] at h ⊢;exact hR.1 c i h
theorem j5e (hi:Inv n st) (hR:Rt n st) (hf:W8 kd z=true) (h32:z<=32) (ha:fr n st (ofV z) a=true) (hmin:∀ j,j<a->fr n st (ofV z) j=false):Rt n (V8 n st a false kd z t):=by
 obtain⟨t1,t2,t3⟩:=z0t (t:=t) hi hf h32 ha;refine j9x (W1:=st.W) t1 rfl hf (fun c i h=>?_) (fun b _ h=>hR.2 b h);unfold nf;rw[t2] at h ⊢;have hia:i ≠ a:=by rintro rfl;unfold upd at h;rw[if_pos rfl] at h;cases h
 have hfi:fr n st c i=true:=by unfold upd at h;rw[if_neg hia] at h;exact h
 rw[hR.1 c i hfi];unfold nf;congr 1
 refine z2m fun j j1 j2=>?_
 unfold upd;by_cases e:j=a
 ·rw[if_pos e,e];by_cases ec:c=ofV z
  ·exfalso
   subst ec;have:=hmin i (by omega);rw[hfi] at this;cases this
  ·exact t3 c ec
 ·rw[if_neg e]
theorem j4y {p:Nat} (hi:Inv n st) (hR:Rt n st) (hf:W8 kd z=true) (h32:z<=32) (hr:U2 st.S n 1=some p):Rt n (V8 n st (64*p) true kd z t):=by
 obtain⟨t1,t2,t3,t4,t5⟩:=z0v (t:=t) hi hf h32 hr;obtain⟨st2,hst2⟩:∃ q:Sp,q=⟨U9 st.W (64*p) 64,Y0 st (64*p) true z,U4 st.O (64*p) (kd,z,Q9 st kd,t),0⟩:=⟨_,rfl⟩
 have hfr:∀ c,fr n st2 c=fr n (V8 n st (64*p) true kd z t) c:=fun c=>by rw[hst2];rfl
 refine j9x (W1:=z8m n st2 (ofV z)) t1 (by rw[hst2];rfl) hf (fun c i h=>?_) (fun b hb h=>?_)
 ·unfold z8m nf;rw[hfr];by_cases ec:c=ofV z
  ·rw[<-ec,if_pos h]
  ·have hz:=t2 (ofV z) i;have hcc:=t2 c i;rw[h] at hcc;by_cases ei:i / 64=p
   ·rw[if_pos ei,show decide (c=ofV z)=false from by simp[ec]] at hcc;cases hcc
   ·rw[if_neg ei] at hcc hz;have hno:fr n (V8 n st (64*p) true kd z t) (ofV z) i=false:=by
     rw[hz];cases e:fr n st (ofV z) i with
     | false=>rfl
     | true=>
      have a1:=(fr_iff.1 e).2.1;have a2:=(fr_iff.1 hcc.symm).2.1;rw[a1] at a2;simp at a2;exact absurd a2.symm ec
    rw[hno,if_neg (by simp)];have hWi:st2.W i=st.W i:=by rw[hst2];show U9 st.W (64*p) 64 i=_;unfold U9;rw[if_neg (by omega)]
    rw[hWi,hR.1 c i hcc.symm];unfold nf;congr 1
    refine z2m fun j j1 j2=>?_
    rw[t2 c j];by_cases ej:j / 64=p
    ·rw[if_pos ej,show decide (c=ofV z)=false from by simp[ec]];cases e:fr n st c j with
     | false=>rfl
     | true=>
      have a1:=(fr_iff.1 e).2.1;rw[ej,t5] at a1;simp at a1
    ·rw[if_neg ej]
 ·have hbp:b / 64 ≠ p:=fun e=>by rw[t3 b e] at h;cases h
  have hno:fr n st2 (ofV z) b=false:=by
   rw[hfr,t2,if_neg hbp];cases e:fr n st (ofV z) b with
   | false=>rfl
   | true=>have:=(fr_iff.1 e).2.2.2;rw[h] at this;cases this
  unfold z8m;rw[hno,if_neg (by simp)];have hWb:st2.W b=st.W b:=by rw[hst2];show U9 st.W (64*p) 64 b=_;unfold U9;rw[if_neg (by omega)]
  rw[hWb];exact hR.2 b h
theorem z6r (hi:Inv n st) (hR:Rt n st) (hf:W8 kd z=true) :
  (K5 n st z=none/\alF n st kd z t=(0,20,0,st)) ∨
  ∃ a fresh,K5 n st z=some (a,fresh)/\alF n st kd z t=((a:Int),0,0,V8 n st a fresh kd z t)/\Inv n (V8 n st a fresh kd z t)/\Rt n (V8 n st a fresh kd z t)/\Q7 (st.O a)=false/\a+J3 z<=64*n/\a<64*n:=by
 have hz:=J8 hf;unfold alF;rw[if_pos hf];by_cases h32:32<z
 ·have hpl:K5 n st z=(U2 st.S n ((z+63) / 64).toNat).map fun p=>(64*p,false):=by unfold K5;rw[if_pos h32]
  cases hr:U2 st.S n ((z+63) / 64).toNat with
  | none=>left;rw[hpl,hr];exact⟨rfl,rfl⟩
  | some p=>
   right
   obtain⟨t1,t2,t3,t4⟩:=z3j (t:=t) hi hf h32 hr;have:=z6f h32 hz.2.2.2;refine⟨64*p,false,by rw[hpl,hr];rfl,?_,t1,x1q hi hR hf h32 hr,t3,by rw[z3c h32];omega,by omega⟩;rw[hpl,hr];simp only[Option.map_some];rw[if_neg (by omega)]
 ·have hpl:K5 n st z=if 0<=nf n st (ofV z) 0 then some ((nf n st (ofV z) 0).toNat,false) else (U2 st.S n 1).map fun p=>(64*p,true):=by unfold K5;rw[if_neg h32]
  have hc:=W9 hz.2.2.1 (by omega);have hw:=z4l hc.1 hc.2.1;rcases Q1 (fr n st (ofV z)) (64*n) 0 with ⟨e1,e2⟩ | ⟨i,e1,e2,e3,e4,e5⟩
  ·have e1':nf n st (ofV z) 0 = -1:=e1;rw[e1',if_neg (by omega)] at hpl;cases hr:U2 st.S n 1 with
   | none=>left;rw[hpl,hr];exact⟨rfl,rfl⟩
   | some p=>
    right
    obtain⟨t1,t2,t3,t4,t5⟩:=z0v (t:=t) hi hf (by omega) hr;refine⟨64*p,true,by rw[hpl,hr];rfl,?_,t1,j4y hi hR hf (by omega) hr,t3 _ (by omega),by rw[z1r (by omega)];omega,by omega⟩;rw[hpl,hr];simp only[Option.map_some];rw[if_neg (by simp)]
  ·have e1':nf n st (ofV z) 0=(i:Int):=e1;rw[e1',if_pos (by omega)] at hpl;simp only[Int.toNat_natCast] at hpl;obtain⟨t1,t2,t3⟩:=z0t (t:=t) hi hf (by omega) e4;obtain⟨f1,f2,f3,f4⟩:=fr_iff.1 e4;unfold K7 at f3;rw[Bool.and_eq_true] at f3;have f5:i % 64+wN (ofV z)<=64:=by simpa using f3.2
   right
   refine⟨i,false,hpl,?_,t1,j5e hi hR hf (by omega) e4 (fun j hj=>e5 j (Nat.zero_le _) hj),f4,by rw[z1r (by omega)];omega,e2⟩;rw[hpl];simp only[];rw[if_neg];rintro⟨_,_,h⟩;exact h (hR.1 _ i e4)
end
def ClsN (c:Int) (w b:Nat):Prop:=(c=0/\w=2/\b=32)\/(c=1/\w=4/\b=16)\/(c=2/\w=6/\b=10)\/(c=3/\w=8/\b=8)\/(c=4/\w=12/\b=5)\/(c=5/\w=16/\b=4)\/(c=6/\w=20/\b=3)\/(c=7/\w=32/\b=2)
theorem x1v {z:Int} (h1:1<=z) (h2:z<=1024):W8 3 z=true:=by
 have m:mo 3=1023:=rfl;have m2:wd 3=1:=rfl;refine fitsB_iff.2 ⟨by decide,by rw[m2];omega,by rw[z1e (by omega),m,m2];omega,.inl (by omega)⟩
def x2i (n u:Nat):Bool:=match x3q n u with | some v=>FloatKind.f64.format.order v v == some .eq | none=>false
theorem x1e {n:Nat} {st:Sp} {l:List Int} (a:Nat):(G2 n st l).O a=if kpS l a then st.O a else noB:=by
 obtain⟨p1,p2,p3⟩:=z4b n (q5h n st (kpS l)) 8;exact congrFun p2 a
theorem z6n {n:Nat} {st:Sp} {l:List Int} (a:Nat):Q7 ((G2 n st l).O a)=(Q7 (st.O a) && kpS l a):=by
 rw[x1e];cases kpS l a with
 | true=>simp
 | false=>simp[j1o]
theorem j1a {n:Nat} {st:Sp} {l:List Int} (hi:Inv n st) (i:Nat):q7v (Q6 n (Z6 n st) (kpS l) (64*n)) i=true ↔ ∃ a,Q7 ((G2 n st l).O a)=true/\a<=i/\i<a+J3 (st.O a).2.1:=by
 unfold q7v;rw[List.any_eq_true];have hP:∀ a,(Q6 n (Z6 n st) (kpS l) (64*n)).P a=(ob n st a && !(decide (a<64*n) && !kpS l a)):=fun a=>(U6 (n:=n) (r:=Z6 n st) (kp:=kpS l) (B7 st) (64*n) a).1
 have hM:∀ a,(Q6 n (Z6 n st) (kpS l) (64*n)).P a=true->(Q6 n (Z6 n st) (kpS l) (64*n)).M (a:Int)=obM st (a:Int):=fun a h=>(U6 (n:=n) (r:=Z6 n st) (kp:=kpS l) (B7 st) (64*n) a).2.1 (.inl h)
 have key:∀ a,(Q6 n (Z6 n st) (kpS l) (64*n)).P a=Q7 ((G2 n st l).O a):=fun a=>by
  rw[hP,z6n,z9j hi];cases e:Q7 (st.O a) with
  | false=>rfl
  | true=>rw[show decide (a<64*n)=true from by simpa using (hi.objs a e).1];simp
 have hMM:∀ a,Q7 ((G2 n st l).O a)=true->(Q6 n (Z6 n st) (kpS l) (64*n)).M (a:Int)=some (st.O a):=fun a h=>by
  rw[hM a (by rw[key];exact h)];rw[z6n,Bool.and_eq_true] at h;unfold obM;rw[show ((a:Int)).toNat=a from by omega,if_pos ⟨by omega,h.1⟩]
 constructor
 ·rintro⟨a,ha,hb⟩;rw[key,Bool.and_eq_true] at hb;rw[hMM a hb.1] at hb;exact⟨a,hb.1,by simp at ha;omega,by simpa using hb.2⟩
 ·rintro⟨a,ha,h1,h2⟩;refine⟨a,by simp;omega,?_⟩;rw[key,ha,hMM a ha];simpa using h2
theorem q1d {n:Nat} {st:Sp} (hi:Inv n st) {a:Nat} (ha:Q7 (st.O a)=true):(st.O a).2.1<=(J3 (st.O a).2.1:Int)/\a+J3 (st.O a).2.1<=64*n:=by
 obtain⟨h1,h2,h3⟩:=hi.objs a ha;have hz:=J8 h2;have hP:(Z6 n st).P a=true:=by show ob n st a=true;rw[z9j hi];exact ha
 obtain⟨b,hb⟩:=B7 st a hP;obtain⟨rfl,_⟩:=z3q hb;refine⟨?_,(z3i hi a _ hP hb).2.2.1⟩;by_cases h:(st.O a).2.1<=32
 ·rw[z1r h];have hc:=W9 hz.2.2.1 h;unfold wN;have:0<=J2 (ofV (st.O a).2.1):=by omega
  omega
 ·rw[z3c (by omega)];have:=z6f (s:=(st.O a).2.1) (by omega) hz.2.2.2;omega
def wth (x n:Int):Int:=(if x<0 then -(x+1) else x) % n
theorem j6n (x n:Int) (h:0<n):0<=wth x n:=Int.emod_nonneg _ (by omega)
theorem x1n (x n:Int) (h:0<n):wth x n<n:=Int.emod_lt_of_pos _ h
theorem j8t (x n:Int) (h:0<n):∃ m:Nat,wth x n=m/\(m:Int)<n:=⟨(wth x n).toNat,by have:=j6n x n h;omega,by have:=j6n x n h;have:=x1n x n h;omega⟩
theorem z8y (x n:Int) (w:World) (h1:-9223372036854775808<=x) (h2:x<=9223372036854775807) (h3:0<n) (h4:n<=4096) :
  Calls Tryz.prog 24 #[.int .i64 x,.int .i64 n] w fun e w'=>e=.returned (.int .i64 (wth x n))/\w'=w:=by
 have hn0:(n == 0)=false:=by rw[beq_eq_false_iff_ne];omega
 have hn1:n ≠ 0:=by omega
 by_cases hx:x<0
 ·have HE:Hid ((wrap64 (-wrap64 (x+1))).tmod n=wth x n):=by
   have e1:wrap64 (x+1)=x+1:=by unfold wrap64;omega
   have e2:wrap64 (-(x+1)) = -(x+1):=by unfold wrap64;omega
   show (wrap64 (-wrap64 (x+1))).tmod n=wth x n
   rw[e1,e2,Int.tmod_eq_emod_of_nonneg (by omega)];unfold wth;rw[if_pos hx]
  clear h2 h4 h1;go_enter Tryz.func24,Tryz.ntmps24
  go_wp2;go_ret;exact⟨U3 HE.out,rfl⟩
 ·have hx0:0<=x:=by omega
  have HE:Hid (x.tmod n=wth x n):=by
   show x.tmod n=wth x n
   rw[Int.tmod_eq_emod_of_nonneg hx0];unfold wth;rw[if_neg hx]
  have HE2:Hid (x % n=wth x n):=by
   show x % n=wth x n
   unfold wth;rw[if_neg hx]
  clear h2 h4 h1 hx;go_enter Tryz.func24,Tryz.ntmps24
  go_wp2;go_ret;exact⟨U3 (by first | exact HE.out | exact HE2.out),rfl⟩
theorem j7x:(alF 1 newSp 1 3 0).1=0/\(alF 1 newSp 1 3 0).2.1=0/\(alF 1 newSp 1 3 0).2.2.1=0:=by decide +kernel
theorem j7t:(alF 1 (alF 1 newSp 1 3 0).2.2.2 1 3 0).1=4/\(alF 1 (alF 1 newSp 1 3 0).2.2.2 1 3 0).2.1=0/\(alF 1 (alF 1 newSp 1 3 0).2.2.2 1 3 0).2.2.1=0:=by decide +kernel
theorem j8a:z7r 1 (alF 1 (alF 1 newSp 1 3 0).2.2.2 1 3 0).2.2.2.W 8=100:=by decide +kernel
theorem j6d:∃ st1 st2,alF 1 newSp 1 3 0=(0,0,0,st1)/\alF 1 st1 1 3 0=(4,0,0,st2)/\z7r 1 st2.W 8=100:=by
 obtain⟨a1,a2,a3⟩:=j7x;obtain⟨b1,b2,b3⟩:=j7t;exact⟨_,_,Prod.ext a1 (Prod.ext a2 (Prod.ext a3 rfl)),Prod.ext b1 (Prod.ext b2 (Prod.ext b3 rfl)),j8a⟩
theorem q6l {w:World} {lo hi n cap:Nat} {s:Nat->Nat} {st st':Sp} (h:SpAt w lo hi s n cap st) {k z t v e1 e2:Int} (z1:-9223372036854775808<=z) (z2:z<=9223372036854775807) (hl:st.last<4611686018427387904) (ha:alF n st k z t=(v,e1,e2,st')) :
  Calls Tryz.prog 13 #[.pointer (some ⟨s 14,0,none⟩),.int .i64 k,.int .i64 z,.int .i64 t] w fun e w'=>e=.returned (.tuple #[.int .i64 v,.agg #[.int .i64 e1,.int .i64 e2]])/\SpAt w' lo hi s n cap st'/\Out lo hi w w':=by
 have:=q2p h k z t z1 z2 hl;rw[ha] at this;exact this
theorem j1x {w:World} (hT:Tab w):Calls Tryz.prog 6 #[] w fun e w'=>e=.returned (.bool true)/\Out 0 0 w w':=by
 obtain⟨st1,st2,h1,h2,h3⟩:=j6d;have HN:=Z0 (z6u hT 1 (Nat.le_refl 1) (by omega));rw[show ((1:Nat):Int)=1 from rfl] at HN;have H1:=Z0 h1;have H2:=Z0 h2;have H3:=Z0 h3;have hl1:Hid (st1.last<4611686018427387904):=by
  have e:(alF 1 newSp 1 3 0).2.2.2.last=1:=by decide +kernel
  rw[h1] at e
  show st1.last<_
  have:st1.last=1:=e;omega
 clear hT h1 h2 h3;go_enter Tryz.func6,Tryz.ntmps6
 go_wp2_with fail;refine HN.out.mono ?_;rintro e w1 ⟨s,cap,rfl,hs,ho⟩;have HA1:=Z0 (q6l hs (by decide) (by decide) (by decide) H1.out);have HO1:=Z0 ho;obtain⟨lo,hlo⟩:∃ lo,w.heap.size=lo:=⟨_,rfl⟩
 obtain⟨hi,hhi⟩:∃ hi,w1.heap.size=hi:=⟨_,rfl⟩
 have HLo:=Z0 (Nat.le_of_eq hlo);rw[hlo,hhi] at HA1;clear HN hs ho hlo hhi;go_wp2_with fail;refine HA1.out.mono ?_;rintro e w2 ⟨rfl,hs2,ho2⟩;have HO2:=Z0 (HO1.out.past ho2 HLo.out);have hA:=(Out.refl 0 0 w2).alloc (.cells #[.int .i64 0,.int .i64 0] 39);have HA2:=Z0 (q6l (hs2.quiet hA) (by decide) (by decide) hl1.out H2.out);have HF2:=Z0 (heap_alloc_new w2 (.cells #[.int .i64 0,.int .i64 0] 39));have HZ2:Hid (hi<=w2.heap.size):=hs2.1.top;clear HA1 hs2 ho2 hA;go_wp2_with fail;refine HA2.out.mono ?_;rintro e w3 ⟨rfl,hs3,ho3⟩;have HO3:Hid (Out 0 0 w w3):=(HO2.out.alloc _).past ho3 HLo.out;have HF3:=Z0 (ho3.heap HF2.out (.inr HZ2.out));have hA:=(Out.refl 0 0 w3).alloc (.cells #[.int .i64 0,.int .i64 0] 39);have HP:=Z0 (q6e (hs3.quiet hA).1 8);rw[show z7r 1 (Z6 1 st2).W 8=100 from H3.out,show inB (64*1) 8=true from by decide] at HP;obtain⟨q0,q1,q2,q3⟩:=Z7 (hA.heap HF3.out z0);obtain⟨p0,p1,p2,p3⟩:=Z7 (heap_alloc_new w3 (.cells #[.int .i64 0,.int .i64 0] 39));clear HA2 hs3 ho3 hA;go_wp2_with (go_at_call 14;refine Z5 HP.out ?_);go_ret;exact⟨rfl,HO3.out.alloc _⟩
end Go.Proofs.YtjbbkeoolodeaabGreatDoor
