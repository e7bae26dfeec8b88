import Derived.Test.YtjgnogflgoihfaaGreatDoorP01
import Derived.Lib.SliceRun
import Derived.Deep.AppendLies
import Derived.Deep.DeepAppendRoom
set_option linter.unusedSimpArgs false
set_option linter.unusedVariables false
set_option maxHeartbeats 16000000
set_option maxRecDepth 100000
namespace Go.Proofs.YtjgnogflgoihfaaGreatDoor
open Go.RowKit
theorem q1x {n:Nat} {st:Sp} {a:Nat} {kd s t:Int} {W':Nat->Int} {S':Nat->Int × Int × Int} (hi:Inv n st) (ha:Y6 (st.O a)=false) (hf:B7 kd s=true) (hg:Good n S')
  (hnew:ObOk n S' a (kd,s,Y0 st kd,t)) (hold:∀ b,b ≠ a->Y6 (st.O b)=true->ObOk n S' b (st.O b)) (hh:∀ q,q<n->(S' q).1=2->64*q=a\/Y6 (st.O (64*q))=true) :
  Inv n ⟨W',S',H8 st.O a (kd,s,Y0 st kd,t),z0s st kd⟩:=by
 have hk:=U3 hf;have hb:Y6 (kd,s,Y0 st kd,t)=true:=by unfold Y6;simp;omega
 have hl:st.last<=z0s st kd:=by unfold z0s;split <;> omega
 have mV:∀ i,i ≠ a->H8 st.O a (kd,s,Y0 st kd,t) i=st.O i:=fun i e=>by unfold H8;rw[if_neg e]
 have lB:H8 st.O a (kd,s,Y0 st kd,t) a=(kd,s,Y0 st kd,t):=by unfold H8;rw[if_pos rfl]
 refine⟨hi.n1,hi.n2,hg,?_,?_,?_,?_,?_,?_⟩
 ·intro i h
  show ObOk n S' i (H8 st.O a (kd,s,Y0 st kd,t) i)
  by_cases e:i=a
  ·subst e;rw[lB];exact hnew
  ·have h':Y6 (H8 st.O a (kd,s,Y0 st kd,t) i)=true:=h;rw[mV i e] at h' ⊢;exact hold i e h'
 ·intro i h;have h':Y6 (H8 st.O a (kd,s,Y0 st kd,t) i)=false:=h
  show H8 st.O a (kd,s,Y0 st kd,t) i=noB
  by_cases e:i=a
  ·subst e;rw[lB,hb] at h';cases h'
  ·rw[mV i e] at h' ⊢;exact hi.none i h'
 ·intro q hq h2
  show Y6 (H8 st.O a (kd,s,Y0 st kd,t) (64*q))=true
  rcases hh q hq h2 with e | e
  ·rw[e,lB];exact hb
  ·by_cases e':64*q=a
   ·rw[e',lB];exact hb
   ·rw[mV _ e'];exact e
 ·show 0<=z0s st kd
  have:=hi.last0;omega
 ·intro i h;have h':Y6 (H8 st.O a (kd,s,Y0 st kd,t) i)=true:=h
  show (q2d (H8 st.O a (kd,s,Y0 st kd,t) i).1=true->1<=(H8 st.O a (kd,s,Y0 st kd,t) i).2.2.1/\(H8 st.O a (kd,s,Y0 st kd,t) i).2.2.1<=z0s st kd)/\(q2d (H8 st.O a (kd,s,Y0 st kd,t) i).1=false->(H8 st.O a (kd,s,Y0 st kd,t) i).2.2.1=0)
  by_cases e:i=a
  ·subst e;rw[lB];refine⟨fun hn=>?_,fun hn=>?_⟩
   ·have hn':q2d kd=true:=hn
    show 1<=Y0 st kd/\Y0 st kd<=z0s st kd
    unfold Y0 z0s;rw[if_pos hn',if_pos hn'];have:=hi.last0;omega
   ·have hn':q2d kd=false:=hn
    show Y0 st kd=0
    unfold Y0;rw[if_neg (by simp[hn'])]
  ·rw[mV i e] at h' ⊢;have:=hi.ser i h';exact⟨fun hn=>⟨(this.1 hn).1,by have:=(this.1 hn).2;omega⟩,this.2⟩
 ·intro i j h1 h2 h3 h4;have h1':Y6 (H8 st.O a (kd,s,Y0 st kd,t) i)=true:=h1;have iD:Y6 (H8 st.O a (kd,s,Y0 st kd,t) j)=true:=h2;have h3':1<=(H8 st.O a (kd,s,Y0 st kd,t) i).2.2.1:=h3;have h4':(H8 st.O a (kd,s,Y0 st kd,t) i).2.2.1=(H8 st.O a (kd,s,Y0 st kd,t) j).2.2.1:=h4;have old:∀ x,Y6 (st.O x)=true->(st.O x).2.2.1=Y0 st kd->1<=Y0 st kd->False:=by
   intro x hx e1 e2;have hs:=hi.ser x hx;unfold Y0 at e1 e2;by_cases hn:q2d kd=true
   ·rw[if_pos hn] at e1;cases lS:q2d (st.O x).1 with
    | true=>have:=(hs.1 lS).2;omega
    | false=>have:=hs.2 lS;have:=hi.last0;omega
   ·rw[if_neg hn] at e2;omega
  by_cases e:i=a
  ·by_cases e':j=a
   ·rw[e,e']
   ·exfalso
    subst e;rw[lB,mV j e'] at h4';rw[lB] at h3';rw[mV j e'] at iD;exact old j iD h4'.symm h3'
  ·by_cases e':j=a
   ·exfalso
    subst e';rw[lB,mV i e] at h4';rw[mV i e] at h1' h3';exact old i h1' h4' (show 1<=Y0 st kd from (show (st.O i).2.2.1=Y0 st kd from h4') ▸ h3')
   ·rw[mV i e] at h1' h3' h4';rw[mV j e'] at iD h4';exact hi.one i j h1' iD h3' h4'
theorem q4w {s:Int} (h1:32<s) (h2:s<=1024):1<=((s+63) / 64).toNat/\((s+63) / 64).toNat<=16/\(((s+63) / 64).toNat:Int)=(s+63) / 64:=by omega
theorem ObOk.page {n a:Nat} {S:Nat->Int × Int × Int} {b:Blk} (h:ObOk n S a b):a / 64<n/\((S (a / 64)).1=1\/(S (a / 64)).1=2):=by
 obtain⟨h1,_,h3⟩:=h;refine⟨by omega,?_⟩;rcases h3 with ⟨_,e,_⟩ | ⟨_,_,e⟩
 ·rw[e];exact .inl rfl
 ·rw[e];exact .inr rfl
theorem ObOk.same {n a:Nat} {S S':Nat->Int × Int × Int} {b:Blk} (h:ObOk n S a b) (e:S' (a / 64)=S (a / 64)):ObOk n S' a b:=by
 obtain⟨h1,h2,h3⟩:=h;exact⟨h1,h2,by rw[e];exact h3⟩
theorem q2y {n p:Nat} {st:Sp} {kd s t:Int} (hi:Inv n st) (hf:B7 kd s=true) (h32:32<s) (hr:z0a st.S n ((s+63) / 64).toNat=some p) :
  Inv n (F9 n st (64*p) false kd s t)/\(∀ c,fr n (F9 n st (64*p) false kd s t) c=fr n st c)/\Y6 (st.O (64*p))=false/\p+((s+63) / 64).toNat<=n:=by
 obtain⟨k1,k2,k3⟩:=q4w h32 (U3 hf).2.2.2;obtain⟨p1,p2,p3⟩:=z1v hi.good hr;generalize hk:((s+63) / 64).toNat=k at *
 have hfree:∀ a,Y6 (st.O a)=true->a / 64<p\/p+k<=a / 64:=by
  intro a ha;have:=(hi.objs a ha).page;by_cases e:a / 64<p\/p+k<=a / 64
  ·exact e
  ·have e1:=p3 (a / 64) (by omega) (by omega);rw[e1] at this;simp at this
 have hS':z0f st (64*p) false s=setR st.S p k:=by
  unfold z0f;rw[if_pos h32,hk,show 64*p / 64=p from by omega]
 have out:∀ j,(j<p\/p+k<=j)->setR st.S p k j=st.S j:=by
  intro j hj;unfold setR;rw[if_neg (by omega),if_neg (by omega)]
 have hd:setR st.S p k p=(2,0,(k:Int)):=by unfold setR;rw[if_pos rfl]
 have hrst:∀ j,p<j->j<p+k->setR st.S p k j=(3,0,0):=by
  intro j a b;unfold setR;rw[if_neg (by omega),if_pos ⟨a,b⟩]
 have iJ:Y6 (st.O (64*p))=false:=by
  cases e:Y6 (st.O (64*p)) with
  | false=>rfl
  | true=>have:=hfree _ e;omega
 refine⟨?_,?_,iJ,p2⟩
 ·have:=q1x (W':=(F9 n st (64*p) false kd s t).W) (S':=z0f st (64*p) false s) (t:=t) hi iJ hf
   (by rw[hS'];exact z8v hi.good p3 k1 k2 p2)
   (by rw[hS'];exact⟨by omega,hf,.inr ⟨h32,by omega,by rw[show 64*p / 64=p from by omega,hd,<-k3]⟩⟩)
   (fun b _ hb=>by rw[hS'];exact(hi.objs b hb).same (out _ (hfree b hb)))
   (fun q hq h2=>by
    rw[hS'] at h2;by_cases e:q=p
    ·left;omega
    ·right
     by_cases e':p<q/\q<p+k
     ·rw[hrst q e'.1 e'.2] at h2;simp at h2
     ·rw[out q (by omega)] at h2;exact hi.heads q hq h2)
  exact this
 ·intro c;funext i
  unfold fr
  show (decide (i<64*n) && (z0f st (64*p) false s (i / 64) == (1,c,0)) && F6 c (i % 64) && !Y6 (H8 st.O (64*p) (kd,s,Y0 st kd,t) i))=_
  rw[hS'];by_cases e:i / 64<p\/p+k<=i / 64
  ·rw[out _ e];have:H8 st.O (64*p) (kd,s,Y0 st kd,t) i=st.O i:=by unfold H8;rw[if_neg (by omega)]
   rw[this]
  ·have e1:=p3 (i / 64) (by omega) (by omega);have e2:(setR st.S p k (i / 64) == (1,c,0))=false:=by
    by_cases e3:i / 64=p
    ·rw[e3,hd];simp
    ·rw[hrst _ (by omega) (by omega)];simp
   rw[e2,e1];simp
theorem z6y {n a:Nat} {st:Sp} {kd s t:Int} (hi:Inv n st) (hf:B7 kd s=true) (h32:s<=32) (ha:fr n st (ofV s) a=true) :
  Inv n (F9 n st a false kd s t)/\(∀ c,fr n (F9 n st a false kd s t) c=upd (fr n st c) a false)/\(∀ c,c ≠ ofV s->fr n st c a=false):=by
 obtain⟨h1,h2,h3,h4⟩:=fr_iff.1 ha;have hk:=U3 hf;have hS':z0f st a false s=st.S:=by unfold z0f;rw[if_neg (by omega)];simp
 refine⟨?_,?_,?_⟩
 ·have:=q1x (W':=(F9 n st a false kd s t).W) (S':=z0f st a false s) (t:=t) hi h4 hf (by rw[hS'];exact hi.good)
   (by rw[hS'];exact⟨h1,hf,.inl ⟨h32,h2,h3⟩⟩) (fun b _ hb=>by rw[hS'];exact hi.objs b hb) (fun q hq h2=>by rw[hS'] at h2;exact .inr (hi.heads q hq h2))
  exact this
 ·intro c;funext i
  unfold fr
  show (decide (i<64*n) && (z0f st a false s (i / 64) == (1,c,0)) && F6 c (i % 64) && !Y6 (H8 st.O a (kd,s,Y0 st kd,t) i))=_
  rw[hS'];unfold upd H8;by_cases e:i=a
  ·rw[if_pos e,if_pos e];have:Y6 (kd,s,Y0 st kd,t)=true:=by unfold Y6;simp;omega
   rw[this];simp
  ·rw[if_neg e,if_neg e]
 ·intro c hc;cases e:fr n st c a with
  | false=>rfl
  | true=>
   have:=(fr_iff.1 e).2.1;rw[h2] at this;simp at this;exact absurd this.symm hc
theorem z6z {n p:Nat} {st:Sp} {kd s t:Int} (hi:Inv n st) (hf:B7 kd s=true) (h32:s<=32) (hr:z0a st.S n 1=some p) :
  Inv n (F9 n st (64*p) true kd s t)/\(∀ c i,fr n (F9 n st (64*p) true kd s t) c i=if i / 64=p then (decide (c=ofV s) && F6 c (i % 64) && decide (i ≠ 64*p)) else fr n st c i)/\(∀ a,a / 64=p->Y6 (st.O a)=false)/\p<n/\st.S p=(0,0,0):=by
 obtain⟨p1,p2,p3⟩:=z1v hi.good hr;have hk:=U3 hf;have hc:=H7 hk.2.2.1 h32;have hS':z0f st (64*p) true s=q2t st.S p (ofV s):=by
  unfold z0f;rw[if_neg (by omega),if_pos rfl,show 64*p / 64=p from by omega]
 have hp0:=p3 p (by omega) (by omega);have iJ:∀ a,a / 64=p->Y6 (st.O a)=false:=by
  intro a hap;cases e:Y6 (st.O a) with
  | false=>rfl
  | true=>
   have:=(hi.objs a e).page;rw[hap,hp0] at this;simp at this
 have out:∀ j,j ≠ p->q2t st.S p (ofV s) j=st.S j:=fun j hj=>by unfold q2t;rw[if_neg hj]
 have mR:q2t st.S p (ofV s) p=(1,ofV s,0):=by unfold q2t;rw[if_pos rfl]
 refine⟨?_,?_,iJ,p1,hp0⟩
 ·have:=q1x (W':=(F9 n st (64*p) true kd s t).W) (S':=z0f st (64*p) true s) (t:=t) hi (iJ (64*p) (by omega)) hf (by rw[hS'];exact z8u hi.good hp0 hc.1 hc.2.1)
   (by
    rw[hS'];refine⟨by omega,hf,.inl ⟨h32,by rw[show 64*p / 64=p from by omega,mR],?_⟩⟩;have hw:=q1a hc.1 hc.2.1
    show F6 (ofV s) (64*p % 64)=true
    rw[show 64*p % 64=0 from by omega];unfold F6;simp;omega)
   (fun b _ hb=>by
    rw[hS'];refine(hi.objs b hb).same (out (b / 64) (fun e=>?_));rw[iJ b e] at hb;cases hb)
   (fun q hq h2=>by
    rw[hS'] at h2;by_cases e:q=p
    ·left;omega
    ·rw[out q e] at h2;exact .inr (hi.heads q hq h2))
  exact this
 ·intro c i;unfold fr
  show (decide (i<64*n) && (z0f st (64*p) true s (i / 64) == (1,c,0)) && F6 c (i % 64) && !Y6 (H8 st.O (64*p) (kd,s,Y0 st kd,t) i))=_
  rw[hS'];by_cases e:i / 64=p
  ·rw[if_pos e,e,mR];have e1:((1,ofV s,0) == ((1:Int),c,(0:Int)))=decide (c=ofV s):=by
    rw[Bool.eq_iff_iff];simp;exact eq_comm
   rw[e1,show decide (i<64*n)=true from by simp;omega];unfold H8;by_cases e2:i=64*p
   ·rw[if_pos e2];have:Y6 (kd,s,Y0 st kd,t)=true:=by unfold Y6;simp;omega
    rw[this,show decide (i ≠ 64*p)=false from by simp[e2]];simp
   ·rw[if_neg e2,iJ i e,show decide (i ≠ 64*p)=true from by simp[e2]];simp
  ·rw[if_neg e,out _ e];have:H8 st.O (64*p) (kd,s,Y0 st kd,t) i=st.O i:=by unfold H8;rw[if_neg (by omega)]
   rw[this]
end Go.Proofs.YtjgnogflgoihfaaGreatDoor
namespace Go.Proofs.YtjgnogflgoihfaaGreatDoor
open Go.RowKit Go.MapKept
open Go.ChangeMaps (setBlock)
def MpAt (w:World) (b:Nat) (f:Int->Option Value):Prop:=
 ∃ es eE,w.heap[b]? = some (.map es eE)/\Stamped es eE/\(∀ x ∈ es.toList,∃ a,x.key=.int .i64 a)/\∀ a v,f a=some v ↔ ∃ x ∈ es.toList,x.key=.int .i64 a/\x.val=v
theorem MpAt.kept {w w':World} {b lo hi:Nat} {f:Int->Option Value} (h:MpAt w b f) (o:Out lo hi w w') (hd:b<lo\/hi<=b):MpAt w' b f:=by
 obtain⟨es,eE,hb,r⟩:=h;exact⟨es,eE,o.heap hb hd,r⟩
theorem MpAt.congr {w:World} {b:Nat} {f g:Int->Option Value} (h:MpAt w b f) (e:∀ a,f a=g a):MpAt w b g:=by
 have:f=g:=funext e;rw[<-this];exact h
theorem MpAt.isKeys {es:Array MapEntry} (h:∀ x ∈ es.toList,∃ a,x.key=.int .i64 a):∀ x ∈ es.toList,IsKey (.int .i64) x.key:=fun x hx=>by
 obtain⟨a,e⟩:=h x hx;rw[e];exact rfl
section
variable {P:Program} {w:World} {t k e:TypeId} {b:Nat} {f:Int->Option Value}
theorem x4f (c:Bool) (ht:P.underlying t=some (.map k e)) (hk:P.underlying k=some (.int .i64)) {z:Value} (hz:(zeroValue e).run P w=.ok z w) (h:MpAt w b f) (a:Int) :
  (Instr.lookup t (.map (some b)) (.int .i64 a) c).run P w=.ok (if c then .tuple #[(f a).getD z,.bool (f a).isSome] else (f a).getD z) w:=by
 obtain⟨es,eE,hb,hs,hks,hf⟩:=h;have ik:IsKey (.int .i64) (.int .i64 a):=rfl;rcases findNow_spec ik es.toList 0 (MpAt.isKeys hks) with ⟨h1,h2⟩ | ⟨j,e0,h1,h2,h3⟩
 ·have hn:f a=none:=by
   cases hfa:f a with
   | none=>rfl
   | some v=>
    obtain⟨x,hx,gO,_⟩:=(hf a v).1 hfa;exact absurd gO (h2 x hx)
  simp[Instr.lookup,run_underlying ht,MapKept.run_getObj_map hb,run_checkKey hk ik,run_findKey hk h1,hz,hn,Result.andThen]
 ·have hv:f a=some e0.val:=(hf a _).2 ⟨e0,List.mem_of_getElem? h2,h3,rfl⟩;simp[Instr.lookup,run_underlying ht,MapKept.run_getObj_map hb,run_checkKey hk ik,run_findKey hk h1,hv,Result.andThen]
theorem z2g {es:Array MapEntry} {eE:Nat} (hb:w.heap[b]? = some (.map es eE)) (o:Obj):Out b (b+1) w { w with heap:=w.heap.setIfInBounds b o }:=
 ⟨rfl,rfl,rfl,by simp,fun j h1 h2=>(heap_set (o':=o) hb).2 j (by omega)⟩
theorem x2f (ht:P.underlying t=some (.map k e)) (hk:P.underlying k=some (.int .i64)) (h:MpAt w b f) (a:Int) (v:Value) :
  ∃ w',(Instr.mapUpdate t (.map (some b)) (.int .i64 a) v).run P w=.ok () w'/\MpAt w' b (fun x=>if x=a then some v else f x)/\Out b (b+1) w w':=by
 obtain⟨es,eE,hb,hs,hks,hf⟩:=h;have ik:IsKey (.int .i64) (.int .i64 a):=rfl;rcases findNow_spec ik es.toList 0 (MpAt.isKeys hks) with ⟨h1,h2⟩ | ⟨j,e0,h1,h2,h3⟩
 ·refine⟨_,by simp[Instr.mapUpdate,run_underlying ht,MapKept.run_getObj_map hb,run_checkKey hk ik,run_findKey hk h1,MapKept.run_setObj_map _ hb,Result.andThen];rfl,⟨_,_,(heap_set hb).1,stamped_push hs h2,?_,?_⟩,z2g hb _⟩
  ·intro x hx;simp only[Array.toList_push,List.mem_append,List.mem_singleton] at hx;rcases hx with hx | rfl
   ·exact hks x hx
   ·exact⟨a,rfl⟩
  ·intro a' v'
   show (if a'=a then some v else f a')=some v' ↔ _
   by_cases ea:a'=a
   ·subst ea;rw[if_pos rfl];constructor
    ·intro hv;cases hv;exact⟨⟨_,_,eE⟩,by simp,rfl,rfl⟩
    ·rintro⟨x,hx,gO,rfl⟩;simp only[Array.toList_push,List.mem_append,List.mem_singleton] at hx;rcases hx with hx | rfl
     ·exact absurd gO (h2 x hx)
     ·rfl
   ·rw[if_neg ea,hf];constructor
    ·rintro⟨x,hx,gO,hxv⟩;exact⟨x,by simp[hx],gO,hxv⟩
    ·rintro⟨x,hx,gO,hxv⟩;simp only[Array.toList_push,List.mem_append,List.mem_singleton] at hx;rcases hx with hx | rfl
     ·exact⟨x,hx,gO,hxv⟩
     ·simp at gO;exact absurd gO.symm ea
 ·have hj:es[j]? = some e0:=by simpa using h2
  have hjl:j<es.toList.length:=(List.getElem?_eq_some_iff.1 h2).1;have hkey:∀ e',es[j]? = some e'->({ e' with key:=.int .i64 a,val:=v }:MapEntry).key=e'.key:=fun e' he'=>by rw[hj] at he';cases he';exact h3.symm
  have hlist:(es.modify j (fun e'=>{ e' with key:=.int .i64 a,val:=v })).toList=es.toList.set j { e0 with key:=.int .i64 a,val:=v }:=by rw[Array.toList_modify,ChangeMaps.modify_eq_set _ _ _ _ h2]
  have hapart:∀ x ∈ es.toList,x.key=.int .i64 a->x=e0:=by
   intro x hx gO;obtain⟨i,hi,rfl⟩:=List.getElem_of_mem hx;by_cases e1:i=j
   ·subst e1;rw[List.getElem?_eq_getElem hi] at h2;exact Option.some.inj h2
   ·have hp:=((stamped_iff es eE).1 hs).2.2;rw[List.pairwise_iff_getElem] at hp;rw[List.getElem?_eq_getElem hjl] at h2;have iD:=Option.some.inj h2;rcases Nat.lt_or_gt_of_ne e1 with dD | dD
    ·exact absurd (by rw[gO,iD,h3]) (hp i j hi hjl dD)
    ·exact absurd (by rw[gO,iD,h3]) (hp j i hjl hi dD)
  refine⟨{ w with heap:=w.heap.setIfInBounds b (.map (es.modify j (fun e'=>{ e' with key:=.int .i64 a,val:=v })) eE) },by simp[Instr.mapUpdate,run_underlying ht,MapKept.run_getObj_map hb,run_checkKey hk ik,run_findKey hk h1,hj,h3,run_keyThatStays ik,MapKept.run_setObj_map _ hb,Result.andThen],⟨es.modify j (fun e'=>{ e' with key:=.int .i64 a,val:=v }),eE,(heap_set hb).1,stamped_modify hs _ _ (fun _ _=>rfl) (fun e' _ he'=>hkey e' he'),?_,?_⟩,z2g hb _⟩
  ·intro x hx;rw[hlist] at hx;rcases List.mem_or_eq_of_mem_set hx with hx | rfl
   ·exact hks x hx
   ·exact⟨a,rfl⟩
  ·intro a' v';rw[hlist]
   show (if a'=a then some v else f a')=some v' ↔ _
   by_cases ea:a'=a
   ·subst ea;rw[if_pos rfl];constructor
    ·intro hv;cases hv;exact⟨_,List.mem_set hjl _,rfl,rfl⟩
    ·rintro⟨x,hx,gO,rfl⟩;obtain⟨i,hi,rfl⟩:=List.getElem_of_mem hx;rw[List.getElem_set] at gO ⊢;by_cases e1:j=i
     ·simp[e1]
     ·rw[if_neg e1] at gO ⊢;have bQ:i<es.toList.length:=by simpa using hi
      have:=hapart _ (List.getElem_mem bQ) gO;have hp:=((stamped_iff es eE).1 hs).2.2;rw[List.pairwise_iff_getElem] at hp;rw[List.getElem?_eq_getElem hjl] at h2;have iD:=Option.some.inj h2;rcases Nat.lt_or_gt_of_ne e1 with dD | dD
      ·exact absurd (by rw[gO,iD,h3]) (hp j i hjl bQ dD)
      ·exact absurd (by rw[gO,iD,h3]) (hp i j bQ hjl dD)
   ·rw[if_neg ea,hf];constructor
    ·rintro⟨x,hx,gO,hxv⟩;obtain⟨i,hi,rfl⟩:=List.getElem_of_mem hx;by_cases e1:j=i
     ·subst e1;rw[List.getElem?_eq_getElem hjl] at h2;rw[Option.some.inj h2,h3] at gO;simp at gO;exact absurd gO.symm ea
     ·refine⟨es.toList[i],List.mem_iff_getElem.2 ⟨i,by simpa using hi,by rw[List.getElem_set,if_neg e1]⟩,gO,hxv⟩
    ·rintro⟨x,hx,gO,hxv⟩;rcases List.mem_or_eq_of_mem_set hx with hx | rfl
     ·exact⟨x,hx,gO,hxv⟩
     ·simp at gO;exact absurd gO.symm ea
theorem x2e {ty:TypeId} (ht:P.underlying t=some (.map k e)) (hk:P.underlying k=some (.int .i64)) (h:MpAt w b f) (a:Int) :
  ∃ w',(Builtin.delete_ #[t,k] ty #[.map (some b),.int .i64 a]).run P w=.ok (.tuple #[]) w'/\MpAt w' b (fun x=>if x=a then none else f x)/\Out b (b+1) w w':=by
 obtain⟨es,eE,hb,hs,hks,hf⟩:=h;have ik:IsKey (.int .i64) (.int .i64 a):=rfl;rcases findNow_spec ik es.toList 0 (MpAt.isKeys hks) with ⟨h1,h2⟩ | ⟨j,e0,h1,h2,h3⟩
 ·refine⟨_,by simp[Builtin.delete_,run_underlying ht,MapKept.run_getObj_map hb,run_checkKey hk ik,run_findKey hk h1,MapKept.run_setObj_map _ hb,Result.andThen];rfl,?_⟩;have hn:f a=none:=by
   cases hfa:f a with
   | none=>rfl
   | some v=>
    obtain⟨x,hx,gO,_⟩:=(hf a v).1 hfa;exact absurd gO (h2 x hx)
  first
   | exact⟨MpAt.congr ⟨es,eE,hb,hs,hks,hf⟩ (fun x=>by by_cases ex:x=a <;> simp[ex,hn]),Out.refl _ _ _⟩
   | exact⟨MpAt.congr ⟨es,eE,(heap_set hb).1,hs,hks,hf⟩ (fun x=>by by_cases ex:x=a <;> simp[ex,hn]),z2g hb _⟩
 ·have hjl:j<es.toList.length:=(List.getElem?_eq_some_iff.1 h2).1;have hjs:j<es.size:=by simpa using hjl
  have hsub:(es.eraseIdxIfInBounds j).toList=es.toList.eraseIdx j:=by
   unfold Array.eraseIdxIfInBounds;rw[dif_pos hjs];simp
  refine⟨_,by simp[Builtin.delete_,run_underlying ht,MapKept.run_getObj_map hb,run_checkKey hk ik,run_findKey hk h1,MapKept.run_setObj_map _ hb,Result.andThen],⟨_,_,(heap_set hb).1,stamped_erase hs j,?_,?_⟩,z2g hb _⟩
  ·intro x hx;rw[hsub] at hx;exact hks x ((List.eraseIdx_sublist _ _).subset hx)
  ·intro a' v';rw[hsub];have hp:=((stamped_iff es eE).1 hs).2.2;rw[List.pairwise_iff_getElem] at hp;rw[List.getElem?_eq_getElem hjl] at h2;have iD:=Option.some.inj h2
   show (if a'=a then none else f a')=some v' ↔ _
   by_cases ea:a'=a
   ·subst ea;rw[if_pos rfl];constructor
    ·intro hv;cases hv
    ·rintro⟨x,hx,gO,_⟩;obtain⟨i,fG,hi⟩:=List.mem_eraseIdx_iff_getElem?.1 hx;obtain⟨bQ,hxe⟩:=List.getElem?_eq_some_iff.1 hi;rcases Nat.lt_or_gt_of_ne fG with dD | dD
     ·exact absurd (by rw[hxe,gO,iD,h3]) (hp i j bQ hjl dD)
     ·exact absurd (by rw[hxe,gO,iD,h3]) (hp j i hjl bQ dD)
   ·rw[if_neg ea,hf];constructor
    ·rintro⟨x,hx,gO,hxv⟩;obtain⟨i,hi,rfl⟩:=List.getElem_of_mem hx;refine⟨_,List.mem_eraseIdx_iff_getElem?.2 ⟨i,fun e1=>?_,List.getElem?_eq_getElem hi⟩,gO,hxv⟩;subst e1;rw[iD,h3] at gO;simp at gO;exact ea gO.symm
    ·rintro⟨x,hx,gO,hxv⟩;exact⟨x,(List.eraseIdx_sublist _ _).subset hx,gO,hxv⟩
end
end Go.Proofs.YtjgnogflgoihfaaGreatDoor
namespace Go.Proofs.YtjgnogflgoihfaaGreatDoor
open Go.RowKit
theorem z4q:Tryz.prog.elem 71=189:=by kernel_rfl
theorem q5d (w:World):(sizeOf 189).run Tryz.prog w=.ok 3 w:=by kernel_rfl
theorem j0e (bw n cap lo hi:Nat) (h1:lo<=hi) (h2:hi<=cap):∃ o cp:Nat,(∀ wx,(Instr.slice 71 (.slice (some ⟨bw,0,none⟩) n cap) (some (.int .i64 (lo:Int))) (some (.int .i64 (hi:Int))) none).run Tryz.prog wx=.ok (.slice (some ⟨bw,o,none⟩) (hi-lo) cp) wx)/\(0<hi-lo->o=lo*3):=by
 by_cases e:cap=lo
 ·refine⟨0,cap-lo,fun wx=>?_,fun h=>by omega⟩;rw[run_slice_lh wx 71 _ n cap (by rw[z4q];exact Tryz.underlying71) .i64 .i64 (lo:Int) (hi:Int) (by omega) (by omega) (by omega),z4q,q5d];simp[Result.andThen,sliced,e]
 ·refine⟨lo*3,cap-lo,fun wx=>?_,fun h=>rfl⟩;rw[run_slice_lh wx 71 _ n cap (by rw[z4q];exact Tryz.underlying71) .i64 .i64 (lo:Int) (hi:Int) (by omega) (by omega) (by omega),z4q,q5d];have e2:(⟨bw,0,none⟩:Addr).add (lo*3)=⟨bw,lo*3,none⟩:=by rw[Addr.add_lit,Nat.zero_add]
  simp[Result.andThen,sliced,e,e2]
theorem j4m {w:World} {a:Option Addr} {cap:Nat} (x y z:Int) :
  Kz 207 #[.slice a 0 cap,.agg #[Iz x,Iz y,Iz z]] w fun e w'=>e=.returned (.tuple #[])/\Out 0 0 w w':=by
 go_enter Tryz.func207,Tryz.ntmps207
 go_wp2_with fail;go_loopw [7] (fun u wr=>u=Iz 0/\Out 0 0 w wr) (fun u _=>0)
 case atStart=>exact⟨rfl,(Out.refl _ _ _).alloc _⟩
 case round=>
  obtain⟨rfl,ho⟩:=hrel;have HO:=Q3 ho;clear ho;go_wp2;exact bodyPost_end (results_none Tryz.results207 _ _ _) rfl ⟨rfl,HO.out⟩
theorem j4l {w:World} {bw n p k o cap:Nat} {S:Nat->Int × Int × Int} (hr:PRow w bw n S) (hpk:p+k<=n) (hn:n<=4096) (ho:0<k->o=p*3) (x y z:Int) :
  Calls Tryz.prog 207 #[.slice (some ⟨bw,o,none⟩) k cap,.agg #[.int .i64 x,.int .i64 y,.int .i64 z]] w fun e w'=>e=.returned (.tuple #[])/\PRow w' bw n (z9s S p k (x,y,z))/\Out bw (bw+1) w w':=by
 by_cases h0:0<k
 ·rw[ho h0];exact j8z hr hpk hn x y z
 ·have:k=0:=by omega
  subst this;rw[z4h];exact(j4m x y z).mono fun e w' ⟨h1,h2⟩=>⟨h1,hr.kept h2 z0,h2.any _ _⟩
theorem q5l {w:World} {b bw n:Nat} {S:Nat->Int × Int × Int} (h:TblAt 197 w b bw n S) (hT:Tab w) (k:Nat) (h1:1<=k) (h2:k<=16) (p:Nat) (hf:z0a S n k=some p) :
  Kz 198 #[Pq b,Iz k] w fun e w'=>e=.returned (.tuple #[Iz p,Iz 0])/\TblAt 197 w' b bw n (setR S p k)/\Out bw (bw+1) w w':=by
 have hn:=h.nums;have HH:=Q3 h;have HT:=Q3 hT;have HR:Hid (Kz 212 #[Pq b,Iz k] w fun e w'=>e=.returned (.tuple #[Iz p,.bool true])/\Out 0 0 w w'):=by
  obtain⟨cap,c0,_⟩:=HH.out.cell;have:=q8e c0 HT.out ⟨hn.1,hn.2.1⟩ HH.out.row HH.out.good k h1 h2;rw[hf] at this;exact this
 obtain⟨p1,p2,p3⟩:=z1v HH.out.good hf;have p4:=p3 p (Nat.le_refl _) (by omega);have HG:=Q3 (z8v HH.out.good p3 h1 h2 p2);have b0:(0:Int)<=(p:Int):=by omega
 have b1:(p:Int)<(n:Int):=by omega
 have b2:(n:Int)<=4096:=by omega
 have b3:(1:Int)<=(k:Int):=by omega
 have b4:(k:Int)<=16:=by omega
 have b5:(p:Int)+(k:Int)<=(n:Int):=by omega
 have HP:=Q3 p1;have HP4:=Q3 p4;have HB:Hid (4<=b/\4<=bw/\bw ≠ b):=⟨hn.2.2.1,hn.2.2.2.1,hn.2.2.2.2.1⟩
 clear hn h hT hf p1 p2 p3 p4;go_enter Tryz.func198,Tryz.ntmps198
 go_wp2_with (go_at_call 212;refine HR.out.mono ?_;rintro e w2 ⟨rfl,ho⟩;obtain⟨cap,c0,kU⟩:=(HH.out.quiet ho).cell;obtain⟨q0,q1,q2⟩:=(HH.out.quiet ho).row.page HP.out HP4.out;have fz0:=Row.frozen (HH.out.quiet ho).row (p*3);have fz1:=Row.frozen (HH.out.quiet ho).row (p*3+1);have fz2:=Row.frozen (HH.out.quiet ho).row (p*3+2);have aH:=Q3 ho;clear ho);have hr3:=(HH.out.quiet aH.out).row.set p 2 0 k;have dU:Out bw (bw+1) w (((w2.setCell ⟨bw,p*3,none⟩ (Iz 2)).setCell ⟨bw,p*3+1,none⟩ (Iz 0)).setCell ⟨bw,p*3+2,none⟩ (Iz k)):=(aH.out.any _ _).set3 z1 _ _ _;have d0:=((Out.refl bw (bw+1) w2).set3 (b:=bw) (o:=p*3) z1 (Iz 2) (Iz 0) (Iz k)).cell c0 (by have:=HB.out;omega);obtain⟨W3,hW3⟩:∃ W3,((w2.setCell ⟨bw,p*3,none⟩ (Iz 2)).setCell ⟨bw,p*3+1,none⟩ (Iz 0)).setCell ⟨bw,p*3+2,none⟩ (Iz k)=W3:=⟨_,rfl⟩
 rw[hW3] at hr3 dU d0 ⊢;have hT3:=HT.out.kept dU (.inl HB.out.2.1);obtain⟨r0,r1,r2⟩:=hT3.r;have fY:=Q3 hr3;have bU:=Q3 dU;obtain⟨l,hl⟩:∃ l:Nat,p+1=l:=⟨_,rfl⟩
 obtain⟨u,hu⟩:∃ u:Nat,p+k=u:=⟨_,rfl⟩
 obtain⟨o,cp,hsl,iS⟩:=j0e bw n cap l u (by omega) (by omega);obtain⟨ln,hln⟩:∃ ln:Nat,u-l=ln:=⟨_,rfl⟩
 rw[hln] at hsl iS;have x1:IntKind.i64.wrap ((p:Int)+1)=(l:Int):=by simp[IntKind.wrap,IntKind.signed,IntKind.bits];omega
 have x2:IntKind.i64.wrap ((p:Int)+(k:Int))=(u:Int):=by simp[IntKind.wrap,IntKind.signed,IntKind.bits];omega
 have HF:Hid (∀ w',PRow w' bw n (setP S p (2,0,(k:Int)))->Kz 207 #[.slice (some ⟨bw,o,none⟩) ln cp,.agg #[Iz 3,Iz 0,Iz 0]] w' fun e w''=>e=.returned (.tuple #[])/\PRow w'' bw n (setR S p k)/\Out bw (bw+1) w' w''):=fun w' hr=>by
  rw[j7a S p k h1,show k-1=ln from by omega];exact j4l hr (by omega) (by omega) (fun h=>by rw[iS h,hl]) 3 0 0
 clear hr3 dU hT3 q0 q1 q2 fz0 fz1 fz2 c0 hW3 hl hu hln iS;go_region_held3 (fun w'=>cq w' b 0=some (Sz bw n cap)/\cq w' 2 0=some (Iz 3)/\cq w' 2 1=some (Iz 0)/\cq w' 2 2=some (Iz 0)) (first | go_keep | (refine⟨?_,?_,?_,?_⟩ <;> exact mX.cell (by assumption) (by have:=HB.out;omega)))
  (first | (go_at_call 207;refine(HF.out _ (by exact fY.out)).mono ?_;rintro e w4 ⟨rfl,hp4,mX⟩))
 all_goals (try go_wp2)
 all_goals go_ret2
 all_goals exact⟨rfl,HH.out.turn (bU.out.trans ((Out.refl _ _ _).drew.trans mX)) hp4 HG.out,bU.out.trans ((Out.refl _ _ _).drew.trans mX)⟩
theorem q5k {w:World} {b bw n:Nat} {S:Nat->Int × Int × Int} (h:TblAt 197 w b bw n S) (hT:Tab w) (k:Nat) (h1:1<=k) (h2:k<=16) (hf:z0a S n k=none) :
  Kz 198 #[Pq b,Iz k] w fun e w'=>e=.returned (.tuple #[Iz 0,Iz 20])/\Out 0 0 w w':=by
 have hn:=h.nums;have HR:Hid (Kz 212 #[Pq b,Iz k] w fun e w'=>e=.returned (.tuple #[Iz 0,.bool false])/\Out 0 0 w w'):=by
  obtain⟨cap,c0,_⟩:=h.cell;have:=q8e c0 hT ⟨hn.1,hn.2.1⟩ h.row h.good k h1 h2;rw[hf] at this;exact this
 have b3:(1:Int)<=(k:Int):=by omega
 have b4:(k:Int)<=16:=by omega
 clear hn h hT hf h1 h2;go_enter Tryz.func198,Tryz.ntmps198
 go_wp2_with (go_at_call 212;refine HR.out.mono ?_;rintro e w2 ⟨rfl,ho⟩);go_ret2;exact⟨rfl,ho⟩
theorem q8l {w:World} {b bw n:Nat} {S:Nat->Int × Int × Int} (h:TblAt 197 w b bw n S) (hT:Tab w) (c:Int) :
  Kz 198 #[Pq b,Iz c] w fun e w'=>e=.returned (.tuple #[Iz (trP S n c:Nat),Iz (trE S n c)])/\TblAt 197 w' b bw n (trS S n c)/\Out bw (bw+1) w w':=by
 unfold trP trE trS;by_cases hc:j2f c=true
 ·rw[if_pos hc,if_pos hc,if_pos hc];unfold j2f at hc;simp at hc;obtain⟨k,rfl⟩:∃ k:Nat,c=k:=⟨c.toNat,by omega⟩
  rw[show ((k:Nat):Int).toNat=k from by omega];cases hf:z0a S n k with
  | none=>exact(q5k h hT k (by omega) (by omega) hf).mono fun e w' ⟨a,o⟩=>⟨a,h.quiet o,o.any _ _⟩
  | some p=>exact q5l h hT k (by omega) (by omega) p hf
 ·rw[if_neg hc,if_neg hc,if_neg hc];unfold j2f at hc;simp at hc;have H:=Q3 h;by_cases h1:1<=c
  ·have h2:16<c:=by omega
   clear h hT hc;go_enter Tryz.func198,Tryz.ntmps198
   go_wp2;go_ret2;exact⟨rfl,H.out,Out.refl _ _ _⟩
  ·have h2:c<1:=by omega
   clear h hT hc h1;go_enter Tryz.func198,Tryz.ntmps198
   go_wp2;go_ret2;exact⟨rfl,H.out,Out.refl _ _ _⟩
theorem j9g {w:World} {b bw n:Nat} {S:Nat->Int × Int × Int} (h:TblAt 197 w b bw n S) (hT:Tab w) (p:Nat) (hp:p<n) (hk:(S p).1=1\/(S p).1=2) :
  Kz 187 #[Pq b,Iz p] w fun e w'=>e=.returned (Iz 0)/\TblAt 197 w' b bw n (setF S p (z5n (S p)))/\Out bw (bw+1) w w':=by
 have hn:=h.nums;have HH:=Q3 h;have HT:=Q3 hT;obtain⟨l1,l2,l3,_,iM⟩:=z6k h.good hp hk;have HG:=Q3 (q3t h.good hp hk);have e1:inB n (p:Int)=true:=by unfold inB;simp;omega
 have e2:stP S n (p:Int)=S p:=by unfold stP;rw[e1];rfl
 obtain⟨x,y,z,hxyz⟩:=z1z (S p);have HS:Hid (∀ w',Out 0 0 w w'->Kz 206 #[Pq b,Iz p] w' fun e w'=>e=.returned (.tuple #[.agg #[Iz x,Iz y,Iz z],.bool true])/\Out 0 0 w w'):=fun w' ho=>by
  have:=q5h (h.quiet ho) (p:Int);rw[e1,e2,hxyz] at this;exact this.mono fun e w' ⟨a,b⟩=>⟨a,ho.trans b⟩
 obtain⟨L,hL⟩:∃ L,z5n (S p)=L:=⟨_,rfl⟩
 rw[hL] at l1 l2 l3 iM HG ⊢;rw[hxyz] at iM;have hx0:(x == 0)=false:=by rcases iM with ⟨a,_⟩ | ⟨a,_⟩ <;> (simp at a;subst a;rfl)
 have hx3:(x == 3)=false:=by rcases iM with ⟨a,_⟩ | ⟨a,_⟩ <;> (simp at a;subst a;rfl)
 have HZ:Hid (max z 1=(L:Int)/\0<=z/\z<=16):=by
  show _/\_
  rcases iM with ⟨a,b,c⟩ | ⟨a,b⟩
  ·simp at c;subst c;subst b;decide
  ·simp at b;subst b;omega
 have b0:(0:Int)<=(p:Int):=by omega
 have b1:(p:Int)<(n:Int):=by omega
 have b2:(n:Int)<=4096:=by omega
 have HB:Hid (4<=b/\4<=bw/\bw ≠ b/\p+L<=n/\n<=4096):=⟨hn.2.2.1,hn.2.2.2.1,hn.2.2.2.2.1,l3,hn.2.1⟩
 clear hn h hT l1 l2 l3 iM e1 e2 hL hxyz hk;go_enter Tryz.func187,Tryz.ntmps187
 go_wp2_with (go_at_call 206;refine(HS.out _ (by first | exact Out.refl 0 0 _ | exact(Out.refl 0 0 _).alloc _)).mono ?_;rintro e w2 ⟨rfl,dZ⟩;have HX:Hid (w.heap.size<=w2.heap.size):=dZ.size;have ho:=dZ.alloc (.cells #[Iz x,Iz y,Iz z] 189);have aH:=Q3 ho;obtain⟨f0,f1,f2⟩:=(HT.out.quiet ho).f;obtain⟨r0,r1,r2⟩:=(HT.out.quiet ho).r;obtain⟨cap,c0,kU⟩:=(HH.out.quiet ho).cell;clear ho dZ);obtain⟨x0,oJ,x2'⟩:=box3 (heap_alloc_new w2 (.cells #[Iz x,Iz y,Iz z] 189));obtain⟨W3,hW3⟩:∃ W3,w2.alloc (.cells #[Iz x,Iz y,Iz z] 189)=W3:=⟨_,rfl⟩
 obtain⟨X,hX⟩:∃ X,w2.heap.size=X:=⟨_,rfl⟩
 have hXw:w.heap.size<=X:=hX ▸ HX.out;rw[hW3] at aH f0 f1 f2 r0 r1 r2 c0 x2' ⊢;rw[hX] at x2' ⊢;obtain⟨u,hu⟩:∃ u:Nat,p+L=u:=⟨_,rfl⟩
 obtain⟨o,cp,hsl,iS⟩:=j0e bw n cap p u (by omega) (by have:=HB.out;omega);obtain⟨ln,hln⟩:∃ ln:Nat,u-p=ln:=⟨_,rfl⟩
 rw[hln] at hsl iS;have hmx:(if (1:Int) > z then (1:Int) else z)=(L:Int):=by have:=HZ.out;split <;> omega
 have hmx2:(if z<1 then (1:Int) else z)=(L:Int):=by have:=HZ.out;split <;> omega
 have y2:IntKind.i64.wrap ((p:Int)+(L:Int))=(u:Int):=by have:=HB.out;simp[IntKind.wrap,IntKind.signed,IntKind.bits];omega
 have HF:Hid (∀ w',PRow w' bw n S->Kz 207 #[.slice (some ⟨bw,o,none⟩) ln cp,.agg #[Iz 0,Iz 0,Iz 0]] w' fun e w''=>e=.returned (.tuple #[])/\PRow w'' bw n (setF S p L)/\Out bw (bw+1) w' w''):=fun w' hr=>by
  rw[q8h S p L,show L=ln from by omega];exact j4l hr (by have:=HB.out;omega) (by have:=HB.out;omega) iS 0 0 0
 have fY:=Q3 (HH.out.quiet aH.out).row;have HX2:Hid (bw<X):=by show bw<X;have:=HH.out.nums;omega
 clear hu hln iS hW3 hX x0 oJ hXw r0 r1 r2;go_region_held3 (fun w'=>cq w' b 0=some (Sz bw n cap)/\cq w' X 2=some (Iz z)/\cq w' 1 0=some (Iz 0)/\cq w' 1 1=some (Iz 0)/\cq w' 1 2=some (Iz 0)) (first | go_keep | (refine⟨?_,?_,?_,?_,?_⟩ <;> exact mX.cell (by assumption) (by have:=HB.out;have:=HX2.out;omega)))
  (first | (go_at_call 207;refine(HF.out _ (by exact fY.out)).mono ?_;rintro e w4 ⟨rfl,hp4,mX⟩))
 all_goals (try go_wp2)
 all_goals go_ret
 all_goals exact⟨rfl,HH.out.turn ((aH.out.any _ _).trans ((Out.refl _ _ _).drew.trans mX)) hp4 HG.out,(aH.out.any _ _).trans ((Out.refl _ _ _).drew.trans mX)⟩
def x1o (x:Int) (ok:Bool):Prop:=ok=false\/x=0\/x=3
theorem x3q {w:World} {b:Nat} (hT:Tab w) (p:Int) (x:Int) (ok:Bool) (hx:x1o x ok)
  (HS:Hid (∀ w',Out 0 0 w w'->Kz 206 #[Pq b,Iz p] w' fun e w'=>e=.returned (.tuple #[.agg #[Iz x,Iz 0,Iz 0],.bool ok])/\Out 0 0 w w')) :
  Kz 187 #[Pq b,Iz p] w fun e w'=>e=.returned (Iz 1)/\Out 0 0 w w':=by
 have HT:=Q3 hT;clear hT;rcases hx with rfl | rfl | rfl
 ·go_enter Tryz.func187,Tryz.ntmps187
  go_wp2_with (go_at_call 206;refine(HS.out _ (Out.refl 0 0 _)).mono ?_;rintro e w2 ⟨rfl,dZ⟩;have aH:=Q3 (dZ.alloc (.cells #[Iz x,Iz 0,Iz 0] 189));obtain⟨f0,f1,f2⟩:=(HT.out.quiet aH.out).f;obtain⟨r0,r1,r2⟩:=(HT.out.quiet aH.out).r;clear dZ)
  all_goals go_ret
  all_goals exact⟨rfl,aH.out⟩
 ·cases ok
  all_goals
   go_enter Tryz.func187,Tryz.ntmps187
   go_wp2_with (go_at_call 206;refine(HS.out _ (Out.refl 0 0 _)).mono ?_;rintro e w2 ⟨rfl,dZ⟩;have aH:=Q3 (dZ.alloc (.cells #[Iz 0,Iz 0,Iz 0] 189));obtain⟨f0,f1,f2⟩:=(HT.out.quiet aH.out).f;obtain⟨r0,r1,r2⟩:=(HT.out.quiet aH.out).r;clear dZ);go_ret;exact⟨rfl,aH.out⟩
 ·cases ok
  all_goals
   go_enter Tryz.func187,Tryz.ntmps187
   go_wp2_with (go_at_call 206;refine(HS.out _ (Out.refl 0 0 _)).mono ?_;rintro e w2 ⟨rfl,dZ⟩;have aH:=Q3 (dZ.alloc (.cells #[Iz 3,Iz 0,Iz 0] 189));obtain⟨f0,f1,f2⟩:=(HT.out.quiet aH.out).f;obtain⟨r0,r1,r2⟩:=(HT.out.quiet aH.out).r;clear dZ);go_ret;exact⟨rfl,aH.out⟩
theorem j1k {n:Nat} {S:Nat->Int × Int × Int} {p:Int} (hg:Good n S) (h:z5l S n p=false):∃ x,stP S n p=(x,0,0)/\x1o x (inB n p):=by
 unfold z5l at h;cases hb:inB n p with
 | false=>exact⟨0,by unfold stP;rw[hb];rfl,.inl rfl⟩
 | true=>
  rw[hb] at h;unfold stP;rw[hb];have hi:p.toNat<n:=by unfold inB at hb;simp at hb;omega
  rcases hg.cases hi with e | ⟨c,_,_,e⟩ | ⟨k,_,_,_,e⟩ | e
  ·exact⟨0,by rw[if_pos rfl,e],.inr (.inl rfl)⟩
  ·rw[e] at h;simp at h
  ·rw[e] at h;simp at h
  ·exact⟨3,by rw[if_pos rfl,e],.inr (.inr rfl)⟩
theorem q9f {w:World} {b bw n:Nat} {S:Nat->Int × Int × Int} (h:TblAt 197 w b bw n S) (hT:Tab w) (p:Int) :
  Calls Tryz.prog 187 #[.pointer (some ⟨b,0,none⟩),.int .i64 p] w fun e w'=>e=.returned (.int .i64 (gvE S n p))/\TblAt 197 w' b bw n (gvS S n p)/\Out bw (bw+1) w w':=by
 unfold gvE gvS;by_cases hb:z5l S n p=true
 ·rw[if_pos hb,if_pos hb];have jK:=hb;unfold z5l inB at hb;simp at hb;obtain⟨k,rfl⟩:∃ k:Nat,p=k:=⟨p.toNat,by omega⟩
  exact j9g h hT k (by omega) (by simpa using hb.2)
 ·rw[if_neg hb,if_neg hb];obtain⟨x,e,hx⟩:=j1k h.good (by simpa using hb);refine(x3q hT p x (inB n p) hx (fun w' ho=>?_)).mono fun e w' ⟨a,o⟩=>⟨a,h.quiet o,o.any _ _⟩
  have:=q5h (h.quiet ho) p;rw[e] at this;exact this.mono fun e w' ⟨a,b⟩=>⟨a,ho.trans b⟩
theorem z5m:(Tryz.prog.info? 189).map (fun i=>(i.zero,i.size,i.bytes))=some (some (.agg #[.int .i64 0,.int .i64 0,.int .i64 0]),3,24):=by kernel_rfl
theorem z0c {T:TypeId} {z:Value} {a b:Nat} (h:(Tryz.prog.info? T).map (fun i=>(i.zero,i.size,i.bytes))=some (some z,a,b)):∃ i,Tryz.prog.info? T=some i/\i.zero=some z/\i.size=a/\i.bytes=b:=by
 cases hi:Tryz.prog.info? T with
 | none=>rw[hi] at h;cases h
 | some i=>rw[hi] at h;simp at h;exact⟨i,rfl,h.1,h.2.1,h.2.2⟩
theorem made3 {i k:Nat} (h:i<k):(madeCells #[Value.int .i64 0,.int .i64 0,.int .i64 0] k)[i]? = some (.int .i64 0):=by
 have hm:i % 3=0\/i % 3=1\/i % 3=2:=by omega
 rcases hm with hm | hm | hm <;> simp[madeCells,h,hm]
theorem q0s (n:Nat) (hn:n<=4096):∃ dI:Array Value,(∀ i,i<n*3->dI[i]? = some (.int .i64 0))/\dI.size=n*3/\∀ w:World,(Instr.makeSlice 71 (.int .i64 (n:Int)) (.int .i64 (n:Int))).run Tryz.prog w=.ok (.slice (some ⟨w.heap.size,0,none⟩) n n) (w.alloc (.cells dI 189)):=by
 obtain⟨i0,hi,iI,hz1,iH⟩:=z0c z5m;refine⟨madeCells #[Value.int .i64 0,.int .i64 0,.int .i64 0] (n*3),fun i h=>made3 h,size_madeCells _ _,fun w=>?_⟩;have:=run_make (P:=Tryz.prog) w 71 189 i0 _ Tryz.underlying71 hi iI .i64 .i64 (n:Int) (n:Int) (by omega) (Int.le_refl _) (by rw[iH];omega) (by omega);rw[this,hz1];simp[Value.cells]
theorem q5i {T:TypeId} {w:World} {dI:Array Value} {n:Nat} (h1:1<=n) (h2:n<=4096) (hw:4<=w.heap.size) (hc:∀ i,i<n*3->dI[i]? = some (.int .i64 0)) (hs:dI.size=n*3) :
  TblAt T ((w.alloc (.cells dI 189)).alloc (.cells #[.slice (some ⟨w.heap.size,0,none⟩) n n] T)) (w.heap.size+1) w.heap.size n (fun _=>(0,0,0)):=by
 refine⟨n,?_,Nat.le_refl _,by omega,by omega,hw,h1,h2,q3s n,dI,?_,by omega,fun i hi=>?_⟩
 ·have:=heap_alloc_new (w.alloc (.cells dI 189)) (.cells #[.slice (some ⟨w.heap.size,0,none⟩) n n] T);simpa using this
 ·rw[heap_alloc_old _ _ (by simp)];exact heap_alloc_new _ _
 ·rw[hc i hi];unfold q4n fld;simp
def q9p (n:Int):Bool:=decide (1<=n) && decide (n<=4096)
theorem x4g {w:World} (hT:Tab w) (n:Nat) (h1:1<=n) (h2:n<=4096) :
  Kz 97 #[Iz n] w fun e w'=>e=.returned (.tuple #[.pointer (some ⟨w.heap.size+1,0,none⟩),Iz 0])/\TblAt 197 w' (w.heap.size+1) w.heap.size n (fun _=>(0,0,0))/\Out 0 0 w w'/\w'.heap.size=w.heap.size+2:=by
 obtain⟨dI,hc,hs,hmk⟩:=q0s n h2;have HN:=Q3 (fun T=>q5i (T:=T) h1 h2 hT.lt hc hs);have b1:(1:Int)<=(n:Int):=by omega
 have b2:(n:Int)<=4096:=by omega
 clear hT h1 h2 hc hs;go_enter Tryz.func97,Tryz.ntmps97
 go_wp2;go_ret2;exact⟨rfl,HN.out _,((Out.refl _ _ _).alloc _).alloc _,by simp⟩
theorem x6r (n:Int) (h:q9p n=false) (w:World) :
  Kz 97 #[Iz n] w fun e w'=>e=.returned (.tuple #[.pointer none,Iz 1])/\w'=w:=by
 unfold q9p at h;simp at h;by_cases h1:1<=n
 ·have h2:4096<n:=by omega
  clear h;go_enter Tryz.func97,Tryz.ntmps97
  go_wp2;go_ret2;exact⟨rfl,rfl⟩
 ·have h2:n<1:=by omega
  clear h h1;go_enter Tryz.func97,Tryz.ntmps97
  go_wp2;go_ret2;exact⟨rfl,rfl⟩
theorem j1z {w:World} (hT:4<=w.heap.size) (n:Nat) (h1:1<=n) (h2:n<=4096) :
  Kz 112 #[Iz n] w fun e w'=>e=.returned (.tuple #[.pointer (some ⟨w.heap.size+1,0,none⟩),Iz 0])/\TblAt 144 w' (w.heap.size+1) w.heap.size n (fun _=>(0,0,0))/\Out 0 0 w w'/\w'.heap.size=w.heap.size+2:=by
 obtain⟨dI,hc,hs,hmk⟩:=q0s n h2;have HN:=Q3 (fun T=>q5i (T:=T) h1 h2 hT hc hs);have b1:(1:Int)<=(n:Int):=by omega
 have b2:(n:Int)<=4096:=by omega
 clear hT h1 h2 hc hs;go_enter Tryz.func112,Tryz.ntmps112
 go_wp2;go_ret2;exact⟨rfl,HN.out _,((Out.refl _ _ _).alloc _).alloc _,by simp⟩
theorem j6k (n:Int) (h:q9p n=false) (w:World) :
  Kz 112 #[Iz n] w fun e w'=>e=.returned (.tuple #[.pointer none,Iz 1])/\w'=w:=by
 unfold q9p at h;simp at h;by_cases h1:1<=n
 ·have h2:4096<n:=by omega
  clear h;go_enter Tryz.func112,Tryz.ntmps112
  go_wp2;go_ret2;exact⟨rfl,rfl⟩
 ·have h2:n<1:=by omega
  clear h h1;go_enter Tryz.func112,Tryz.ntmps112
  go_wp2;go_ret2;exact⟨rfl,rfl⟩
def pgs (l:List (Int × Int × Int)):List Value:=l.flatMap fun p=>[.int .i64 p.1,.int .i64 p.2.1,.int .i64 p.2.2]
theorem q9w (p:Int × Int × Int) (l:List (Int × Int × Int)):pgs (p :: l)=.int .i64 p.1 :: .int .i64 p.2.1 :: .int .i64 p.2.2 :: pgs l:=rfl
theorem z6r (l:List (Int × Int × Int)):(pgs l).length=l.length*3:=by
 induction l with
 | nil=>rfl
 | cons p l ih=>rw[q9w];simp[ih];omega
theorem x7h {l:List (Int × Int × Int)}:∀ {i:Nat} {p:Int × Int × Int},l[i]? = some p->(pgs l)[i*3]? = some (.int .i64 p.1)/\(pgs l)[i*3+1]? = some (.int .i64 p.2.1)/\(pgs l)[i*3+2]? = some (.int .i64 p.2.2):=by
 induction l with
 | nil=>intro i p h;simp at h
 | cons q l ih=>
  intro i p h;rw[q9w];cases i with
  | zero=>simp at h;subst h;exact⟨rfl,rfl,rfl⟩
  | succ i=>
   have:=ih (i:=i) (p:=p) (by simpa using h);rw[show (i+1)*3=i*3+3 from by omega];simpa using this
theorem q7p (l:List (Int × Int × Int)):∀ u ∈ pgs l,u.oneCell'=true:=by
 intro u hu;unfold pgs at hu;rw[List.mem_flatMap] at hu;obtain⟨p,_,hu⟩:=hu;simp at hu;rcases hu with rfl | rfl | rfl <;> rfl
def pgl (S:Nat->Int × Int × Int) (n:Nat):List (Int × Int × Int):=(List.range n).map S
theorem z2n (S:Nat->Int × Int × Int) (n:Nat):(pgl S n).length=n:=by unfold pgl;simp
theorem x7g (S:Nat->Int × Int × Int) {n i:Nat} (h:i<n):(pgl S n)[i]? = some (S i):=by unfold pgl;simp[h]
theorem z8b (S:Nat->Int × Int × Int) (n:Nat) {j:Nat} (h:j<n*3):(pgs (pgl S n))[j]? = some (q4n S j):=by
 obtain⟨a,b,c⟩:=x7h (x7g S (n:=n) (i:=j / 3) (by omega));unfold q4n;have hm:j % 3=0\/j % 3=1\/j % 3=2:=by omega
 rcases hm with hm | hm | hm
 ·rw[show j / 3*3=j from by omega] at a;rw[a,hm];rfl
 ·rw[show j / 3*3+1=j from by omega] at b;rw[b,hm];rfl
 ·rw[show j / 3*3+2=j from by omega] at c;rw[c,hm];rfl
def ListIs (w:World) (base:Nat) (v:Value) (l:List (Int × Int × Int)):Prop:=w.ownsRow base 189 3 v l.length (pgs l)
theorem ListIs.row {w:World} {B g n cap:Nat} {S:Nat->Int × Int × Int} (h:ListIs w B (.slice (some ⟨g,0,none⟩) n cap) (pgl S n)):PRow w g n S/\B<=g/\n<=cap:=by
 unfold ListIs at h;rw[z2n] at h;rcases h.2 with ⟨e,h0⟩ | ⟨g',cT,dI,e,h1,h2,h3,h4,h5,h6⟩
 ·cases e
 ·cases e;refine⟨⟨dI,h2,by omega,fun i hi=>?_⟩,h1,h3⟩;have e:(dI.toList.take (n*3))[i]? = (pgs (pgl S n))[i]? :=by rw[h6]
  rw[z8b S n hi] at e;simp[hi] at e;simpa using e
theorem j3q {w:World} {bw n cap:Nat} {S:Nat->Int × Int × Int} (hr:PRow w bw n S) (h1:1<=n) (hk:n<=4096) :
  Kz 146 #[Sz bw n cap] w fun e w'=>∃ g cT,e=.returned (Sz g n cT)/\ListIs w' w.heap.size (Sz g n cT) (pgl S n)/\Out 0 0 w w':=by
 obtain⟨i0,hi,iI,hz1,iH⟩:=z0c z5m;have heq:=fun w=>Lib.run_eql_slice_nil (P:=Tryz.prog) w 71 189 (some ⟨bw,0,none⟩) n cap 0 0 Tryz.underlying71
 simp at heq;have jR:(w.alloc (.cells #[] 189)).ownsRow w.heap.size 189 3 (Sz w.heap.size 0 0) 0 []:=
  ⟨rfl,.inr ⟨w.heap.size,0,#[],rfl,Nat.le_refl _,heap_alloc_new _ _,Nat.le_refl _,Nat.zero_le _,rfl,rfl⟩⟩
 have hnews:∀ j u,(pgs (pgl S n))[j]? = some u->(w.alloc (.cells #[] 189)).cell? ((⟨bw,0,none⟩:Addr).add j)=some u:=by
  intro j u hj;have hjk:j<n*3:=by
   have:=(List.getElem?_eq_some_iff.1 hj).1;rw[z6r,z2n] at this;exact this
  rw[z8b S n hjk] at hj;cases hj;have:=(PRow.kept hr ((Out.refl 0 0 w).alloc (.cells #[] 189)) z0).cell hjk;rw[Addr.add_lit,Nat.zero_add];exact this
 have HOW:=Q3 jR;have HNE:=Q3 hnews;have HK:Hid (1<=n/\n<=4096):=⟨h1,hk⟩
 clear jR hnews hr h1 hk;go_enter Tryz.func146,Tryz.ntmps146
 go_wp2_with (at_builtin;refine wpList_append_own _ rfl _ _ 71 rfl w.heap.size 189 i0 (.agg #[Iz 0,Iz 0,Iz 0]) 3 24 Tryz.underlying71 hi iI hz1 iH rfl (by decide) (Sz w.heap.size 0 0) 0 [] rfl HOW.out ⟨bw,0,none⟩ n cap (pgs (pgl S n)) rfl (by rw[z6r,z2n]) HNE.out (q7p _) (by unfold maxLen;have:=HK.out;omega) (by have:=HK.out;omega) (by simp) ?_;intro v' w1 dN aV jS);rw[Nat.zero_add,List.nil_append] at dN;obtain⟨g,cT,rfl,hg,_⟩:=dN.form (by have:=HK.out;omega);have hO:Out 0 0 w w1:=by
  have h0:Out 0 0 w (w.alloc (.cells #[] 189)):=(Out.refl _ _ _).alloc _;exact⟨aV.os.trans h0.1,aV.tape.trans h0.2.1,aV.output.trans h0.2.2.1,Nat.le_trans h0.size aV.size,fun j h1 h2=>(aV.block j (Nat.lt_of_lt_of_le h1 h0.size) (by simp[Value.ownBlock];omega)).trans (h0.block h1 h2)⟩
 have HL:Hid (ListIs w1 w.heap.size (Sz g n cT) (pgl S n)):=by
  show World.ownsRow _ _ _ _ _ _ _
  rw[z2n];exact dN
 have HO:=Q3 hO;clear dN aV jS hO hg;go_wp2;go_ret;exact⟨g,cT,by simp,HL.out,HO.out⟩
theorem j3d {w:World} {b bw n:Nat} {S:Nat->Int × Int × Int} (h:TblAt 197 w b bw n S) :
  Kz 87 #[Pq b] w fun e w'=>∃ g cT,e=.returned (Sz g n cT)/\ListIs w' w.heap.size (Sz g n cT) (pgl S n)/\Out 0 0 w w':=by
 obtain⟨cap,c0,_⟩:=h.cell;have H:=Q3 (z9a c0);have HC:=Q3 (j3q (cap:=cap) h.row h.nums.1 h.nums.2.1);clear c0 h;go_enter Tryz.func87,Tryz.ntmps87
 go_wp2_with (first | (go_at_call 147;refine Q4 H.out ?_) | (go_at_call 146;refine HC.out.mono ?_;rintro e w1 ⟨g,cT,rfl,hl,ho⟩;have HL:=Q3 hl;clear hl));go_ret;exact⟨g,cT,rfl,HL.out,ho⟩
theorem x1d {T:TypeId} {w w1:World} {g n cap:Nat} {S:Nat->Int × Int × Int} (hw:4<=w.heap.size) (ho:Out 0 0 w w1) (hl:ListIs w1 w.heap.size (.slice (some ⟨g,0,none⟩) n cap) (pgl S n)) (h1:1<=n) (h2:n<=4096) (hg:Good n S) :
  TblAt T (w1.alloc (.cells #[.slice (some ⟨g,0,none⟩) n cap] T)) w1.heap.size g n S/\w.heap.size<=g/\w.heap.size<=w1.heap.size:=by
 obtain⟨hr,hb,hc⟩:=hl.row;have:=ho.size;have:=Row.lt hr;exact⟨⟨cap,heap_alloc_new _ _,hc,by omega,by omega,by omega,h1,h2,hg,hr.kept ((Out.refl 0 0 _).alloc _) z0⟩,hb,by omega⟩
end Go.Proofs.YtjgnogflgoihfaaGreatDoor
namespace Go.Proofs.YtjgnogflgoihfaaGreatDoor
open Go
theorem z3u (h l c d:Nat) (hl:l<256) (hd:d<256):(256*h+l) &&& (256*c+d)=256*(h &&& c)+(l &&& d):=by
 have hx:l &&& d<2 ^ 8:=Nat.and_lt_two_pow _ hd;apply Nat.eq_of_testBit_eq;intro j;have e1:=Nat.testBit_two_pow_mul_add h (i:=8) (b:=l) hl j;have e2:=Nat.testBit_two_pow_mul_add c (i:=8) (b:=d) hd j;have e3:=Nat.testBit_two_pow_mul_add (h &&& c) (i:=8) (b:=l &&& d) hx j;have p:(2:Nat) ^ 8=256:=rfl;rw[p] at e1 e2 e3;rw[Nat.testBit_and,e1,e2,e3];split <;> rw[Nat.testBit_and]
def rep (c:Nat):Nat->Nat
 | 0=>0
 | k+1=>256*rep c k+c
def f1 (k x:Nat):Nat:=(x / 2 &&& rep 85 k)+(x &&& rep 85 k)
def f2 (k x:Nat):Nat:=(x / 4 &&& rep 51 k)+(x &&& rep 51 k)
def f3 (k x:Nat):Nat:=(x / 16+x) &&& rep 15 k
def g1 (l:Nat):Nat:=(l / 2 &&& 85)+(l &&& 85)
def g2 (l:Nat):Nat:=(l / 4 &&& 51)+(l &&& 51)
theorem low1:∀ b:Fin 2,∀ l:Fin 256,(128*b.val+l.val / 2) &&& 85=(l.val / 2) &&& 85:=by decide +kernel
theorem low2:∀ b:Fin 4,∀ l:Fin 256,(64*b.val+l.val / 4) &&& 51=(l.val / 4) &&& 51:=by decide +kernel
theorem g1_lt:∀ l:Fin 256,g1 l.val<256:=by decide +kernel
theorem j4r:∀ l:Fin 256,g2 (g1 l.val) % 16<=4/\g2 (g1 l.val) / 16<=4:=by decide +kernel
theorem x7f:∀ l:Fin 256,g2 (g1 l.val) / 16+g2 (g1 l.val) % 16=cnt l.val.testBit 8:=by decide +kernel
theorem x3h (k h l:Nat) (hl:l<256):f1 (k+1) (256*h+l)=256*f1 k h+g1 l:=by
 unfold f1 g1
 show ((256*h+l) / 2 &&& (256*rep 85 k+85))+((256*h+l) &&& (256*rep 85 k+85))=_
 rw[show (256*h+l) / 2=256*(h / 2)+(128*(h % 2)+l / 2) from by omega,z3u _ _ _ _ (by omega) (by omega),z3u _ _ _ _ hl (by omega)];have:=low1 ⟨h % 2,by omega⟩ ⟨l,hl⟩;simp only at this;rw[this];omega
theorem x3i (k h l:Nat) (hl:l<256):f2 (k+1) (256*h+l)=256*f2 k h+g2 l:=by
 unfold f2 g2
 show ((256*h+l) / 4 &&& (256*rep 51 k+51))+((256*h+l) &&& (256*rep 51 k+51))=_
 rw[show (256*h+l) / 4=256*(h / 4)+(64*(h % 4)+l / 4) from by omega,z3u _ _ _ _ (by omega) (by omega),z3u _ _ _ _ hl (by omega)];have:=low2 ⟨h % 4,by omega⟩ ⟨l,hl⟩;simp only at this;rw[this];omega
theorem q9d (k h l:Nat) (hl:l<256):f2 (k+1) (f1 (k+1) (256*h+l))=256*f2 k (f1 k h)+g2 (g1 l):=by
 have:=g1_lt ⟨l,hl⟩;rw[x3h k h l hl,x3i _ _ _ this]
theorem x3g (k x:Nat):f2 k (f1 k x) % 16<=4:=by
 cases k with
 | zero=>simp[f2,f1,rep]
 | succ k=>
  rw[show x=256*(x / 256)+x % 256 from by omega,q9d _ _ _ (by omega)];have:=j4r ⟨x % 256,by omega⟩;simp only at this;omega
theorem j4k (k h l:Nat) (hl:l<256):f3 (k+1) (f2 (k+1) (f1 (k+1) (256*h+l)))=256*f3 k (f2 k (f1 k h))+cnt l.testBit 8:=by
 rw[q9d _ _ _ hl];have h1:=x3g k h;have h2:=j4r ⟨l,hl⟩;have h3:=x7f ⟨l,hl⟩;simp only at h2 h3;rw[<-h3];generalize f2 k (f1 k h)=H at *
 generalize g2 (g1 l)=L at *
 unfold f3
 show ((256*H+L) / 16+(256*H+L)) &&& (256*rep 15 k+15)=_
 rw[show (256*H+L) / 16+(256*H+L)=256*(H / 16+H)+(16*(H % 16)+L / 16+L) from by omega,z3u _ _ _ _ (by omega) (by omega)];rw[show (15:Nat)=2 ^ 4-1 from rfl,Nat.and_two_pow_sub_one_eq_mod];omega
theorem j8l (x k:Nat):cnt x.testBit (8+k)=cnt (x % 256).testBit 8+cnt (x / 256).testBit k:=by
 rw[j3r];congr 1
 ·refine z8p fun j hj=>?_
  rw[show (256:Nat)=2 ^ 8 from rfl,Nat.testBit_mod_two_pow];simp[hj]
 ·refine z8p fun j hj=>?_
  rw[show (256:Nat)=2 ^ 8 from rfl,Nat.testBit_div_two_pow];rw[Nat.add_comm]
theorem j4j (k x:Nat):f3 (k+1) (f2 (k+1) (f1 (k+1) x))=256*f3 k (f2 k (f1 k (x / 256)))+cnt (x % 256).testBit 8:=by
 have:=j4k k (x / 256) (x % 256) (by omega);rw[show 256*(x / 256)+x % 256=x from by omega] at this;exact this
theorem m55:rep 85 8=6148914691236517205:=by simp[rep]
theorem m33:rep 51 8=3689348814741910323:=by simp[rep]
theorem m0f:rep 15 8=1085102592571150095:=by simp[rep]
theorem x6e (y h1 h2 h3 h4 h5 h6 h7 p0 p1 p2 p3 p4 p5 p6:Nat) (b0:p0<=8) (b1:p1<=8) (b2:p2<=8) (b3:p3<=8) (b4:p4<=8) (b5:p5<=8) (b6:p6<=8) (b7:h7<=8)
  (e0:y=256*h1+p0) (e1:h1=256*h2+p1) (e2:h2=256*h3+p2) (e3:h3=256*h4+p3) (e4:h4=256*h5+p4) (e5:h5=256*h6+p5) (e6:h6=256*h7+p6) :
  y+y / 256<18446744073709551616/\(y+y / 256)+(y+y / 256) / 65536<18446744073709551616/\((y+y / 256)+(y+y / 256) / 65536)+((y+y / 256)+(y+y / 256) / 65536) / 4294967296<18446744073709551616 ∧
   (((y+y / 256)+(y+y / 256) / 65536)+((y+y / 256)+(y+y / 256) / 65536) / 4294967296) % 128=p0+p1+p2+p3+p4+p5+p6+h7:=by
 have l6:h6<=256*8+8:=by omega
 have l5:h5<=256*2056+8:=by omega
 have l4:h4<=256*526344+8:=by omega
 have l3:h3<=256*134744072+8:=by omega
 have l2:h2<=256*34494482440+8:=by omega
 have l1:h1<=256*8830587504648+8:=by omega
 have a1:y / 256=h1:=by clear e1 e2 e3 e4 e5 e6;omega
 rw[a1];have a2:(y+h1) / 65536=h2+h3:=by
  have:y+h1=65536*(h2+h3)+(256*(p1+p2)+(p0+p1)):=by clear e3 e4 e5 e6;omega
  rw[this];clear e0 e1 e2 e3 e4 e5 e6 this;omega
 rw[a2];have a3:(y+h1+(h2+h3)) / 4294967296=h4+h5+h6+h7:=by
  have t0:y=4294967296*h4+(16777216*p3+65536*p2+256*p1+p0):=by clear e4 e5 e6;omega
  have t1:h1=4294967296*h5+(16777216*p4+65536*p3+256*p2+p1):=by clear e0 e5 e6;omega
  have t2:h2=4294967296*h6+(16777216*p5+65536*p4+256*p3+p2):=by clear e0 e1 e6;omega
  have t3:h3=4294967296*h7+(16777216*p6+65536*p5+256*p4+p3):=by clear e0 e1 e2;omega
  clear e0 e1 e2 e3 e4 e5 e6 a1 a2;omega
 rw[a3];clear a1 a2 a3;refine⟨by clear e1 e2 e3 e4 e5 e6;omega,by clear e1 e2 e3 e4 e5 e6;omega,by clear e1 e2 e3 e4 e5 e6;omega,?_⟩;have:y+h1+(h2+h3)+(h4+h5+h6+h7)=128*(2*(h1+h2+h3+h4+h5+h6+h7))+(p0+p1+p2+p3+p4+p5+p6+h7):=by omega
 rw[this];clear e0 e1 e2 e3 e4 e5 e6 this;omega
def ocA (x:Nat):Nat:=(x / 2 &&& 6148914691236517205)+(x &&& 6148914691236517205)
def ocB (x:Nat):Nat:=(x / 4 &&& 3689348814741910323)+(x &&& 3689348814741910323)
def ocC (x:Nat):Nat:=(x / 16+x) &&& 1085102592571150095
theorem z1g (x m k:Nat) (h:m=8+k):cnt x.testBit m=cnt (x % 256).testBit 8+cnt (x / 256).testBit k:=by rw[h,j8l]
theorem oc_f (x:Nat):ocC (ocB (ocA x))=f3 8 (f2 8 (f1 8 x)):=by unfold ocA ocB ocC f1 f2 f3;rw[m55,m33,m0f]
def fx (k x:Nat):Nat:=f3 k (f2 k (f1 k x))
theorem x3o (x:Nat):fx 0 x=0:=by simp[fx,f1,f2,f3,rep]
theorem z4d (k x:Nat):fx (k+1) x=256*fx k (x / 256)+cnt (x % 256).testBit 8:=j4j k x
theorem x7c (x : Nat) : ∃ y, ocC (ocB (ocA x)) = y ∧ y + y / 256 < 18446744073709551616 ∧ (y + y / 256) + (y + y / 256) / 65536 < 18446744073709551616 ∧ ((y + y / 256) + (y + y / 256) / 65536) + ((y + y / 256) + (y + y / 256) / 65536) / 4294967296 < 18446744073709551616 ∧
      (((y + y / 256) + (y + y / 256) / 65536) + ((y + y / 256) + (y + y / 256) / 65536) / 4294967296) % 128 = pop x := by
  have e : ocC (ocB (ocA x)) = fx 8 x := by rw [oc_f, fx]
  have hp : pop x = cnt x.testBit 64 := rfl; obtain ⟨x1, h1⟩ : ∃ x1, x / 256 = x1 := ⟨_, rfl⟩
  obtain ⟨x2, h2⟩ : ∃ x2, x1 / 256 = x2 := ⟨_, rfl⟩
  obtain ⟨x3, h3⟩ : ∃ x3, x2 / 256 = x3 := ⟨_, rfl⟩
  obtain ⟨x4, h4⟩ : ∃ x4, x3 / 256 = x4 := ⟨_, rfl⟩
  obtain ⟨x5, h5⟩ : ∃ x5, x4 / 256 = x5 := ⟨_, rfl⟩
  obtain ⟨x6, h6⟩ : ∃ x6, x5 / 256 = x6 := ⟨_, rfl⟩
  obtain ⟨x7, h7⟩ : ∃ x7, x6 / 256 = x7 := ⟨_, rfl⟩
  have k0 := z1g x 64 56 rfl; have k1 := z1g x1 56 48 rfl; have k2 := z1g x2 48 40 rfl; have k3 := z1g x3 40 32 rfl; have k4 := z1g x4 32 24 rfl; have k5 := z1g x5 24 16 rfl; have k6 := z1g x6 16 8 rfl; have k7 := z1g x7 8 0 rfl; have z7 : cnt (x7 / 256).testBit 0 = 0 := rfl; have y0 := z4d 7 x; have y1 := z4d 6 x1; have y2 := z4d 5 x2; have y3 := z4d 4 x3; have y4 := z4d 3 x4; have y5 := z4d 2 x5; have y6 := z4d 1 x6; have y7 := z4d 0 x7; rw [x3o] at y7; rw [h1] at k0 y0; rw [h2] at k1 y1; rw [h3] at k2 y2; rw [h4] at k3 y3; rw [h5] at k4 y4; rw [h6] at k5 y5; rw [h7] at k6 y6; have q0 := z4v (x % 256).testBit 8; have q1 := z4v (x1 % 256).testBit 8; have q2 := z4v (x2 % 256).testBit 8; have q3 := z4v (x3 % 256).testBit 8; have q4 := z4v (x4 % 256).testBit 8; have q5 := z4v (x5 % 256).testBit 8; have q6 := z4v (x6 % 256).testBit 8; have q7 := z4v (x7 % 256).testBit 8; refine ⟨fx 8 x, e, ?_⟩; clear e h1 h2 h3 h4 h5 h6 h7; generalize cnt (x % 256).testBit 8 = p0 at *
  generalize cnt (x1 % 256).testBit 8 = p1 at *
  generalize cnt (x2 % 256).testBit 8 = p2 at *
  generalize cnt (x3 % 256).testBit 8 = p3 at *
  generalize cnt (x4 % 256).testBit 8 = p4 at *
  generalize cnt (x5 % 256).testBit 8 = p5 at *
  generalize cnt (x6 % 256).testBit 8 = p6 at *
  generalize cnt (x7 % 256).testBit 8 = p7 at *
  have hp' : pop x = p0 + p1 + p2 + p3 + p4 + p5 + p6 + p7 := by
    rw [hp, k0, k1, k2, k3, k4, k5, k6]; clear y0 y1 y2 y3 y4 y5 y6 y7 q0 q1 q2 q3 q4 q5 q6 q7 hp k0 k1 k2 k3 k4 k5 k6; omega
  clear hp k0 k1 k2 k3 k4 k5 k6 k7 z7; simp only [Nat.reduceAdd] at y0 y1 y2 y3 y4 y5 y6 y7; have y7' : fx 1 x7 = p7 := by rw [y7]; omega
  rw [y7'] at y6; obtain ⟨r1, r2, r3, r4⟩ := x6e _ _ _ _ _ _ _ _ p0 p1 p2 p3 p4 p5 p6 q0 q1 q2 q3 q4 q5 q6 q7 y0 y1 y2 y3 y4 y5 y6; exact ⟨r1, r2, r3, by rw [r4, hp']⟩
end Go.Proofs.YtjgnogflgoihfaaGreatDoor
namespace Go.Proofs.YtjgnogflgoihfaaGreatDoor
open Go.RowKit
def nw (n:Nat):Nat:=(n+63) / 64
def MapAt (w:World) (lo hi b n:Nat) (S:Nat->Bool):Prop:=
 ∃ (bw:Nat) (cap:Nat),w.heap[b]? = some (.cells #[.int .i64 n,.slice (some ⟨bw,0,none⟩) (nw n) cap] 211 (0,0))/\lo<=b/\b<hi/\hi<=w.heap.size/\4<=lo/\n<=262144/\nw n<=cap/\(∀ j,n<=j->S j=false)/\Tab w ∧
  lo<=bw/\bw<hi/\bw ≠ b/\Row w bw 195 (nw n) (fun i=>.int .u64 (pk S i))
theorem MapAt.kept {w w':World} {lo hi b n lo' bQ:Nat} {S:Nat->Bool} (h:MapAt w lo hi b n S) (g:Out lo' bQ w w') (hd:hi<=lo'\/bQ<=lo) (hp:4<=lo'\/bQ=0):MapAt w' lo hi b n S:=by
 obtain⟨bw,cap,hb,h1,h2,h3,h4,h5,h6,h7,h8,l1,l2,l3,hr⟩:=h;have hk:bw<lo'\/bQ<=bw:=by omega
 exact⟨bw,cap,g.heap hb (by omega),h1,h2,Nat.le_trans h3 g.size,h4,h5,h6,h7,h8.kept g (by omega),l1,l2,l3,hr.kept g hk⟩
theorem MapAt.quiet {w w':World} {lo hi b n:Nat} {S:Nat->Bool} (h:MapAt w lo hi b n S) (g:Out 0 0 w w'):MapAt w' lo hi b n S:=h.kept g z0 (.inr rfl)
theorem MapAt.drew {w:World} {lo hi b n:Nat} {S:Nat->Bool} (h:MapAt w lo hi b n S):MapAt w.drew lo hi b n S:=h.quiet (Out.refl _ _ _).drew
theorem MapAt.alloc {w:World} {lo hi b n:Nat} {S:Nat->Bool} (h:MapAt w lo hi b n S) (o:Obj):MapAt (w.alloc o) lo hi b n S:=h.quiet ((Out.refl _ _ _).alloc o)
theorem MapAt.tab {w:World} {lo hi b n:Nat} {S:Nat->Bool} (h:MapAt w lo hi b n S):Tab w:=by
 obtain⟨bw,cap,hb,h1,h2,h3,h4,h5,h6,h7,h8,h9⟩:=h;exact h8
theorem MapAt.bounds {w:World} {lo hi b n:Nat} {S:Nat->Bool} (h:MapAt w lo hi b n S):lo<=b/\b<hi/\hi<=w.heap.size/\4<=lo/\n<=262144/\∀ j,n<=j->S j=false:=by
 obtain⟨bw,cap,hb,h1,h2,h3,h4,h5,h6,h7,h8,h9⟩:=h;exact⟨h1,h2,h3,h4,h5,h7⟩
theorem MapAt.len {w:World} {lo hi b n:Nat} {S:Nat->Bool} (h:MapAt w lo hi b n S):w.cell? ⟨b,0,none⟩=some (.int .i64 n):=by
 obtain⟨bw,cap,hb,_⟩:=h;simp[World.cell?,hb]
end Go.Proofs.YtjgnogflgoihfaaGreatDoor
