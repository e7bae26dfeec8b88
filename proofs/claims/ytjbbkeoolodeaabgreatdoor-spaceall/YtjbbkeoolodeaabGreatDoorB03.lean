import Derived.Test.YtjbbkeoolodeaabGreatDoorB02
import Derived.Test.YtjbbkeoolodeaabGreatDoorB00
import Derived.RangeFuncNested
import Derived.RangeFuncBound
import Derived.RangeFuncCalls
import Derived.RangeFuncLeaves
import Derived.Shelf.Abstract
import Derived.Shelf.RegionOpen
import Derived.OwnWalkIn
import Derived.TacticsInMore
import Derived.LoopNIn
import Derived.LoopIn
namespace Go.Proofs.YtjbbkeoolodeaabGreatDoor
open Go.RowKit
set_option linter.unusedVariables false
set_option maxRecDepth 100000
set_option maxHeartbeats 16000000
set_option linter.unusedSimpArgs false
theorem q6t (t:Nat):szK t=1\/szK t=3\/szK t=5:=by
 unfold szK;split
 ·exact .inl rfl
 ·split
  ·exact .inr (.inl rfl)
  ·exact .inr (.inr rfl)
theorem j7z {t j k j0 k0:Nat} (hk:k<szK t) (hk0:k0<szK t) (e:j*szK t+k=j0*szK t+k0):j=j0/\k=k0:=by
 rcases q6t t with h | h | h <;> rw[h] at hk hk0 e <;> omega
theorem z9l {t j k n:Nat} (hk:k<szK t) (hj:j<n):j*szK t+k<n*szK t:=by
 rcases q6t t with h | h | h <;> rw[h] at hk ⊢ <;> omega
def OwnF (B:Nat) (w:World) (t:Nat) (v:Value) (n:Nat) (f:Nat->Nat->Int):Prop:=
 ∃ xs,w.ownsRow B (etK t) (szK t) v n xs/\∀ j k,j<n->k<szK t->xs[j*szK t+k]? = some (.int .i64 (f j k))
section
variable {B:Nat} {w w':World} {t n:Nat} {v:Value} {f:Nat->Nat->Int}
theorem OwnF.shape (h:OwnF B w t v n f):∃ a cap,v=.slice a n cap:=by obtain⟨xs,h,_⟩:=h;exact Q8 h
theorem OwnF.lt (h:OwnF B w t v n f) {x:Nat} (hx:v.ownBlock=some x):x<w.heap.size:=by obtain⟨xs,h,_⟩:=h;exact q1o h hx
theorem OwnF.chg {col:Nat->Nat} {P:Nat->Prop} (h:OwnF B w t v n f) (o:Chg col P w w') (hp:∀ x,v.ownBlock=some x->¬ P (col x)):OwnF B w' t v n f:=by
 obtain⟨xs,h,h2⟩:=h;exact⟨xs,o.own h hp,h2⟩
theorem OwnF.quiet (h:OwnF B w t v n f) (o:Out 0 0 w w'):OwnF B w' t v n f:=by
 obtain⟨xs,h,h2⟩:=h;exact⟨xs,X8 h o (Nat.zero_le _),h2⟩
theorem OwnF.congr {f':Nat->Nat->Int} (h:OwnF B w t v n f) (e:∀ j k,j<n->k<szK t->f j k=f' j k):OwnF B w t v n f':=by
 obtain⟨xs,h,h2⟩:=h;exact⟨xs,h,fun j k hj hk=>by rw[h2 j k hj hk,e j k hj hk]⟩
theorem OwnF.open (h:OwnF B w t v n f) (h0:0<n):∃ g cap,v=.slice (some ⟨g,0,none⟩) n cap/\v.ownBlock=some g/\g<w.heap.size/\(∀ i,w.frozen? ⟨g,i,none⟩=false)/\∀ j k,j<n->k<szK t->w.cell? ⟨g,j*szK t+k,none⟩=some (.int .i64 (f j k)):=by
 obtain⟨xs,⟨h1,h2⟩,h3⟩:=h;rcases h2 with ⟨e,e2⟩ | ⟨g,cap,cur,rfl,r1,hh,r2,r3,r4,r5⟩
 ·omega
 ·refine⟨g,cap,rfl,rfl,Q4 hh,fun i=>by simp[World.frozen?,hh],fun j k hj hk=>?_⟩;have:=h3 j k hj hk;rw[<-r5,List.getElem?_take,if_pos (z9l hk hj),Array.getElem?_toList] at this;simp[World.cell?,hh,this]
theorem OwnF.set (h:OwnF B w t v n f) {g:Nat} (hg:v.ownBlock=some g) {j0 k0:Nat} (hj:j0<n) (hk:k0<szK t) (x:Int) :
  OwnF B (w.setCell ⟨g,j0*szK t+k0,none⟩ (.int .i64 x)) t v n (fun j k=>if j=j0/\k=k0 then x else f j k):=by
 obtain⟨xs,⟨h1,h2⟩,h3⟩:=h;rcases h2 with ⟨e,e2⟩ | ⟨g',cap,cur,rfl,r1,hh,r2,r3,r4,r5⟩
 ·omega
 ·cases hg;refine⟨xs.set (j0*szK t+k0) (.int .i64 x),⟨by rw[List.length_set];exact h1,.inr ⟨g',cap,cur.setIfInBounds (j0*szK t+k0) (.int .i64 x),rfl,r1,?_,r2,r3,by simp[r4],?_⟩⟩,fun j k hj' hk'=>?_⟩
  ·simp[World.setCell,Array.getElem?_modify,hh]
  ·rw[Array.toList_setIfInBounds,List.take_set,r5]
  ·have hlt:=z9l (t:=t) hk' hj';by_cases q:j=j0/\k=k0
   ·obtain⟨rfl,rfl⟩:=q
    show _=some (Value.int .i64 (if j=j/\k=k then x else f j k))
    rw[if_pos ⟨rfl,rfl⟩,List.getElem?_set_self (by rw[h1];exact hlt)]
   ·show _=some (Value.int .i64 (if j=j0/\k=k0 then x else f j k))
    rw[if_neg q,List.getElem?_set_ne (fun e=>q (by obtain⟨a,b⟩:=j7z hk hk' e;exact⟨a.symm,b.symm⟩))];exact h3 j k hj' hk'
end
theorem set14 {w:World} {b:Nat} {V:Nat->Value} {T:TypeId} (h:w.heap[b]? = some (.cells #[V 0,V 1,V 2,V 3,V 4,V 5,V 6,V 7,V 8,V 9,V 10,V 11,V 12,V 13] T (0,0))) {i:Nat} (i2:2<=i) (i14:i<14) (v:Value) :
  (w.setCell ⟨b,i,none⟩ v).heap[b]? = some (.cells #[(if 0=i then v else V 0),(if 1=i then v else V 1),(if 2=i then v else V 2),(if 3=i then v else V 3),(if 4=i then v else V 4),(if 5=i then v else V 5),(if 6=i then v else V 6),(if 7=i then v else V 7),(if 8=i then v else V 8),(if 9=i then v else V 9),(if 10=i then v else V 10),(if 11=i then v else V 11),(if 12=i then v else V 12),(if 13=i then v else V 13)] T (0,0)):=by
 have hc:i=2\/i=3\/i=4\/i=5\/i=6\/i=7\/i=8\/i=9\/i=10\/i=11\/i=12\/i=13:=by omega
 rcases hc with rfl | rfl | rfl | rfl | rfl | rfl | rfl | rfl | rfl | rfl | rfl | rfl <;> simp[World.setCell,Array.getElem?_modify,h]
theorem G4 {w:World} {b:Nat} {V:Nat->Value} {T:TypeId} (h:w.heap[b]? = some (.cells #[V 0,V 1,V 2,V 3,V 4,V 5,V 6,V 7,V 8,V 9,V 10,V 11,V 12,V 13] T (0,0))) {i:Nat} (i14:i<14):w.cell? ⟨b,i,none⟩=some (V i):=by
 have hc:i=0\/i=1\/i=2\/i=3\/i=4\/i=5\/i=6\/i=7\/i=8\/i=9\/i=10\/i=11\/i=12\/i=13:=by omega
 rcases hc with rfl | rfl | rfl | rfl | rfl | rfl | rfl | rfl | rfl | rfl | rfl | rfl | rfl | rfl <;> simp[World.cell?,h]
theorem G7 {w:World} {b:Nat} {xs:Array Value} {T:TypeId} (h:w.heap[b]? = some (.cells xs T (0,0))) (i:Nat):w.frozen? ⟨b,i,none⟩=false:=by simp[World.frozen?,h]
section
variable {B:Nat} {w w':World} {b:Nat} {V:Nat->Value} {X:Nat->List Value} {C:Nat->Nat->Nat × (Nat->Nat->Int)} {col col':Nat->Nat} {cur:Option (Nat × Nat)} {p:Nat->Nat}
theorem Kp.cell (h:Kp B w b V X C col cur p) (i:Nat) (hi:i<14):w.cell? ⟨b,i,none⟩=some (V i):=G4 h.hb hi
theorem Kp.push (h:Kp B w b V X C col cur p) {i:Nat} (i2:2<=i) (i14:i<14) {x:Value} {w1 w2:World} {g cap:Nat} (o1:Out 0 0 w w1) (own:w2.ownsRow B (tyS i) 1 (.slice (some ⟨g,0,none⟩) ((X i).length+1) cap) ((X i).length+1) (X i ++ [x])) (gr:z5o w1 w2 (V i) g)
  (hL:∀ t,t<3->i=2+2*t->p t<=(X i).length->LeftC B w col t (X i).length x (C t (X i).length).1 (C t (X i).length).2)
  (hW:∀ t,t<3->i=3+2*t->WereC w col x (C t (X i).length).1 (szK t) (C t (X i).length).2)
  (hF:∀ t,t<3->i=8+t->(X (11+t)).length<=(X i).length)
  (hM:∀ t,t<3->i=11+t->∀ v,(X (8+t))[(X i).length]? = some v->∃ m:Nat,x=.int .i64 (m:Int)/\FullC w col cur t v m) :
  w2.heap[b]? = some (.cells #[V 0,V 1,V 2,V 3,V 4,V 5,V 6,V 7,V 8,V 9,V 10,V 11,V 12,V 13] 54 (0,0)) ∧
  ∃ V' X' col',V' i=.slice (some ⟨g,0,none⟩) ((X i).length+1) cap/\X' i=X i ++ [x]/\(∀ j,j ≠ i->V' j=V j/\X' j=X j)/\Kp B (w2.setCell ⟨b,i,none⟩ (.slice (some ⟨g,0,none⟩) ((X i).length+1) cap)) b V' X' C col' cur p/\(∀ y,y<w.heap.size->col' y=col y)/\Chg col (fun c=>c=0\/c=10+i) w (w2.setCell ⟨b,i,none⟩ (.slice (some ⟨g,0,none⟩) ((X i).length+1) cap)):=by
 obtain⟨v',hv'⟩:∃ v',Value.slice (some ⟨g,0,none⟩) ((X i).length+1) cap=v':=⟨_,rfl⟩
 have hvb:v'.ownBlock=some g:=by rw[<-hv'];rfl
 rw[hv'] at own ⊢;have hcol:∀ y,y<w.heap.size->z3o col g (10+i) y=col y:=by
  intro y hy;rcases gr with ⟨_,hg⟩ | ⟨hg,_⟩
  ·exact G9 (by have:=o1.size;omega)
  ·by_cases e:y=g
   ·subst e;rw[z1x,h.co i i2 i14 y hg]
   ·exact G9 e
 have hgb:g ≠ b:=by
  intro e;subst e;rcases gr with ⟨_,hg⟩ | ⟨hg,_⟩
  ·have:=Q4 h.hb;have:=o1.size;omega
  ·have:=h.co i i2 i14 _ hg;rw[h.cb] at this;omega
 have ch1:Chg col (fun c=>c=10+i) w w2:=(Chg.of_out o1 _ _).trans (Chg.grew gr fun y hy=>h.co i i2 i14 y hy);have ch2:Chg col (fun c=>c=0\/c=10+i) w w2:=ch1.mono fun c hc=>.inr hc
 have hb2:=ch1.heap h.hb (by rw[h.cb];omega);have ch3:Chg col (fun c=>c=0\/c=10+i) w (w2.setCell ⟨b,i,none⟩ v'):=ch2.setCell (.inl h.cb) _;have hr:Kp B w b V X C (z3o col g (10+i)) cur p:=h.recol fun y hy _=>hcol y hy
 have ch4:Chg (z3o col g (10+i)) (fun c=>c=0\/c=10+i) w (w2.setCell ⟨b,i,none⟩ v'):=ch3.recol fun k hk hp=>by rw[<-hcol k hk];exact hp
 have no:∀ c,c ≠ 0->c ≠ 10+i->¬ (c=0\/c=10+i):=fun c h1 h2 h3=>by rcases h3 with h3 | h3 <;> contradiction
 refine⟨hb2,fun j=>if j=i then v' else V j,fun j=>if j=i then X i ++ [x] else X j,z3o col g (10+i),if_pos rfl,if_pos rfl,fun j hj=>⟨if_neg hj,if_neg hj⟩,⟨Nat.le_trans hr.hB ch4.size,set14 hb2 i2 i14 v',hr.cb,fun j j2 j14=>?_,fun j j2 j14 y hy=>?_,fun t j v ht hp hv=>?_,fun t j v ht hv=>?_,fun t j v z ht hv hz=>?_⟩,hcol,ch3⟩
 ·by_cases e:j=i
  ·subst e;rw[if_pos rfl,if_pos rfl,List.length_append];obtain⟨k1,k2⟩:=own;refine⟨k1,?_⟩;rcases k2 with k2 | ⟨g',cap',cu,e,r1,r2,r3⟩
   ·exact .inl k2
   ·refine .inr ⟨g',cap',cu,e,r1,?_,r3⟩;rw[e] at hvb;cases hvb;rw[Below.heap_setCell _ _ _ _ hgb];exact r2
  ·rw[if_neg e,if_neg e];exact ch4.own (hr.own j j2 j14) fun y hy=>by rw[hr.co j j2 j14 y hy];exact no _ (by omega) (by omega)
 ·by_cases e:j=i
  ·subst e;rw[if_pos rfl,hvb] at hy;cases hy;exact z1x _ _ _
  ·rw[if_neg e] at hy;exact hr.co j j2 j14 y hy
 ·by_cases e:2+2*t=i
  ·rw[if_pos e] at hv;by_cases hj:j<(X i).length
   ·rw[List.getElem?_append_left hj,<-e] at hv;exact(hr.lf t j v ht hp hv).chg ch4 (no _ (by omega) (by omega))
   ·have hj2:j=(X i).length:=by
     have:=(List.getElem?_eq_some_iff.1 hv).1;simp at this;omega
    subst hj2;rw[List.getElem?_append_right (Nat.le_refl _)] at hv;simp at hv;subst hv;have q:=(hL t ht e.symm hp).recol (col':=z3o col g (10+i)) fun y hy _=>hcol y hy
    exact q.chg ch4 (no _ (by omega) (by omega))
  ·rw[if_neg e] at hv;exact(hr.lf t j v ht hp hv).chg ch4 (no _ (by omega) (by omega))
 ·by_cases e:3+2*t=i
  ·rw[if_pos e] at hv;by_cases hj:j<(X i).length
   ·rw[List.getElem?_append_left hj,<-e] at hv;exact(hr.wr t j v ht hv).chg ch4 (no _ (by omega) (by omega))
   ·have hj2:j=(X i).length:=by
     have:=(List.getElem?_eq_some_iff.1 hv).1;simp at this;omega
    subst hj2;rw[List.getElem?_append_right (Nat.le_refl _)] at hv;simp at hv;subst hv;have q:=(hW t ht e.symm).recol (col':=z3o col g (10+i)) fun y hy _=>hcol y hy
    exact q.chg ch4 (no _ (by omega) (by omega))
  ·rw[if_neg e] at hv;exact(hr.wr t j v ht hv).chg ch4 (no _ (by omega) (by omega))
 ·have key:∀ m,FullC w col cur t v m->FullC (w2.setCell ⟨b,i,none⟩ v') (z3o col g (10+i)) cur t v m:=fun m q=>
   (q.recol (col':=z3o col g (10+i)) fun y hy _=>hcol y hy).chg ch4 (no _ (by omega) (by omega)) (.inr (no _ (by omega) (by omega)))
  by_cases e:8+t=i
  ·rw[if_pos e] at hv;rw[if_neg (by omega)] at hz;have hz1:=(List.getElem?_eq_some_iff.1 hz).1;have hf:=hF t ht e.symm;have hj:j<(X i).length:=by omega
   rw[List.getElem?_append_left hj,<-e] at hv;obtain⟨m,e1,e2⟩:=h.fl t j v z ht hv hz;exact⟨m,e1,key m e2⟩
  ·rw[if_neg e] at hv;by_cases e3:11+t=i
   ·rw[if_pos e3] at hz;by_cases hj:j<(X i).length
    ·rw[List.getElem?_append_left hj,<-e3] at hz;obtain⟨m,e1,e2⟩:=h.fl t j v z ht hv hz;exact⟨m,e1,key m e2⟩
    ·have hj2:j=(X i).length:=by
      have:=(List.getElem?_eq_some_iff.1 hz).1;simp at this;omega
     subst hj2;rw[List.getElem?_append_right (Nat.le_refl _)] at hz;simp at hz;subst hz;obtain⟨m,e1,e2⟩:=hM t ht e3.symm v hv;exact⟨m,e1,key m e2⟩
   ·rw[if_neg e3] at hz;obtain⟨m,e1,e2⟩:=h.fl t j v z ht hv hz;exact⟨m,e1,key m e2⟩
theorem Kp.take (h:Kp B w b V X C col none p) {t i:Nat} {v:Value} (ht:t<3) (hp:p t<=i) (hv:(X (2+2*t))[i]? = some v) :
  ∃ col',Kp B w b V X C col' none (fun s=>if s=t then i+1 else p s)/\OwnF B w t v (C t i).1 (C t i).2/\(C t i).1<=1536/\(∀ x,v.ownBlock=some x->col' x=8)/\Fix col col' w w:=by
 obtain⟨h1,h2,h3⟩:=h.lf t i v ht hp hv;have ne:∀ x,col x ≠ 100+3*i+t->(if col x=100+3*i+t then 8 else col x)=col x:=fun x hx=>by rw[if_neg hx]
 refine⟨fun x=>if col x=100+3*i+t then 8 else col x,⟨h.hB,h.hb,?_,h.own,fun j j1 j2 x hx=>?_,fun s j u hs hj hu=>?_,fun s j u hs hu=>?_,fun s j u z hs hu hz=>?_⟩,h1,h2,fun x hx=>?_,Chg.of_out (Out.refl 0 0 _) _ _,fun k _ h7=>?_⟩
 ·exact(ne b (by rw[h.cb];omega)).trans h.cb
 ·have:=h.co j j1 j2 x hx;exact(ne x (by omega)).trans this
 ·have hj2:p s<=j:=by
   by_cases q:s=t
   ·rw[if_pos q] at hj;subst q;omega
   ·rw[if_neg q] at hj;exact hj
  obtain⟨q1,q2,q3⟩:=h.lf s j u hs hj2 hu;refine⟨q1,q2,fun x hx=>?_⟩;have:=q3 x hx;refine(ne x ?_).trans this;by_cases q:s=t
  ·subst q;rw[if_pos rfl] at hj;omega
  ·omega
 ·obtain⟨a,cap,e1,hr⟩:=h.wr s j u hs hu;refine⟨a,cap,e1,fun h0=>?_⟩;obtain⟨g,g0,g1,g2,g3⟩:=hr h0;exact⟨g,g0,g1,(ne g (by omega)).trans g2,g3⟩
 ·obtain⟨m',e1,a,n,cap,e2,hn,hr⟩:=h.fl s j u z hs hu hz;refine⟨m',e1,a,n,cap,e2,hn,fun h0=>?_⟩;obtain⟨g,g0,g1,g2,g3⟩:=hr h0;refine⟨g,g0,g1,?_,g3⟩;rcases g2 with g2 | ⟨_,g2⟩
  ·exact .inl ((ne g (by omega)).trans g2)
  ·cases g2
 ·show (if col x=100+3*i+t then 8 else col x)=8
  rw[if_pos (h3 x hx)]
 ·show (if col k=100+3*i+t then 8 else col k)=7
  rw[if_neg (by omega)];exact h7
theorem Kp.grow {t m:Nat} (h:Kp B w b V X C col (some (t,m)) p) {v:Value} {n:Nat} (hown:OwnF B w t v n (fun _ k=>mkF t m k)) (hc:∀ x,v.ownBlock=some x->col x=8\/col x=9) {l:Value} {n0:Nat} (hl:OwnF B w t l n0 (fun _ k=>mkF t m k)) (hc0:∀ x,l.ownBlock=some x->col x=8) (hn0:n0<=n)
  {news:List Value} (hnl:news.length=szK t) (hnews:∀ k,k<szK t->news[k]? = some (.int .i64 (mkF t m k))) {w1 w2:World} {g cap:Nat} (o1:Out 0 0 w w1) {xs:List Value} (hxs:∀ j k,j<n->k<szK t->xs[j*szK t+k]? = some (.int .i64 (mkF t m k))) (hxl:xs.length=n*szK t) (own:w2.ownsRow B (etK t) (szK t) (.slice (some ⟨g,0,none⟩) (n+1) cap) (n+1) (xs ++ news)) (gr:GrewX w1 w2 v g (n*szK t) news) :
  ∃ col',Kp B w2 b V X C col' (some (t,m)) p/\OwnF B w2 t (.slice (some ⟨g,0,none⟩) (n+1) cap) (n+1) (fun _ k=>mkF t m k)/\(col' g=8\/col' g=9)/\OwnF B w2 t l n0 (fun _ k=>mkF t m k)/\(∀ x,l.ownBlock=some x->col' x=8)/\Fix col col' w w2:=by
 have hnew:OwnF B w2 t (.slice (some ⟨g,0,none⟩) (n+1) cap) (n+1) (fun _ k=>mkF t m k):=by
  refine⟨xs ++ news,own,fun j k hj hk=>?_⟩;by_cases q:j<n
  ·rw[List.getElem?_append_left (by rw[hxl];exact z9l hk q)];exact hxs j k q hk
  ·have:j=n:=by omega
   subst this;rw[List.getElem?_append_right (by rw[hxl];omega),hxl,Nat.add_sub_cancel_left];exact hnews k hk
 rcases gr with ⟨g1,g2⟩ | ⟨g1,g2,cu,cu',e,c1,c2,c3,c4⟩
 ·have o2:Out 0 0 w w2:=o1.trans ⟨g1.os,g1.tape,g1.output,g1.size,fun k hk' _=>g1.block k hk' (by simp)⟩;have he:∀ x,x<w.heap.size->z3o col g 9 x=col x:=fun x hx=>G9 (by have:=o1.size;omega)
  refine⟨z3o col g 9,(h.recol fun x hx _=>he x hx).quiet o2,hnew,.inr (z1x _ _ _),hl.quiet o2,fun x hx=>by rw[he x (hl.lt hx)];exact hc0 x hx,Fix.of (P:=fun c=>c=9) (Chg.of_out o2 _ _) (by omega) (fun k hk h7=>by rw[he k hk];exact h7)⟩
 ·have ch:Chg col (fun c=>c=8\/c=9) w w2:=(Chg.of_out o1 _ _).trans (Chg.grew (v:=v) (.inr ⟨g1,g2⟩) fun x hx=>hc x hx);have cellg:∀ j k,k<szK t->(∃ u,w.cell? ⟨g,j*szK t+k,none⟩=some u/\(n<=j->u=.int .i64 (mkF t m k)))->w2.cell? ⟨g,j*szK t+k,none⟩=w.cell? ⟨g,j*szK t+k,none⟩:=by
   rintro j k hk ⟨u,hu,hun⟩;have hu1:=o1.cell hu z0;rw[hu];have q1:w1.cell? ⟨g,j*szK t+k,none⟩=cu[j*szK t+k]? :=by simp[World.cell?,c1]
   have q2:w2.cell? ⟨g,j*szK t+k,none⟩=cu'[j*szK t+k]? :=by simp[World.cell?,c2]
   rw[q2];rw[q1] at hu1;obtain⟨d1,d2,d3⟩:=c4 (j*szK t+k);by_cases a1:j<n
   ·rw[d1 (z9l hk a1)];exact hu1
   ·by_cases a2:j=n
    ·subst a2;obtain⟨_,_,d4⟩:=c4 k;rw[d4 (by rw[hnl];exact hk),hnews k hk,hun (Nat.le_refl _)]
    ·rw[d2 ?_];exact hu1;rw[hnl];have:(n+1)*szK t<=j*szK t:=Nat.mul_le_mul_right _ (by omega);rw[Nat.add_mul,Nat.one_mul] at this;omega
  have no:∀ c,c ≠ 8->c ≠ 9->¬ (c=8\/c=9):=fun c h1 h2 h3=>by rcases h3 with h3 | h3 <;> contradiction
  refine⟨col,⟨Nat.le_trans h.hB ch.size,ch.heap h.hb (by rw[h.cb];omega),h.cb,fun i h1 h2=>ch.own (h.own i h1 h2) fun x hx=>?_,h.co,fun t i v ht hp hv=>(h.lf t i v ht hp hv).chg ch (no _ (by omega) (by omega)),fun t i v ht hv=>(h.wr t i v ht hv).chg ch (no _ (by omega) (by omega)),fun t' i u z ht hv hz=>?_⟩,hnew,hc g g1,?_,hc0,Fix.of ch (by omega) fun _ _ h=>h⟩
  ·rw[h.co i h1 h2 x hx];exact no _ (by omega) (by omega)
  ·obtain⟨m',e1,a,nn,cp,e2,hn,hr⟩:=h.fl t' i u z ht hv hz;refine⟨m',e1,a,nn,cp,e2,hn,fun h0=>?_⟩;obtain⟨y,y0,y1,y2,y3⟩:=hr h0;refine⟨y,y0,Nat.lt_of_lt_of_le y1 ch.size,y2,fun j k hj hk=>?_⟩;by_cases q:y=g
   ·subst q;rcases y2 with y2 | ⟨y2,y4⟩
    ·have:=hc y g1;omega
    ·cases y4;rw[cellg j k hk ⟨_,y3 j k hj hk,fun _=>rfl⟩];exact y3 j k hj hk
   ·have hh:w2.heap[y]? = w.heap[y]? :=(g2.block y (Nat.lt_of_lt_of_le y1 o1.size) (by simpa using q)).trans (o1.block y1 z0);rw[World.cell?_of_block (w:=w) (a:=⟨y,j*szK t'+k,none⟩) hh];exact y3 j k hj hk
  ·obtain⟨ys,⟨l1,l2⟩,l3⟩:=hl;refine⟨ys,⟨l1,?_⟩,l3⟩;rcases l2 with l2 | ⟨g',cp',cu2,rfl,r1,hh,r2,r3,r4,r5⟩
   ·exact .inl l2
   ·have hh1:=o1.heap hh z0;by_cases q:g'=g
    ·subst q;rw[c1] at hh1;cases hh1;refine .inr ⟨g',cp',cu',rfl,r1,c2,r2,r3,by rw[c3];exact r4,?_⟩;rw[<-r5];apply List.ext_getElem?;intro q;rw[List.getElem?_take,List.getElem?_take];by_cases hq:q<n0*szK t
     ·rw[if_pos hq,if_pos hq,Array.getElem?_toList,Array.getElem?_toList];exact(c4 q).1 (Nat.lt_of_lt_of_le hq (Nat.mul_le_mul_right _ hn0))
     ·rw[if_neg hq,if_neg hq]
    ·exact .inr ⟨g',cp',cu2,rfl,r1,(g2.block g' (Q4 hh1) (by simpa using q)).trans hh1,r2,r3,r4,r5⟩
theorem Kp.recol95 {t m:Nat} (h:Kp B w b V X C col (some (t,m)) p) {v:Value} {n:Nat} (hown:OwnF B w t v n (fun _ k=>mkF t m k)) (hc:∀ x,v.ownBlock=some x->col x=8\/col x=9) (hn:n<=1700/\m<=2000000) :
  ∃ col',Kp B w b V X C col' (some (t,m)) p/\FullC w col' (some (t,m)) t v m/\(∀ x,x<w.heap.size->col x ≠ 9->col' x=col x):=by
 cases hb:v.ownBlock with
 | none=>
  refine⟨col,h,?_,fun _ _ _=>rfl⟩;obtain⟨a,cap,rfl⟩:=hown.shape;refine⟨a,n,cap,rfl,hn,fun h0=>?_⟩;obtain⟨g,cap',e,e2,_⟩:=hown.open h0;rw[hb] at e2;cases e2
 | some g=>
  by_cases q:col g=9
  ·have he:∀ x,x<w.heap.size->col x ≠ 9->z3o col g 5 x=col x:=fun x _ hx=>G9 (by intro e;subst e;exact hx q)
   refine⟨z3o col g 5,h.recol he,?_,he⟩;obtain⟨a,cap,rfl⟩:=hown.shape;refine⟨a,n,cap,rfl,hn,fun h0=>?_⟩;obtain⟨g',cap',e,e2,e3,_,e4⟩:=hown.open h0;rw[hb] at e2;cases e2;cases e;exact⟨g,rfl,e3,.inl (z1x _ _ _),e4⟩
  ·refine⟨col,h,?_,fun _ _ _=>rfl⟩;obtain⟨a,cap,rfl⟩:=hown.shape;refine⟨a,n,cap,rfl,hn,fun h0=>?_⟩;obtain⟨g',cap',e,e2,e3,_,e4⟩:=hown.open h0;rw[hb] at e2;cases e2;cases e;have:=hc g hb;exact⟨g,rfl,e3,.inr ⟨by omega,rfl⟩,e4⟩
end
theorem q5u:(Tryz.prog.info? 30).map (fun i=>(i.zero,i.size,i.bytes))=some (some (.slice none 0 0),1,24):=by kernel_rfl
theorem q6d:(Tryz.prog.info? 78).map (fun i=>(i.zero,i.size,i.bytes))=some (some (.slice none 0 0),1,24):=by kernel_rfl
theorem q6k:(Tryz.prog.info? 70).map (fun i=>(i.zero,i.size,i.bytes))=some (some (.slice none 0 0),1,24):=by kernel_rfl
theorem z3f:(Tryz.prog.info? 3).map (fun i=>(i.zero,i.size,i.bytes))=some (some (.int .i64 0),1,8):=by kernel_rfl
theorem j4z:(Tryz.prog.info? 147).map (fun i=>(i.zero,i.size,i.bytes))=some (some (.agg #[.int .i64 0,.int .i64 0,.int .i64 0]),3,24):=by kernel_rfl
theorem j6a:(Tryz.prog.info? 97).map (fun i=>(i.zero,i.size,i.bytes))=some (some (.agg #[.int .i64 0,.int .i64 0,.int .i64 0,.int .i64 0,.int .i64 0]),5,40):=by kernel_rfl
theorem J9 (w:World) (xs:List Value) (T:TypeId):∀ j u,xs[j]? = some u->(w.alloc (.cells xs.toArray T)).cell? ((⟨w.heap.size,0,none⟩:Addr).add j)=some u:=by
 intro j u h;rw[Addr.add_lit,Nat.zero_add];have hb:=heap_alloc_new w (.cells xs.toArray T);simp only[World.cell?,hb];simpa using h
theorem z1v (x:Value) (hx:x.oneCell'=true):∀ u ∈ [x],u.oneCell'=true:=by
 intro u hu;simp at hu;subst hu;exact hx
theorem x0d (x y z:Int):∀ u ∈ [Value.int .i64 x,.int .i64 y,.int .i64 z],u.oneCell'=true:=by
 intro u hu;simp at hu;rcases hu with rfl | rfl | rfl <;> rfl
theorem x0y (x y z a b:Int):∀ u ∈ [Value.int .i64 x,.int .i64 y,.int .i64 z,.int .i64 a,.int .i64 b],u.oneCell'=true:=by
 intro u hu;simp at hu;rcases hu with rfl | rfl | rfl | rfl | rfl <;> rfl
theorem news0 (m k:Nat) (hk:k<szK 0):([.int .i64 (m:Int)]:List Value)[k]? = some (.int .i64 (mkF 0 m k)):=by
 have hk2:k<1:=hk;have hc:k=0:=by omega
 rcases hc with rfl <;> simp[mkF]
theorem news1 (m k:Nat) (hk:k<szK 1):([.int .i64 (m:Int),.int .i64 0,.int .i64 0]:List Value)[k]? = some (.int .i64 (mkF 1 m k)):=by
 have hk2:k<3:=hk;have hc:k=0\/k=1\/k=2:=by omega
 rcases hc with rfl | rfl | rfl <;> simp[mkF]
theorem news2 (m k:Nat) (hk:k<szK 2):([.int .i64 0,.int .i64 (m:Int),.int .i64 0,.int .i64 0,.int .i64 0]:List Value)[k]? = some (.int .i64 (mkF 2 m k)):=by
 have hk2:k<5:=hk;have hc:k=0\/k=1\/k=2\/k=3\/k=4:=by omega
 rcases hc with rfl | rfl | rfl | rfl | rfl <;> simp[mkF]
section
variable {B:Nat} {w w':World} {b:Nat} {V:Nat->Value} {X:Nat->List Value} {C:Nat->Nat->Nat × (Nat->Nat->Int)} {col col':Nat->Nat} {cur:Option (Nat × Nat)} {p:Nat->Nat}
theorem FullC.pushed {t m i:Nat} {v:Value} (h:FullC w col cur t v m) (e:∀ y,y<w.heap.size->col' y=col y) (i2:2<=i) (o:Chg col (fun c=>c=0\/c=10+i) w w'):FullC w' col' cur t v m:=by
 refine(h.recol (col':=col') fun y hy _=>e y hy).chg (o.recol fun k hk hp=>by rw[<-e k hk];exact hp) (by omega) (.inr (by omega))
theorem OwnF.pushed {t n i:Nat} {v:Value} {f:Nat->Nat->Int} (h:OwnF B w t v n f) (o:Chg col (fun c=>c=0\/c=10+i) w w') (i2:2<=i) (hc:∀ x,v.ownBlock=some x->col x=8):OwnF B w' t v n f:=
 h.chg o fun x hx=>by rw[hc x hx];omega
def MSt (B b:Nat) (V0:Nat->Value) (X0:Nat->List Value) (C:Nat->Nat->Nat × (Nat->Nat->Int)) (p:Nat->Nat) (F S K:Nat) (col0:Nat->Nat) (w0:World) (t m:Nat) (l:Value) (n:Nat) (wr:World) (r:Nat) (V:Nat->Value) (X:Nat->List Value) (col:Nat->Nat):Prop:=
 Kp B wr b V X C col (some (t,m)) p/\OwnF B wr t l n (fun _ k=>mkF t m k)/\(∀ x,l.ownBlock=some x->col x=8)/\((X F).length=K+r/\(X S).length=K+r)/\(∀ j,j ≠ F->j ≠ S->V j=V0 j/\X j=X0 j)/\Fix col0 col w0 wr
def x3n (B b:Nat) (V0:Nat->Value) (X0:Nat->List Value) (C:Nat->Nat->Nat × (Nat->Nat->Int)) (p:Nat->Nat) (F S K:Nat) (col0:Nat->Nat) (w0 wr:World):Prop:=
 ∃ V X col,Kp B wr b V X C col none p/\((X F).length=K/\(X S).length=K)/\(∀ j,j ≠ F->j ≠ S->V j=V0 j/\X j=X0 j)/\Fix col0 col w0 wr
theorem MSt.push1 {V0:Nat->Value} {X0:Nat->List Value} {F S K r t m n n':Nat} {col0:Nat->Nat} {w0 w1 w2:World} {l v:Value} (h:MSt B b V0 X0 C p F S K col0 w0 t m l n w r V X col) (ht:t<3) (hF:F=8+t) (hS:S=11+t) (hv:OwnF B w t v n' (fun _ k=>mkF t m k)) (hc:∀ x,v.ownBlock=some x->col x=8\/col x=9) (hn:n'<=1700/\m<=2000000)
  {g cap:Nat} (o1:Out 0 0 w w1) (own:w2.ownsRow B (tyS F) 1 (.slice (some ⟨g,0,none⟩) ((X F).length+1) cap) ((X F).length+1) (X F ++ [v])) (gr:z5o w1 w2 (V F) g) :
  w2.heap[b]? = some (.cells #[V 0,V 1,V 2,V 3,V 4,V 5,V 6,V 7,V 8,V 9,V 10,V 11,V 12,V 13] 54 (0,0)) ∧
  ∃ V' X' col',Kp B (w2.setCell ⟨b,F,none⟩ (.slice (some ⟨g,0,none⟩) ((X F).length+1) cap)) b V' X' C col' (some (t,m)) p/\OwnF B (w2.setCell ⟨b,F,none⟩ (.slice (some ⟨g,0,none⟩) ((X F).length+1) cap)) t l n (fun _ k=>mkF t m k)/\(∀ x,l.ownBlock=some x->col' x=8)/\((X' F).length=K+(r+1)/\(X' S).length=K+r)/\(∀ j,j ≠ F->j ≠ S->V' j=V0 j/\X' j=X0 j)/\Fix col0 col' w0 (w2.setCell ⟨b,F,none⟩ (.slice (some ⟨g,0,none⟩) ((X F).length+1) cap))/\V' S=V S/\X' S=X S/\(∃ q,X' F=q ++ [v]/\q.length=K+r)/\FullC (w2.setCell ⟨b,F,none⟩ (.slice (some ⟨g,0,none⟩) ((X F).length+1) cap)) col' (some (t,m)) t v m:=by
 obtain⟨hk,hl,hlc,hlen,hsame,hfix⟩:=h;obtain⟨col1,k1,f1,e1⟩:=hk.recol95 hv hc hn;obtain⟨hb2,V',X',col',a1,a2,a3,a4,a5,a6⟩:=k1.push (i:=F) (by omega) (by omega) o1 own gr (fun s hs e=>by omega) (fun s hs e=>by omega) (fun s hs e=>by rw[show 11+s=S from by omega];omega) (fun s hs e=>by omega);have hlc1:∀ x,l.ownBlock=some x->col1 x=8:=fun x hx=>by rw[e1 x (hl.lt hx) (by rw[hlc x hx];omega)];exact hlc x hx
 refine⟨hb2,V',X',col',a4,hl.pushed a6 (by omega) hlc1,fun x hx=>by rw[a5 x (hl.lt hx)];exact hlc1 x hx,⟨by rw[a2];simp;omega,by rw[(a3 S (by omega)).2];exact hlen.2⟩,fun j j1 j2=>?_,?_,(a3 S (by omega)).1,(a3 S (by omega)).2,⟨X F,a2,hlen.1⟩,f1.pushed a5 (by omega) a6⟩
 ·obtain⟨q1,q2⟩:=a3 j j1;rw[q1,q2];exact hsame j j1 j2
 ·exact hfix.trans (((Fix.refl col w).re (c2:=col1) fun k hk h7=>by rw[e1 k hk (by omega)];exact h7).trans (Fix.of a6 (by omega) fun k hk h7=>by rw[a5 k hk];exact h7))
theorem MSt.push2 {V0:Nat->Value} {X0:Nat->List Value} {F S K r t m n:Nat} {col0:Nat->Nat} {w0 w1 w2:World} {l v:Value} (hk:Kp B w b V X C col (some (t,m)) p) (hl:OwnF B w t l n (fun _ k=>mkF t m k)) (hlc:∀ x,l.ownBlock=some x->col x=8) (hlen:(X F).length=K+(r+1)/\(X S).length=K+r) (hsame:∀ j,j ≠ F->j ≠ S->V j=V0 j/\X j=X0 j) (hfix:Fix col0 col w0 w) (hq:∃ q,X F=q ++ [v]/\q.length=K+r) (hf:FullC w col (some (t,m)) t v m) (ht:t<3) (hF:F=8+t) (hS:S=11+t)
  {g cap:Nat} (o1:Out 0 0 w w1) (own:w2.ownsRow B (tyS S) 1 (.slice (some ⟨g,0,none⟩) ((X S).length+1) cap) ((X S).length+1) (X S ++ [.int .i64 (m:Int)])) (gr:z5o w1 w2 (V S) g) :
  w2.heap[b]? = some (.cells #[V 0,V 1,V 2,V 3,V 4,V 5,V 6,V 7,V 8,V 9,V 10,V 11,V 12,V 13] 54 (0,0)) ∧
  ∃ V' X' col',MSt B b V0 X0 C p F S K col0 w0 t m l n (w2.setCell ⟨b,S,none⟩ (.slice (some ⟨g,0,none⟩) ((X S).length+1) cap)) (r+1) V' X' col':=by
 obtain⟨hb2,V',X',col',a1,a2,a3,a4,a5,a6⟩:=hk.push (i:=S) (by omega) (by omega) o1 own gr (fun s hs e=>by omega) (fun s hs e=>by omega) (fun s hs e=>by omega) (fun s hs e u hu=>by
  have:s=t:=by omega
  subst this;obtain⟨q,q1,q2⟩:=hq;rw[<-hF,q1,hlen.2,<-q2,List.getElem?_append_right (Nat.le_refl _)] at hu;simp at hu;subst hu;exact⟨m,rfl,hf⟩)
 refine⟨hb2,V',X',col',a4,hl.pushed a6 (by omega) hlc,fun x hx=>by rw[a5 x (hl.lt hx)];exact hlc x hx,⟨by rw[(a3 F (by omega)).2];exact hlen.1,by rw[a2];simp;omega⟩,fun j j1 j2=>?_,?_⟩
 ·obtain⟨q1,q2⟩:=a3 j j2;rw[q1,q2];exact hsame j j1 j2
 ·exact hfix.trans (Fix.of a6 (by omega) fun k hk h7=>by rw[a5 k hk];exact h7)
theorem MSt.shut {V0:Nat->Value} {X0:Nat->List Value} {F S K r t m n:Nat} {col0:Nat->Nat} {w0:World} {l:Value} (h:MSt B b V0 X0 C p F S K col0 w0 t m l n w r V X col):x3n B b V0 X0 C p F S (K+r) col0 w0 w:=by
 obtain⟨hk,hl,hlc,hlen,hsame,hfix⟩:=h;exact⟨V,X,_,hk.shut,hlen,hsame,hfix.re fun k _ h7=>by show (if col k=8 then 5 else col k)=7;rw[if_neg (by omega)];exact h7⟩
end
theorem Q2 (W:World) (l:Nat) (o:Obj):Out l (l+1) W (W.putObj l o):=
 ⟨rfl,rfl,rfl,by simp,fun k _ h2=>World.putObj_heap_other (by omega)⟩
def j2z (a:Act) (ps:Array Tmp) (assign body:Code) (D:Nat) (rec:LoopState->Option Code->Loop):Prop:=
 ∃ fn,rec=fun st pe=>{ state:=st,pending:=pe,fn,tmps:=a.tmps,params:=ps,assign,body,defers:=D }
theorem z1a {P:Program} {g:Operand} {ps:Array Tmp} {assign body:Code} {Q:Exit->Act->World->Prop} {a:Act} {w:World} {gf:Nat} {lb:Array Value}
  (hg:a.eval g=.func (.func gf) #[] lb) (eg:∀ args w,(callFunc gf args).run P w=.ok (.enter gf args) w) (K:World->Prop) (Kx:Code->World->Prop)
  (H:∀ rec,j2z a ps assign body w.heap.size rec->∀ W1,W1=(w.alloc (.deferred (some []))).alloc (.loop (rec .ready none)) ->
   Calls P gf (#[.func (.yield (w.heap.size+1)) #[] #[]] ++ lb) W1 fun e W=>(∃ v,e=.returned v)/\W.heap[w.heap.size]? = some (.deferred (some [])) ∧
    ((K W/\W.heap[w.heap.size+1]? = some (.loop (rec .ready none)))\/∃ c,Kx c W/\W.heap[w.heap.size+1]? = some (.loop (rec .done (some c)))))
  (hdone:∀ W W',K W->Out (w.heap.size+1) (w.heap.size+2) W W'->W'.heap[w.heap.size]? = some (.deferred (some []))->Q .normal { a with defers:={ target:=.collected w.heap.size,args:=#[] } :: a.defers } W')
  (hstop:∀ c W W',Kx c W->Out (w.heap.size+1) (w.heap.size+2) W W'->W'.heap[w.heap.size]? = some (.deferred (some []))->c.wpIn Fence.wide 0 P Q { a with defers:={ target:=.collected w.heap.size,args:=#[] } :: a.defers } W') :
  (Code.rangeFunc g ps assign body).wpIn Fence.wide 0 P Q a w:=by
 refine wpIn_rangeFunc ?_;intro fn hfn;obtain⟨rec,hrec⟩:∃ rec:LoopState->Option Code->Loop,rec=fun st pe=>{ state:=st,pending:=pe,fn,tmps:=a.tmps,params:=ps,assign,body,defers:=w.heap.size }:=⟨_,rfl⟩
 have hc:=H rec ⟨fn,hrec⟩ _ rfl;refine⟨w.heap.size+1,[{ target:=.collected w.heap.size,args:=#[] }],(w.alloc (.deferred (some []))).alloc (.loop (rec .ready none)),{ target:=.fn (.func gf) lb,args:=#[.func (.yield (w.heap.size+1)) #[] #[]] },(w.alloc (.deferred (some []))).alloc (.loop (rec .ready none)),gf,
  #[.func (.yield (w.heap.size+1)) #[] #[]] ++ lb,(w.alloc (.deferred (some []))).alloc (.loop (rec .ready none)),?_,?_,fun _ _=>trivial,?_,fun h=>by simp[Fence.wide] at h,?_⟩
 ·rw[hrec];exact run_enterLoop_outer _ _ _ _ _
 ·simp only[resolve,hg];simp[go_sem]
 ·simp[invoke,go_sem,eg]
 ·refine callsIn_wide.2 (hc.mono ?_);rintro e W ⟨⟨v,rfl⟩,hD,⟨hK,hl⟩ | ⟨c,hK,hl⟩⟩
  ·refine⟨none,_,by have:=run_endLoop (P:=P) hl (by rw[hrec];simp);rw[hrec] at this;exact this,hdone W _ hK (Q2 _ _ _) ((World.putObj_heap_other (by omega)).trans hD)⟩
  ·refine⟨some c,_,by have:=run_endLoop (P:=P) hl (by rw[hrec];simp);rw[hrec] at this;exact this,hstop c W _ hK (Q2 _ _ _) ((World.putObj_heap_other (by omega)).trans hD)⟩
def rPost (l:Nat) (rec:LoopState->Option Code->Loop) (R:Ending->World->Prop):Exit->Act->World->Prop
 | .normal,_,W=>W.heap[l]? = some (.loop (rec .busy none))/\∀ W',Out l (l+1) W W'->W'.heap[l]? = some (.loop (rec .ready none))->R (.returned (.bool true)) W'
 | .ret,_,W=>W.heap[l]? = some (.loop (rec .busy none))/\∀ W',Out l (l+1) W W'->W'.heap[l]? = some (.loop (rec .done (some .ret)))->R (.returned (.bool false)) W'
 | .exit id,_,W=>W.heap[l]? = some (.loop (rec .busy none))/\∀ W',Out l (l+1) W W'->W'.heap[l]? = some (.loop (rec .done (some (.exit id))))->R (.returned (.bool false)) W'
 | .goto t,_,W=>W.heap[l]? = some (.loop (rec .busy none))/\∀ W',Out l (l+1) W W'->W'.heap[l]? = some (.loop (rec .done (some (.goto t))))->R (.returned (.bool false)) W'
 | .panic _,_,_=>False
 | .outgrown,_,_=>False
theorem z0y {P:Program} {a:Act} {ps:Array Tmp} {assign body:Code} {D l:Nat} {rec:LoopState->Option Code->Loop} {W:World} {args:Array Value} {R:Ending->World->Prop}
  (hrec:j2z a ps assign body D rec) (hl:W.heap[l]? = some (.loop (rec .ready none))) (hs:args.size=ps.size)
  (h:assign.wpIn (Fence.wide.inRound l) 0 P (Exit.then (fun a1 W1=>W1.heap[l]? = some (.loop (rec .ready none)) ∧
   ∀ W2,Out l (l+1) W1 W2->W2.heap[l]? = some (.loop (rec .busy none))->body.wpIn (Fence.wide.inRound l) 0 P (rPost l rec R) a1 W2) (fun _ _ _=>False))
   { tmps:=(ps.zip args).foldl (fun t (p,v)=>t.setIfInBounds p v) a.tmps,defers:=[] } W):YieldAt Fence.wide 0 P l args W R:=by
 obtain⟨fn,rfl⟩:=hrec;have hy:=run_yield (P:=P) (args:=args) hl hs;refine⟨fn,_,assign,body,hy,roundIn_of_wpIn trivial (wpIn_mono h ?_)⟩;rintro e a1 W1 he;cases e with
 | normal=>
  obtain⟨hl1,hb⟩:=he;have hlt:l<W1.heap.size:=Q4 hl1;refine⟨_,run_beginRound hl1 rfl,wpIn_mono (hb _ (Q2 _ _ _) (World.putObj_heap_same hlt)) ?_⟩;rintro e2 a2 W3 hp;cases e2 with
  | normal=>exact⟨_,_,run_endRound none hp.1,hp.2 _ (Q2 _ _ _) (World.putObj_heap_same (Q4 hp.1))⟩
  | ret=>exact⟨_,_,run_endRound (some .ret) hp.1,hp.2 _ (Q2 _ _ _) (World.putObj_heap_same (Q4 hp.1))⟩
  | exit id=>exact⟨_,_,run_endRound (some (.exit id)) hp.1,hp.2 _ (Q2 _ _ _) (World.putObj_heap_same (Q4 hp.1))⟩
  | goto t=>exact⟨_,_,run_endRound (some (.goto t)) hp.1,hp.2 _ (Q2 _ _ _) (World.putObj_heap_same (Q4 hp.1))⟩
  | panic ch=>exact hp.elim
  | outgrown=>exact hp.elim
 | ret=>exact he.elim
 | exit id=>exact he.elim
 | goto t=>exact he.elim
 | panic ch=>exact he.elim
 | outgrown=>exact he.elim
end Go.Proofs.YtjbbkeoolodeaabGreatDoor
