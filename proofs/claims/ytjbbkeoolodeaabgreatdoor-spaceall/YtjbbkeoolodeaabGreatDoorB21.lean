import Derived.Test.YtjbbkeoolodeaabGreatDoorB14
import Derived.Test.YtjbbkeoolodeaabGreatDoorB20
import Derived.Test.YtjbbkeoolodeaabGreatDoorB18
import Derived.Test.YtjbbkeoolodeaabGreatDoorB02
import Derived.Test.YtjbbkeoolodeaabGreatDoorB19
namespace Go.Proofs.YtjbbkeoolodeaabGreatDoor
open Go.RowKit
set_option linter.unusedVariables false
set_option maxRecDepth 100000
set_option maxHeartbeats 16000000
set_option linter.unusedSimpArgs false
def rPw (D:Nat) (W2:World) (J:World->Prop) (Kx:Code->World->Prop):Exit->Act->World->Prop
 | .normal,_,W=>Sv D 6 W2 W/\J W
 | .ret,_,W=>Sv D 6 W2 W/\Kx .ret W
 | .exit id,_,W=>Sv D 6 W2 W/\Kx (.exit id) W
 | .goto t,_,W=>Sv D 6 W2 W/\Kx (.goto t) W
 | .panic _,_,_=>False
 | .outgrown,_,_=>False
theorem z6l {D:Nat} {W Wa W2 W3 W':World} (h1:Sv D 6 W Wa) (h2:Out (D+1) (D+2) Wa W2) (h3:Sv D 6 W2 W3) (h4:Out (D+1) (D+2) W3 W'):Sv (D+2) 4 W W':=
 fun k o a b h=>h4.heap (h3.heap (h2.heap (h1.heap h (by omega) (by omega)) (by omega)) (by omega) (by omega)) (by omega)
theorem z4e {D:Nat} {W Wa W2 W3 W':World} {o:Obj} (h1:Sv D 6 W Wa) (h2:Out (D+1) (D+2) Wa W2) (h3:Sv D 6 W2 W3) (h4:Out (D+1) (D+2) W3 W') (h:W.heap[D]? = some o):W'.heap[D]? = some o:=
 h4.heap (h3.heap (h2.heap (h1.heap h (by omega) (by omega)) (by omega)) (by omega) (by omega)) (by omega)
theorem j1f {P:Program} {a:Act} {ps:Array Tmp} {assign body:Code} {D:Nat} {rec:LoopState->Option Code->Loop} {W:World} {args:Array Value} {J':World->Prop} {Kx:Code->World->Prop}
  (hrec:j2z a ps assign body D rec) (hd:W.heap[D]? = some (.deferred (some []))) (hl:W.heap[D+1]? = some (.loop (rec .ready none))) (hs:args.size=ps.size)
  (hq:∀ W W' x y,J' W->Out x y W W'->((D<=x/\y<=D+6)\/y=0)->J' W') (hqX:∀ c W W' x y,Kx c W->Out x y W W'->D<=x/\y<=D+6->Kx c W')
  (h:assign.wpIn (Fence.wide.inRound (D+1)) 0 P (Exit.then (fun a1 Wa=>Sv D 6 W Wa/\∀ W2,Out (D+1) (D+2) Wa W2->body.wpIn (Fence.wide.inRound (D+1)) 0 P (rPw D W2 J' Kx) a1 W2) (fun _ _ _=>False))
   { tmps:=(ps.zip args).foldl (fun t (p,v)=>t.setIfInBounds p v) a.tmps,defers:=[] } W) :
  YieldAt Fence.wide 0 P (D+1) args W fun e W'=>Sv (D+2) 4 W W'/\((e=.returned (.bool true)/\J' W'/\W'.heap[D]? = some (.deferred (some []))/\W'.heap[D+1]? = some (.loop (rec .ready none))) ∨
   (e=.returned (.bool false)/\∃ c,Kx c W'/\W'.heap[D]? = some (.deferred (some []))/\W'.heap[D+1]? = some (.loop (rec .done (some c))))):=by
 refine z0y hrec hl hs (wpIn_mono h ?_);rintro e a1 Wa he;cases e with
 | normal=>
  obtain⟨o1,hb⟩:=he;refine⟨o1.heap hl (by omega) (by omega),fun W2 o2 hl2=>wpIn_mono (hb W2 o2) ?_⟩;rintro e2 a2 W3 hp;cases e2 with
  | normal=>exact⟨hp.1.heap hl2 (by omega) (by omega),fun W' o4 hl4=>⟨z6l o1 o2 hp.1 o4,.inl ⟨rfl,hq _ _ _ _ hp.2 o4 (.inl (by omega)),z4e o1 o2 hp.1 o4 hd,hl4⟩⟩⟩
  | ret=>exact⟨hp.1.heap hl2 (by omega) (by omega),fun W' o4 hl4=>⟨z6l o1 o2 hp.1 o4,.inr ⟨rfl,_,hqX _ _ _ _ _ hp.2 o4 (by omega),z4e o1 o2 hp.1 o4 hd,hl4⟩⟩⟩
  | exit id=>exact⟨hp.1.heap hl2 (by omega) (by omega),fun W' o4 hl4=>⟨z6l o1 o2 hp.1 o4,.inr ⟨rfl,_,hqX _ _ _ _ _ hp.2 o4 (by omega),z4e o1 o2 hp.1 o4 hd,hl4⟩⟩⟩
  | goto t=>exact⟨hp.1.heap hl2 (by omega) (by omega),fun W' o4 hl4=>⟨z6l o1 o2 hp.1 o4,.inr ⟨rfl,_,hqX _ _ _ _ _ hp.2 o4 (by omega),z4e o1 o2 hp.1 o4 hd,hl4⟩⟩⟩
  | panic ch=>exact hp.elim
  | outgrown=>exact hp.elim
 | ret=>exact he.elim
 | exit id=>exact he.elim
 | goto t=>exact he.elim
 | panic ch=>exact he.elim
 | outgrown=>exact he.elim
theorem j5s {lo hi n cap g:Nat} {s:Nat->Nat} {op:Operand} {ps:Array Tmp} {assign body:Code} {Q:Exit->Act->World->Prop} {a:Act} {w:World}
  (hg:a.eval op=.func (.func 126) #[] #[.pointer (some ⟨g,0,none⟩)]) (hps:ps.size=1)
  (J:Nat->World->Prop) (K:World->Prop) (Kx:Code->World->Prop)
  (hm:∀ p W,J p W->p<=64*n/\∃ r,RawAt W lo hi s n cap r/\z8q r/\Box W g 34 (.pointer (some ⟨s 14,0,none⟩)))
  (hq:∀ p W W' x y,J p W->Out x y W W'->((w.heap.size<=x/\y<=w.heap.size+6)\/y=0)->J p W')
  (hqK:∀ W W' x y,K W->Out x y W W'->w.heap.size<=x/\y<=w.heap.size+6->K W')
  (hqX:∀ c W W' x y,Kx c W->Out x y W W'->w.heap.size<=x/\y<=w.heap.size+6->Kx c W')
  (hy:∀ p W r (k:Nat) b,J p W->RawAt W lo hi s n cap r->nxr r.P (64*n) p=k->r.M (k:Int)=some b->w.heap.size+6<=W.heap.size ->
   assign.wpIn (Fence.wide.inRound (w.heap.size+1)) 0 Tryz.prog (Exit.then (fun a1 Wa=>Sv w.heap.size 6 W Wa/\∀ W2,Out (w.heap.size+1) (w.heap.size+2) Wa W2->body.wpIn (Fence.wide.inRound (w.heap.size+1)) 0 Tryz.prog (rPw w.heap.size W2 (J (k+1)) Kx) a1 W2) (fun _ _ _=>False))
    { tmps:=(ps.zip #[q6a k b]).foldl (fun t (p,v)=>t.setIfInBounds p v) a.tmps,defers:=[] } W)
  (he:∀ p W r,J p W->RawAt W lo hi s n cap r->nxr r.P (64*n) p = -1->K W) (h0:J 0 w)
  (hdone:∀ W,K W->W.heap[w.heap.size]? = some (.deferred (some []))->Q .normal { a with defers:={ target:=.collected w.heap.size,args:=#[] } :: a.defers } W)
  (hstop:∀ c W,Kx c W->W.heap[w.heap.size]? = some (.deferred (some []))->c.wpIn Fence.wide 0 Tryz.prog Q { a with defers:={ target:=.collected w.heap.size,args:=#[] } :: a.defers } W) :
  (Code.rangeFunc op ps assign body).wpIn Fence.wide 0 Tryz.prog Q a w:=by
 refine z1a hg (enters_of Tryz.func126 (by kernel_rfl) rfl) K Kx ?H (fun W W' hK ho hd=>hdone W' (hqK _ _ _ _ hK ho (by omega)) hd) (fun c W W' hK ho hd=>hstop c W' (hqX _ _ _ _ _ hK ho (by omega)) hd);intro rec hrec W1 hW1;have ho:Out 0 0 w W1:=by rw[hW1];exact((Out.refl 0 0 w).alloc _).alloc _
 have hs:W1.heap.size=w.heap.size+2:=by rw[hW1];simp
 have hd:W1.heap[w.heap.size]? = some (.deferred (some [])):=by rw[hW1];exact K4
 have hl:W1.heap[w.heap.size+1]? = some (.loop (rec .ready none)):=by rw[hW1];exact heap_alloc2_new _ _ _
 clear hW1;refine(q4g (lo:=lo) (hi:=hi) (n:=n) (cap:=cap) (s:=s) (g:=g) (l:=w.heap.size+1)
  (fun p W=>J p W/\W.heap[w.heap.size]? = some (.deferred (some []))/\W.heap[w.heap.size+1]? = some (.loop (rec .ready none)))
  (fun W=>K W/\W.heap[w.heap.size]? = some (.deferred (some []))/\W.heap[w.heap.size+1]? = some (.loop (rec .ready none)))
  (fun W=>∃ c,Kx c W/\W.heap[w.heap.size]? = some (.deferred (some []))/\W.heap[w.heap.size+1]? = some (.loop (rec .done (some c)))) (w:=W1) ?m ?q ?qj ?qx ?y ?e ?z).mono ?_
 case m=>exact fun p W h=>hm p W h.1
 case q=>exact fun p W W' x y h o hx=>⟨hq p W W' x y h.1 o (by omega),o.heap h.2.1 (by omega),o.heap h.2.2 (by omega)⟩
 case qj=>exact fun W W' x y h o hx=>⟨hqK W W' x y h.1 o (by omega),o.heap h.2.1 (by omega),o.heap h.2.2 (by omega)⟩
 case qx=>rintro W W' x y ⟨c,h1,h2,h3⟩ o hx;exact⟨c,hqX c W W' x y h1 o (by omega),o.heap h2 (by omega),o.heap h3 (by omega)⟩
 case y=>
  rintro p W r k b ⟨hj,hd1,hl1⟩ hr hk hb hz;rw[hs] at hz ⊢;exact j1f hrec hd1 hl1 (by simp[hps]) (hq (k+1)) hqX (hy p W r k b hj hr hk hb (by omega))
 case e=>exact fun p W r h hr hk=>⟨he p W r h.1 hr hk,h.2⟩
 case z=>exact⟨hq 0 w W1 0 0 h0 ho (.inr rfl),hd,hl⟩
 rintro e W ⟨hv,⟨h1,h2,h3⟩ | ⟨c,h1,h2,h3⟩⟩
 ·exact⟨hv,h2,.inl ⟨h1,h3⟩⟩
 ·exact⟨hv,h2,.inr ⟨c,h1,h3⟩⟩
end Go.Proofs.YtjbbkeoolodeaabGreatDoor
namespace Go.Proofs.YtjbbkeoolodeaabGreatDoor
open Go.RowKit
attribute [local go_sem] Oper.semAt_some
set_option linter.unusedVariables false
set_option maxRecDepth 100000
set_option maxHeartbeats 16000000
set_option linter.unusedSimpArgs false
def J5 (r:Raw):Nat->List (Nat × Blk)
 | 0=>[]
 | p+1=>if r.P p then (match r.M (p:Int) with | some b=>J5 r p ++ [(p,b)] | none=>J5 r p) else J5 r p
theorem q2l {r:Raw} {p:Nat}:∀ {d:Nat},(∀ j,p<=j->j<p+d->r.P j=false)->J5 r (p+d)=J5 r p
 | 0,_=>rfl
 | d+1,h=>by
  refine Eq.trans ?_ (q2l (r:=r) (p:=p) (d:=d) (fun j a b=>h j a (by omega)))
  show J5 r ((p+d)+1)=_
  conv=>lhs;unfold J5
  rw[h _ (by omega) (by omega)];rfl
theorem j0a {r:Raw} {p k:Nat} (hp:p<=k) (h:∀ j,p<=j->j<k->r.P j=false):J5 r k=J5 r p:=by
 obtain⟨d,rfl⟩:∃ d,k=p+d:=⟨k-p,by omega⟩
 exact q2l h
theorem q3h {r:Raw} {k:Nat} {b:Blk} (hP:r.P k=true) (hb:r.M (k:Int)=some b):J5 r (k+1)=J5 r k ++ [(k,b)]:=by
 conv=>lhs;unfold J5
 rw[hP,hb];rfl
theorem z4o (r:Raw):∀ p,(J5 r p).length<=p
 | 0=>Nat.le_refl _
 | p+1=>by
  have ih:=z4o r p;unfold J5;split
  ·split
   ·simp;omega
   ·omega
  ·omega
def bks (l:List (Nat × Blk)):List Value:=l.flatMap fun q=>[.int .i64 (q.1:Int),.int .i64 q.2.1,.int .i64 q.2.2.1,.int .i64 q.2.2.2.1,.int .i64 q.2.2.2.2]
theorem q5v (p:Nat × Blk) (l:List (Nat × Blk)):bks (p :: l)=.int .i64 (p.1:Int) :: .int .i64 p.2.1 :: .int .i64 p.2.2.1 :: .int .i64 p.2.2.2.1 :: .int .i64 p.2.2.2.2 :: bks l:=rfl
theorem z9i (a b:List (Nat × Blk)):bks (a ++ b)=bks a ++ bks b:=by unfold bks;rw[List.flatMap_append]
def F8 (w:World) (base:Nat) (v:Value) (l:List (Nat × Blk)):Prop:=w.ownsRow base 97 5 v l.length (bks l)
theorem J0 {w w':World} {base:Nat} {T:TypeId} {size n:Nat} {v:Value} {xs:List Value} (h:w.ownsRow base T size v n xs) (hb:∀ g o,v.ownBlock=some g->base<=g->w.heap[g]? = some o->w'.heap[g]? = some o):w'.ownsRow base T size v n xs:=by
 obtain⟨h1,h2⟩:=h;refine⟨h1,?_⟩;rcases h2 with h2 | ⟨g,cap,cur,rfl,h3,h4,h5⟩
 ·exact .inl h2
 ·exact .inr ⟨g,cap,cur,rfl,h3,hb g _ rfl h3 h4,h5⟩
theorem z0q {w w':World} {base x y:Nat} {T:TypeId} {size n:Nat} {v:Value} {xs:List Value} (h:w.ownsRow base T size v n xs) (o:Out x y w w') (hy:y<=base):w'.ownsRow base T size v n xs:=
 J0 h fun g ob _ hg hh=>o.heap hh (.inr (by omega))
theorem z5x {w:World} {base base':Nat} {T:TypeId} {size n:Nat} {v:Value} {xs:List Value} (h:w.ownsRow base T size v n xs) (hb:base'<=base):w.ownsRow base' T size v n xs:=by
 obtain⟨h1,h2⟩:=h;refine⟨h1,?_⟩;rcases h2 with h2 | ⟨g,cap,cur,rfl,h3,h4⟩
 ·exact .inl h2
 ·exact .inr ⟨g,cap,cur,rfl,by omega,h4⟩
theorem Z8 {w:World} {base:Nat} {T:TypeId} {size n:Nat} {v:Value} {xs:List Value} (h:w.ownsRow base T size v n xs):∀ g,v.ownBlock=some g->base<=g/\g<w.heap.size:=by
 intro g hg;rcases h.2 with ⟨rfl,_⟩ | ⟨g',cap,cur,rfl,h3,h4,_⟩
 ·cases hg
 ·cases hg;exact⟨h3,Q4 h4⟩
theorem z7j {w w':World} {v:Value} {base:Nat} (h:w.grownBy w' v.ownBlock) (hb:∀ g,v.ownBlock=some g->base<=g):Out base w.heap.size w w':=
 ⟨h.os,h.tape,h.output,h.size,fun k h1 h2=>h.block k h1 (fun e=>by have:=hb k e.symm;omega)⟩
theorem z6s:(Tryz.prog.info? 97).map (fun i=>(i.zero,i.size,i.bytes))=some (some (.agg #[.int .i64 0,.int .i64 0,.int .i64 0,.int .i64 0,.int .i64 0]),5,40):=by kernel_rfl
section
variable {w:World} {lo hi n cap:Nat} {s:Nat->Nat} {r:Raw}
theorem z9p (h:RawAt w lo hi s n cap r) (hT:z8q r) {g:Nat} (hg:Box w g 34 (.pointer (some ⟨s 14,0,none⟩))) :
  Calls Tryz.prog 125 #[.slice none 0 0,.func (.func 126) #[] #[.pointer (some ⟨g,0,none⟩)]] w fun e w'=>∃ v,e=.returned v/\F8 w' w.heap.size v (J5 r (64*n))/\Out 0 0 w w':=by
 obtain⟨i0,hi0,hz0,hz1,hz2⟩:=Q3 z6s;have HR0:=Z0 h;have HTo:=Z0 hT;have HTt:Hid (hi<=w.heap.size/\4<=w.heap.size/\4<=lo/\n<=4096/\1<=n/\g<w.heap.size):=⟨h.top,h.tab.lt,h.glob,h.n2,h.n1,hg.lt⟩
 have HB0:=Z0 hg;clear h hT hg;refine(callsIn_wide (n:=0)).1 ?_;refine callsIn_of_wp_marks Tryz.func125 rfl trivial ?_ rfl;simp only[Tryz.ntmps125,List.size_toArray,List.length_cons,List.length_nil,Nat.reduceAdd,Nat.reduceSub,Array.replicate_succ,Array.replicate_zero,List.push_toArray,List.append_toArray,List.nil_append,List.cons_append];gi_wp2_with fail;obtain⟨W1,hW1⟩:∃ W1,w.alloc (.cells #[.slice none 0 0] 70)=W1:=⟨_,rfl⟩
 obtain⟨G,hG⟩:∃ G,w.heap.size=G:=⟨_,rfl⟩
 have hs1:W1.heap.size=G+1:=by rw[<-hW1,<-hG];simp
 have HO1:Hid (Out 0 0 w W1):=by rw[<-hW1];exact(Out.refl 0 0 w).alloc _
 have HX1:Hid (Box W1 G 70 (.slice none 0 0)):=by rw[<-hW1,<-hG];exact heap_alloc_new _ _
 rw[hW1,hG];rw[hG] at HTt;have HGw:=Z0 hG;clear hW1 hG;refine j5s (lo:=lo) (hi:=hi) (n:=n) (cap:=cap) (g:=g) (s:=s) rfl rfl
  (fun p W=>p<=64*n/\RawAt W lo hi s n cap r/\Box W g 34 (.pointer (some ⟨s 14,0,none⟩))/\(∃ v,Box W G 70 v/\F8 W (G+7) v (J5 r p))/\Out 0 0 w W)
  (fun W=>(∃ v,Box W G 70 v/\F8 W (G+7) v (J5 r (64*n)))/\Out 0 0 w W)
  (fun c W=>False) ?hm1 ?hq1 ?hqk1 ?hqx1 ?hy1 ?he1 ?hz1 ?hdone1 ?hstop1
 case hm1=>
  rintro p W ⟨hp,a1,a2,a3,a4⟩;exact⟨hp,_,a1,HTo.out,a2⟩
 case hq1=>
  rintro p W W' x y ⟨hp,a1,a2,⟨v,a3,a4⟩,a5⟩ o hx;have hT:=HTt.out;have hgw:=HGw.out;exact⟨hp,a1.kept o (by omega) (by omega),a2.kept o (by omega),⟨v,a3.kept o (by omega),z0q a4 o (by omega)⟩,Z9 a5 o (by omega)⟩
 case hqk1=>
  rintro W W' x y ⟨⟨v,a3,a4⟩,a5⟩ o hx;have hT:=HTt.out;have hgw:=HGw.out;exact⟨⟨v,a3.kept o (by omega),z0q a4 o (by omega)⟩,Z9 a5 o (by omega)⟩
 case hqx1=>exact fun c W W' x y h _ _=>h
 case hstop1=>exact fun c W h _=>h.elim
 case hz1=>exact⟨Nat.zero_le _,HR0.out.quiet HO1.out,HB0.out.kept HO1.out z0,⟨_,HX1.out,⟨rfl,.inl ⟨rfl,rfl⟩⟩⟩,HO1.out⟩
 case he1=>
  rintro p W rr ⟨hp,a1,a2,⟨v,a3,a4⟩,a5⟩ hr hk;obtain⟨eP,eM⟩:=z2j a1 hr;rw[<-eP] at hk;rcases Q1 r.P (64*n) p with ⟨_,hz⟩ | ⟨i,hi',_⟩
  ·rw[j0a hp hz];exact⟨⟨v,a3,a4⟩,a5⟩
  ·have:(-1:Int)=i:=hk.symm.trans hi';omega
 case hdone1=>
  rintro W ⟨⟨v,a3,a4⟩,a5⟩ hd;have c0:=a3.cell;have HD:=Z0 hd;have HA:=Z0 (And.intro a4 a5);clear a3 a4 a5 hd;gi_wp2;refine⟨by simp,.inl ⟨_,_,rfl,run_takeDeferred HD.out,?_⟩⟩;have hgw:=HGw.out;have o:=Q2 W W1.heap.size (Obj.deferred none);have hl:F8 (W.putObj W1.heap.size (Obj.deferred none)) w.heap.size v (J5 r (64*n)):=z5x (z0q (show W.ownsRow (G+7) 97 5 v _ _ from HA.out.1) o (by omega)) (by omega);refine⟨_,results_tmp rfl _ _ _,_,rfl,?_⟩;exact⟨hl,Z9 HA.out.2 o (.inl (by omega))⟩
 case hy1=>
  rintro p W rr k b ⟨hp,a1,a2,⟨v,a3,a4⟩,a5⟩ hr hk hb hsz;obtain⟨eP,eM⟩:=z2j a1 hr;rw[<-eP] at hk;rw[<-eM] at hb;obtain⟨hpk,hkn,hPk,hz⟩:p<=k/\k<64*n/\r.P k=true/\∀ j,p<=j->j<k->r.P j=false:=by
   rcases Q1 r.P (64*n) p with ⟨e1,_⟩ | ⟨i,e1,e2,e3,e4,e5⟩
   ·have:(-1:Int)=k:=e1.symm.trans hk;omega
   ·have:i=k:=by have:(i:Int)=k:=e1.symm.trans hk;omega
    subst this;exact⟨e3 hp,e2,e4,e5⟩
  rw[hs1] at hsz ⊢;have hst:=q3h hPk hb;rw[j0a hpk hz] at hst;obtain⟨b1,b2,b3,b4⟩:=b;have hlen:=z4o r p;have A:=Z0 (And.intro a1 (And.intro a2 (And.intro a3 (And.intro a4 (And.intro a5 hst)))));have HK:=Z0 (And.intro hpk (And.intro hkn (And.intro hsz (And.intro hlen hp))));clear a1 a2 a3 a4 a5 hr hk hb eP eM hz hPk hp hpk hkn hsz hst hlen;unfold q6a;dsimp only at A ⊢;obtain⟨WA,hWA⟩:∃ WA,W.alloc (bo (k:Int) b1 b2 b3 b4)=WA:=⟨_,rfl⟩
  have HBA:Hid (WA.heap[W.heap.size]? = some (bo (k:Int) b1 b2 b3 b4)):=by rw[<-hWA];exact heap_alloc_new _ _
  have HOA:Hid (Out 0 0 W WA):=by rw[<-hWA];exact(Out.refl 0 0 W).alloc _
  have HSA:Hid (WA.heap.size=W.heap.size+1):=by rw[<-hWA];exact World.size_alloc _ _
  obtain⟨H,hH⟩:∃ H,W.heap.size=H:=⟨_,rfl⟩
  rw[hH] at HK HBA HSA;unfold bo at hWA HBA;gi_wp2;(try rw[hWA]);refine⟨(HOA.out.any 0 _).sv,?_⟩;(try rw[hH]);clear hWA hH;intro W2 o2;have hT:=HTt.out;have hkk:=HK.out;have hgw:=HGw.out;have HR2:=Z0 ((A.out.1.quiet HOA.out).kept o2 (.inl (by omega)) (.inl (by omega)));have HG2:=Z0 ((A.out.2.1.kept HOA.out z0).kept o2 (.inl (by omega)));have HX2:=Z0 ((A.out.2.2.1.kept HOA.out z0).kept o2 (.inl (by omega)));have HL2:Hid (W2.ownsRow (G+7) 97 5 v (J5 r p).length (bks (J5 r p))):=z0q (z0q A.out.2.2.2.1 HOA.out (Nat.zero_le _)) o2 (by omega);have HB2:=Z0 (o2.heap HBA.out (.inr (by omega)));have HO2:=Z0 (Z9 (A.out.2.2.2.2.1.trans HOA.out) o2 (.inl (by omega)));have c0:=HX2.out.cell;have HS2:Hid (H+1<=W2.heap.size):=by have:=o2.size;have:=HSA.out;show H+1<=_;omega
  have HA6:=Z0 A.out.2.2.2.2.2;obtain⟨q0,q1,q2,q3,q4⟩:=V7 HB2.out;obtain⟨m,hm⟩:∃ m,(J5 r p).length=m:=⟨_,rfl⟩
  obtain⟨xs,hxs⟩:∃ xs,bks (J5 r p)=xs:=⟨_,rfl⟩
  rw[hm,hxs] at HL2;have HMm:Hid (m<=64*n/\n<=4096):=by show _/\_;omega
  have HL3:Hid ((W2.alloc (.cells #[.int .i64 (k:Int),.int .i64 b1,.int .i64 b2,.int .i64 b3,.int .i64 b4] 97)).ownsRow (G+7) 97 5 v m xs):=z0q HL2.out ((Out.refl 0 0 W2).alloc _) (Nat.zero_le _);have HN3:Hid (∀ j u,([.int .i64 (k:Int),.int .i64 b1,.int .i64 b2,.int .i64 b3,.int .i64 b4]:List Value)[j]? = some u->(W2.alloc (.cells #[.int .i64 (k:Int),.int .i64 b1,.int .i64 b2,.int .i64 b3,.int .i64 b4] 97)).cell? ((⟨W2.heap.size,0,none⟩:Addr).add j)=some u):=by
   intro j u hj;have hh:=heap_alloc_new W2 (.cells #[.int .i64 (k:Int),.int .i64 b1,.int .i64 b2,.int .i64 b3,.int .i64 b4] 97);have hj5:j<5:=by have:=(List.getElem?_eq_some_iff.1 hj).1;simpa using this
   have:j=0\/j=1\/j=2\/j=3\/j=4:=by omega
   rw[Addr.add_lit,Nat.zero_add];obtain⟨f0,f1,f2,f3,f4⟩:=V7 (a:=(k:Int)) (k:=b1) (z:=b2) (x:=b3) (t:=b4) hh;rcases this with rfl | rfl | rfl | rfl | rfl <;> (simp at hj;subst hj;assumption)
  have HG3:Hid (G+7<=(W2.alloc (.cells #[.int .i64 (k:Int),.int .i64 b1,.int .i64 b2,.int .i64 b3,.int .i64 b4] 97)).heap.size):=by
   show G+7<=_
   have:=HS2.out;rw[World.size_alloc];omega
  have HV:=Z0 (Z8 HL2.out);have HMX:=Z0 (And.intro hm hxs);clear hm hxs;gi_wp2_with (gi_at_builtin;refine wpListIn_append_own _ rfl _ _ 70 rfl (G+7) 97 i0 (.agg #[.int .i64 0,.int .i64 0,.int .i64 0,.int .i64 0,.int .i64 0]) 5 40 Tryz.underlying70 hi0 hz0 hz1 hz2 rfl (by decide) v m xs rfl HL3.out ⟨W2.heap.size,0,none⟩ 1 1 [.int .i64 (k:Int),.int .i64 b1,.int .i64 b2,.int .i64 b3,.int .i64 b4] rfl rfl HN3.out (by intro u hu;simp at hu;rcases hu with rfl | rfl | rfl | rfl | rfl <;> rfl) (by unfold maxLen;have:=HMm.out;omega) (by have:=HMm.out;omega) HG3.out ?_;intro v' w1 hown' hgrow hnil;obtain⟨g4,cap4,rfl,hg4,_⟩:=hown'.form (by omega);have HP4:=Z0 hown';have HO4:=Z0 (z7j (base:=G+7) hgrow (fun g h=>(HV.out g h).1));have HX4:=Z0 ((HX2.out.kept ((Out.refl 0 0 W2).alloc (.cells #[.int .i64 (k:Int),.int .i64 b1,.int .i64 b2,.int .i64 b3,.int .i64 b4] 97)) z0).kept HO4.out (.inl (by omega)));have c4:=HX4.out.cell;have c5:w1.frozen? ⟨G,0,none⟩=false:=HX4.out.frozen;clear hown' hgrow hnil hg4);have o3:Out 0 0 W2 (W2.alloc (.cells #[.int .i64 (k:Int),.int .i64 b1,.int .i64 b2,.int .i64 b3,.int .i64 b4] 97)):=(Out.refl 0 0 W2).alloc _;have o5:Out G (G+1) w1 (w1.setCell ⟨G,0,none⟩ (.slice (some ⟨g4,0,none⟩) (m+1) cap4)):=(Out.refl _ _ _).setCell z1 _;have hB:=HS2.out;refine⟨fun x ob h1 h2 hx=>o5.heap (HO4.out.heap (o3.heap hx z0) (.inl (by omega))) (.inr (by omega)),by omega,?_,?_,⟨_,HX4.out.set _,?_⟩,?_⟩
  ·exact((HR2.out.quiet o3).kept HO4.out (.inl (by omega)) (.inl (by omega))).kept o5 (.inl (by omega)) (.inl (by omega))
  ·exact((HG2.out.kept o3 z0).kept HO4.out (.inl (by omega))).kept o5 (.inl (by omega))
  ·have:=z0q HP4.out o5 (by omega);unfold F8;rw[HA6.out,z9i,List.length_append,HMX.out.1,HMX.out.2];exact this
  ·exact Z9 (Z9 (HO2.out.trans o3) HO4.out (.inl (by omega))) o5 (.inl (by omega))
theorem q5m (h:RawAt w lo hi s n cap r) (hT:z8q r) {g:Nat} (hg:Box w g 34 (.pointer (some ⟨s 14,0,none⟩))) :
  Calls Tryz.prog 76 #[.func (.func 126) #[] #[.pointer (some ⟨g,0,none⟩)]] w fun e w'=>∃ v,e=.returned v/\F8 w' w.heap.size v (J5 r (64*n))/\Out 0 0 w w':=by
 have HA:=Z0 (z9p h hT hg);clear h hT hg;go_enter Tryz.func76,Tryz.ntmps76
 go_wp2_with (go_at_call 125;refine HA.out.mono ?_;rintro e w1 ⟨v,rfl,hl,ho⟩);go_ret;exact⟨v,rfl,hl,ho⟩
theorem q1v (h:RawAt w lo hi s n cap r) (hT:z8q r) :
  Calls Tryz.prog 35 #[.pointer (some ⟨s 14,0,none⟩)] w fun e w'=>∃ v,e=.returned v/\F8 w' w.heap.size v (J5 r (64*n))/\Out 0 0 w w':=by
 have ho0:Out 0 0 w (w.alloc (.cells #[.pointer (some ⟨s 14,0,none⟩)] 34)):=(Out.refl 0 0 w).alloc _;have HC:=Z0 (q5m (h.quiet ho0) hT (heap_alloc_new w (.cells #[.pointer (some ⟨s 14,0,none⟩)] 34)));have HL:=Z0 (z4i (s 14) w);have HO0:=Z0 ho0;clear h hT ho0;go_enter Tryz.func35,Tryz.ntmps35
 go_wp2_with (first | (go_at_call 77;refine HL.out.mono ?_;rintro e w1 ⟨rfl,rfl⟩) | (go_at_call 76;refine HC.out.mono ?_;rintro e w1 ⟨v,rfl,hl,ho⟩));go_ret;exact⟨v,rfl,z5x hl (by simp),HO0.out.trans ho⟩
end
end Go.Proofs.YtjbbkeoolodeaabGreatDoor
namespace Go.Proofs.YtjbbkeoolodeaabGreatDoor
open Go.RowKit
set_option linter.unusedVariables false
set_option maxRecDepth 100000
set_option maxHeartbeats 16000000
set_option linter.unusedSimpArgs false
theorem q9y {w:World} {g:Nat} {a k z x t:Int} (h:w.heap[g]? = some (bo a k z x t)):∀ j u,([.int .i64 a,.int .i64 k,.int .i64 z,.int .i64 x,.int .i64 t]:List Value)[j]? = some u->w.cell? ((⟨g,0,none⟩:Addr).add j)=some u:=by
 intro j u hj;have hj5:j<5:=by have:=(List.getElem?_eq_some_iff.1 hj).1;simpa using this
 have:j=0\/j=1\/j=2\/j=3\/j=4:=by omega
 rw[Addr.add_lit,Nat.zero_add];obtain⟨f0,f1,f2,f3,f4⟩:=V7 h;rcases this with rfl | rfl | rfl | rfl | rfl <;> (simp at hj;subst hj;assumption)
def atB (l:List (Nat × Blk)) (j:Nat):Nat × Blk:=(l[j]?).getD (0,noB)
def SlI (w:World) (b:Nat) (p:Option Addr) (L:List Int):Prop:=(∀ x ∈ L,-9223372036854775808<=x/\x<=9223372036854775807)/\(L=[]\/∃ g off,p=some ⟨g,off,none⟩/\g<b/\∀ j x,L[j]? = some x->w.cell? ⟨g,off+j,none⟩=some (.int .i64 x))
theorem SlI.kept {w w':World} {b x y:Nat} {p:Option Addr} {L:List Int} (h:SlI w b p L) (o:Out x y w w') (hx:b<=x\/y=0):SlI w' b p L:=by
 refine⟨h.1,?_⟩;rcases h.2 with h | ⟨g,off,h1,h2,h3⟩
 ·exact .inl h
 ·exact .inr ⟨g,off,h1,h2,fun j x hj=>o.cell (h3 j x hj) (by omega)⟩
end Go.Proofs.YtjbbkeoolodeaabGreatDoor
