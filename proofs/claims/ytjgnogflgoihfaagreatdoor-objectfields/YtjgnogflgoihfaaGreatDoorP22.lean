import Derived.Test.YtjgnogflgoihfaaGreatDoorP21
import Derived.Test.YtjgnogflgoihfaaGreatDoorP20
set_option linter.unusedSimpArgs false
set_option linter.unusedVariables false
set_option maxHeartbeats 16000000
set_option maxRecDepth 100000
namespace Go.Proofs.YtjgnogflgoihfaaGreatDoor
open Go.RowKit
def rPw (D:Nat) (W2:World) (J:World->Prop) (Kx:Code->World->Prop):Exit->Act->World->Prop
 | .normal,_,W=>Sv D 6 W2 W/\J W
 | .ret,_,W=>Sv D 6 W2 W/\Kx .ret W
 | .exit id,_,W=>Sv D 6 W2 W/\Kx (.exit id) W
 | .goto t,_,W=>Sv D 6 W2 W/\Kx (.goto t) W
 | .panic _,_,_=>False
 | .outgrown,_,_=>False
theorem z8f {D:Nat} {W Wa W2 W3 W':World} (h1:Sv D 6 W Wa) (h2:Out (D+1) (D+2) Wa W2) (h3:Sv D 6 W2 W3) (h4:Out (D+1) (D+2) W3 W'):Sv (D+2) 4 W W':=
 fun k o a b h=>h4.heap (h3.heap (h2.heap (h1.heap h (by omega) (by omega)) (by omega)) (by omega) (by omega)) (by omega)
theorem z6b {D:Nat} {W Wa W2 W3 W':World} {o:Obj} (h1:Sv D 6 W Wa) (h2:Out (D+1) (D+2) Wa W2) (h3:Sv D 6 W2 W3) (h4:Out (D+1) (D+2) W3 W') (h:W.heap[D]? = some o):W'.heap[D]? = some o:=
 h4.heap (h3.heap (h2.heap (h1.heap h (by omega) (by omega)) (by omega)) (by omega) (by omega)) (by omega)
theorem j6t {P:Program} {a:Act} {ps:Array Tmp} {assign body:Code} {D:Nat} {cX:LoopState->Option Code->Loop} {W:World} {args:Array Value} {J':World->Prop} {Kx:Code->World->Prop}
  (eN:j8c a ps assign body D cX) (hd:W.heap[D]? = some (.deferred (some []))) (hl:W.heap[D+1]? = some (.loop (cX .ready none))) (hs:args.size=ps.size)
  (hq:∀ W W' x y,J' W->Out x y W W'->((D<=x/\y<=D+6)\/y=0)->J' W') (hqX:∀ c W W' x y,Kx c W->Out x y W W'->D<=x/\y<=D+6->Kx c W')
  (h:assign.wpIn (Fence.wide.inRound (D+1)) 0 P (Exit.then (fun a1 Wa=>Sv D 6 W Wa/\∀ W2,Out (D+1) (D+2) Wa W2->body.wpIn (Fence.wide.inRound (D+1)) 0 P (rPw D W2 J' Kx) a1 W2) (fun _ _ _=>False))
   { tmps:=(ps.zip args).foldl (fun t (p,v)=>t.setIfInBounds p v) a.tmps,defers:=[] } W) :
  YieldAt Fence.wide 0 P (D+1) args W fun e W'=>Sv (D+2) 4 W W'/\((e=.returned (.bool true)/\J' W'/\W'.heap[D]? = some (.deferred (some []))/\W'.heap[D+1]? = some (.loop (cX .ready none))) ∨
   (e=.returned (.bool false)/\∃ c,Kx c W'/\W'.heap[D]? = some (.deferred (some []))/\W'.heap[D+1]? = some (.loop (cX .done (some c))))):=by
 refine z2x eN hl hs (wpIn_mono h ?_);rintro e a1 Wa he;cases e with
 | normal=>
  obtain⟨o1,hb⟩:=he;refine⟨o1.heap hl (by omega) (by omega),fun W2 o2 lX=>wpIn_mono (hb W2 o2) ?_⟩;rintro e2 a2 W3 hp;cases e2 with
  | normal=>exact⟨hp.1.heap lX (by omega) (by omega),fun W' o4 hl4=>⟨z8f o1 o2 hp.1 o4,.inl ⟨rfl,hq _ _ _ _ hp.2 o4 (.inl (by omega)),z6b o1 o2 hp.1 o4 hd,hl4⟩⟩⟩
  | ret=>exact⟨hp.1.heap lX (by omega) (by omega),fun W' o4 hl4=>⟨z8f o1 o2 hp.1 o4,.inr ⟨rfl,_,hqX _ _ _ _ _ hp.2 o4 (by omega),z6b o1 o2 hp.1 o4 hd,hl4⟩⟩⟩
  | exit id=>exact⟨hp.1.heap lX (by omega) (by omega),fun W' o4 hl4=>⟨z8f o1 o2 hp.1 o4,.inr ⟨rfl,_,hqX _ _ _ _ _ hp.2 o4 (by omega),z6b o1 o2 hp.1 o4 hd,hl4⟩⟩⟩
  | goto t=>exact⟨hp.1.heap lX (by omega) (by omega),fun W' o4 hl4=>⟨z8f o1 o2 hp.1 o4,.inr ⟨rfl,_,hqX _ _ _ _ _ hp.2 o4 (by omega),z6b o1 o2 hp.1 o4 hd,hl4⟩⟩⟩
  | panic ch=>exact hp.elim
  | outgrown=>exact hp.elim
 | ret=>exact he.elim
 | exit id=>exact he.elim
 | goto t=>exact he.elim
 | panic ch=>exact he.elim
 | outgrown=>exact he.elim
theorem x0f {lo hi n cap g:Nat} {s:Nat->Nat} {op:Operand} {ps:Array Tmp} {assign body:Code} {Q:Exit->Act->World->Prop} {a:Act} {w:World}
  (hg:a.eval op=.func (.func 184) #[] #[.pointer (some ⟨g,0,none⟩)]) (hps:ps.size=1)
  (J:Nat->World->Prop) (K:World->Prop) (Kx:Code->World->Prop)
  (hm:∀ p W,J p W->p<=64*n/\∃ r,RawAt W lo hi s n cap r/\q1g r/\Box W g 76 (.pointer (some ⟨s 14,0,none⟩)))
  (hq:∀ p W W' x y,J p W->Out x y W W'->((w.heap.size<=x/\y<=w.heap.size+6)\/y=0)->J p W')
  (hqK:∀ W W' x y,K W->Out x y W W'->w.heap.size<=x/\y<=w.heap.size+6->K W')
  (hqX:∀ c W W' x y,Kx c W->Out x y W W'->w.heap.size<=x/\y<=w.heap.size+6->Kx c W')
  (hy:∀ p W r (k:Nat) b,J p W->RawAt W lo hi s n cap r->nxr r.P (64*n) p=k->r.M (k:Int)=some b->w.heap.size+6<=W.heap.size ->
   assign.wpIn (Fence.wide.inRound (w.heap.size+1)) 0 Tryz.prog (Exit.then (fun a1 Wa=>Sv w.heap.size 6 W Wa/\∀ W2,Out (w.heap.size+1) (w.heap.size+2) Wa W2->body.wpIn (Fence.wide.inRound (w.heap.size+1)) 0 Tryz.prog (rPw w.heap.size W2 (J (k+1)) Kx) a1 W2) (fun _ _ _=>False))
    { tmps:=(ps.zip #[j0t k b]).foldl (fun t (p,v)=>t.setIfInBounds p v) a.tmps,defers:=[] } W)
  (he:∀ p W r,J p W->RawAt W lo hi s n cap r->nxr r.P (64*n) p = -1->K W) (h0:J 0 w)
  (hdone:∀ W,K W->W.heap[w.heap.size]? = some (.deferred (some []))->Q .normal { a with defers:={ target:=.collected w.heap.size,args:=#[] } :: a.defers } W)
  (hstop:∀ c W,Kx c W->W.heap[w.heap.size]? = some (.deferred (some []))->c.wpIn Fence.wide 0 Tryz.prog Q { a with defers:={ target:=.collected w.heap.size,args:=#[] } :: a.defers } W) :
  (Code.rangeFunc op ps assign body).wpIn Fence.wide 0 Tryz.prog Q a w:=by
 refine z2w hg (enters_of Tryz.func184 (by kernel_rfl) rfl) K Kx ?H (fun W W' hK ho hd=>hdone W' (hqK _ _ _ _ hK ho (by omega)) hd) (fun c W W' hK ho hd=>hstop c W' (hqX _ _ _ _ _ hK ho (by omega)) hd);intro cX eN W1 cC;have ho:Out 0 0 w W1:=by rw[cC];exact((Out.refl 0 0 w).alloc _).alloc _
 have hs:W1.heap.size=w.heap.size+2:=by rw[cC];simp
 have hd:W1.heap[w.heap.size]? = some (.deferred (some [])):=by rw[cC];exact J0
 have hl:W1.heap[w.heap.size+1]? = some (.loop (cX .ready none)):=by rw[cC];exact heap_alloc2_new _ _ _
 clear cC;refine(q8f (lo:=lo) (hi:=hi) (n:=n) (cap:=cap) (s:=s) (g:=g) (l:=w.heap.size+1)
  (fun p W=>J p W/\W.heap[w.heap.size]? = some (.deferred (some []))/\W.heap[w.heap.size+1]? = some (.loop (cX .ready none)))
  (fun W=>K W/\W.heap[w.heap.size]? = some (.deferred (some []))/\W.heap[w.heap.size+1]? = some (.loop (cX .ready none)))
  (fun W=>∃ c,Kx c W/\W.heap[w.heap.size]? = some (.deferred (some []))/\W.heap[w.heap.size+1]? = some (.loop (cX .done (some c)))) (w:=W1) ?m ?q ?qj ?qx ?y ?e ?z).mono ?_
 case m=>exact fun p W h=>hm p W h.1
 case q=>exact fun p W W' x y h o hx=>⟨hq p W W' x y h.1 o (by omega),o.heap h.2.1 (by omega),o.heap h.2.2 (by omega)⟩
 case qj=>exact fun W W' x y h o hx=>⟨hqK W W' x y h.1 o (by omega),o.heap h.2.1 (by omega),o.heap h.2.2 (by omega)⟩
 case qx=>rintro W W' x y ⟨c,h1,h2,h3⟩ o hx;exact⟨c,hqX c W W' x y h1 o (by omega),o.heap h2 (by omega),o.heap h3 (by omega)⟩
 case y=>
  rintro p W r k b ⟨hj,mT,hl1⟩ hr hk hb hz;rw[hs] at hz ⊢;exact j6t eN mT hl1 (by simp[hps]) (hq (k+1)) hqX (hy p W r k b hj hr hk hb (by omega))
 case e=>exact fun p W r h hr hk=>⟨he p W r h.1 hr hk,h.2⟩
 case z=>exact⟨hq 0 w W1 0 0 h0 ho (.inr rfl),hd,hl⟩
 rintro e W ⟨hv,⟨h1,h2,h3⟩ | ⟨c,h1,h2,h3⟩⟩
 ·exact⟨hv,h2,.inl ⟨h1,h3⟩⟩
 ·exact⟨hv,h2,.inr ⟨c,h1,h3⟩⟩
end Go.Proofs.YtjgnogflgoihfaaGreatDoor
namespace Go.Proofs.YtjgnogflgoihfaaGreatDoor
open Go.RowKit
attribute [local go_sem] Oper.semAt_some
def K4 (r:Raw):Nat->List (Nat × Blk)
 | 0=>[]
 | p+1=>if r.P p then (match r.M (p:Int) with | some b=>K4 r p ++ [(p,b)] | none=>K4 r p) else K4 r p
theorem q4h {r:Raw} {p:Nat}:∀ {d:Nat},(∀ j,p<=j->j<p+d->r.P j=false)->K4 r (p+d)=K4 r p
 | 0,_=>rfl
 | d+1,h=>by
  refine Eq.trans ?_ (q4h (r:=r) (p:=p) (d:=d) (fun j a b=>h j a (by omega)))
  show K4 r ((p+d)+1)=_
  conv=>lhs;unfold K4
  rw[h _ (by omega) (by omega)];rfl
theorem j5r {r:Raw} {p k:Nat} (hp:p<=k) (h:∀ j,p<=j->j<k->r.P j=false):K4 r k=K4 r p:=by
 obtain⟨d,rfl⟩:∃ d,k=p+d:=⟨k-p,by omega⟩
 exact q4h h
theorem q4i {r:Raw} {k:Nat} {b:Blk} (hP:r.P k=true) (hb:r.M (k:Int)=some b):K4 r (k+1)=K4 r k ++ [(k,b)]:=by
 conv=>lhs;unfold K4
 rw[hP,hb];rfl
theorem z3d (r:Raw):∀ p,(K4 r p).length<=p
 | 0=>Nat.le_refl _
 | p+1=>by
  have ih:=z3d r p;unfold K4;split
  ·split
   ·simp;omega
   ·omega
  ·omega
def bks (l:List (Nat × Blk)):List Value:=l.flatMap fun q=>[.int .i64 (q.1:Int),.int .i64 q.2.1,.int .i64 q.2.2.1,.int .i64 q.2.2.2.1,.int .i64 q.2.2.2.2]
theorem z7t (p:Nat × Blk) (l:List (Nat × Blk)):bks (p :: l)=.int .i64 (p.1:Int) :: .int .i64 p.2.1 :: .int .i64 p.2.2.1 :: .int .i64 p.2.2.2.1 :: .int .i64 p.2.2.2.2 :: bks l:=rfl
theorem q0d (a b:List (Nat × Blk)):bks (a ++ b)=bks a ++ bks b:=by unfold bks;rw[List.flatMap_append]
def F7 (w:World) (base:Nat) (v:Value) (l:List (Nat × Blk)):Prop:=w.ownsRow base 81 5 v l.length (bks l)
theorem W7 {w w':World} {base:Nat} {T:TypeId} {size n:Nat} {v:Value} {xs:List Value} (h:w.ownsRow base T size v n xs) (hb:∀ g o,v.ownBlock=some g->base<=g->w.heap[g]? = some o->w'.heap[g]? = some o):w'.ownsRow base T size v n xs:=by
 obtain⟨h1,h2⟩:=h;refine⟨h1,?_⟩;rcases h2 with h2 | ⟨g,cap,dI,rfl,h3,h4,h5⟩
 ·exact .inl h2
 ·exact .inr ⟨g,cap,dI,rfl,h3,hb g _ rfl h3 h4,h5⟩
theorem z2m {w w':World} {base x y:Nat} {T:TypeId} {size n:Nat} {v:Value} {xs:List Value} (h:w.ownsRow base T size v n xs) (o:Out x y w w') (hy:y<=base):w'.ownsRow base T size v n xs:=
 W7 h fun g ob _ hg hh=>o.heap hh (.inr (by omega))
theorem z7h {w:World} {base base':Nat} {T:TypeId} {size n:Nat} {v:Value} {xs:List Value} (h:w.ownsRow base T size v n xs) (hb:base'<=base):w.ownsRow base' T size v n xs:=by
 obtain⟨h1,h2⟩:=h;refine⟨h1,?_⟩;rcases h2 with h2 | ⟨g,cap,dI,rfl,h3,h4⟩
 ·exact .inl h2
 ·exact .inr ⟨g,cap,dI,rfl,by omega,h4⟩
theorem X0 {w:World} {base:Nat} {T:TypeId} {size n:Nat} {v:Value} {xs:List Value} (h:w.ownsRow base T size v n xs):∀ g,v.ownBlock=some g->base<=g/\g<w.heap.size:=by
 intro g hg;rcases h.2 with ⟨rfl,_⟩ | ⟨g',cap,dI,rfl,h3,h4,_⟩
 ·cases hg
 ·cases hg;exact⟨h3,Q7 h4⟩
theorem q3u {w w':World} {v:Value} {base:Nat} (h:w.grownBy w' v.ownBlock) (hb:∀ g,v.ownBlock=some g->base<=g):Out base w.heap.size w w':=
 ⟨h.os,h.tape,h.output,h.size,fun k h1 h2=>h.block k h1 (fun e=>by have:=hb k e.symm;omega)⟩
theorem q1w:(Tryz.prog.info? 81).map (fun i=>(i.zero,i.size,i.bytes))=some (some (.agg #[.int .i64 0,.int .i64 0,.int .i64 0,.int .i64 0,.int .i64 0]),5,40):=by kernel_rfl
section
variable {w:World} {lo hi n cap:Nat} {s:Nat->Nat} {r:Raw}
theorem q1i (h:RawAt w lo hi s n cap r) (hT:q1g r) {g:Nat} (hg:Box w g 76 (.pointer (some ⟨s 14,0,none⟩))) :
  Calls Tryz.prog 192 #[.slice none 0 0,.func (.func 184) #[] #[.pointer (some ⟨g,0,none⟩)]] w fun e w'=>∃ v,e=.returned v/\F7 w' w.heap.size v (K4 r (64*n))/\Out 0 0 w w':=by
 obtain⟨i0,mW,iI,hz1,iH⟩:=z0c q1w;have kQ:=Q3 h;have HTo:=Q3 hT;have HTt:Hid (hi<=w.heap.size/\4<=w.heap.size/\4<=lo/\n<=4096/\1<=n/\g<w.heap.size):=⟨h.top,h.tab.lt,h.glob,h.n2,h.n1,hg.lt⟩
 have HB0:=Q3 hg;clear h hT hg;refine(callsIn_wide (n:=0)).1 ?_;refine callsIn_of_wp_marks Tryz.func192 rfl trivial ?_ rfl;simp only[Tryz.ntmps192,List.size_toArray,List.length_cons,List.length_nil,Nat.reduceAdd,Nat.reduceSub,Array.replicate_succ,Array.replicate_zero,List.push_toArray,List.append_toArray,List.nil_append,List.cons_append];gi_wp2_with fail;obtain⟨W1,cC⟩:∃ W1,w.alloc (.cells #[.slice none 0 0] 60)=W1:=⟨_,rfl⟩
 obtain⟨G,hG⟩:∃ G,w.heap.size=G:=⟨_,rfl⟩
 have hs1:W1.heap.size=G+1:=by rw[<-cC,<-hG];simp
 have bM:Hid (Out 0 0 w W1):=by rw[<-cC];exact(Out.refl 0 0 w).alloc _
 have HX1:Hid (Box W1 G 60 (.slice none 0 0)):=by rw[<-cC,<-hG];exact heap_alloc_new _ _
 rw[cC,hG];rw[hG] at HTt;have HGw:=Q3 hG;clear cC hG;refine x0f (lo:=lo) (hi:=hi) (n:=n) (cap:=cap) (g:=g) (s:=s) rfl rfl
  (fun p W=>p<=64*n/\RawAt W lo hi s n cap r/\Box W g 76 (.pointer (some ⟨s 14,0,none⟩))/\(∃ v,Box W G 60 v/\F7 W (G+7) v (K4 r p))/\Out 0 0 w W)
  (fun W=>(∃ v,Box W G 60 v/\F7 W (G+7) v (K4 r (64*n)))/\Out 0 0 w W)
  (fun c W=>False) ?hm1 ?hq1 ?hqk1 ?hqx1 ?hy1 ?he1 ?hz1 ?hdone1 ?hstop1
 case hm1=>
  rintro p W ⟨hp,a1,a2,a3,a4⟩;exact⟨hp,_,a1,HTo.out,a2⟩
 case hq1=>
  rintro p W W' x y ⟨hp,a1,a2,⟨v,a3,a4⟩,a5⟩ o hx;have hT:=HTt.out;have hgw:=HGw.out;exact⟨hp,a1.kept o (by omega) (by omega),a2.kept o (by omega),⟨v,a3.kept o (by omega),z2m a4 o (by omega)⟩,Y5 a5 o (by omega)⟩
 case hqk1=>
  rintro W W' x y ⟨⟨v,a3,a4⟩,a5⟩ o hx;have hT:=HTt.out;have hgw:=HGw.out;exact⟨⟨v,a3.kept o (by omega),z2m a4 o (by omega)⟩,Y5 a5 o (by omega)⟩
 case hqx1=>exact fun c W W' x y h _ _=>h
 case hstop1=>exact fun c W h _=>h.elim
 case hz1=>exact⟨Nat.zero_le _,kQ.out.quiet bM.out,HB0.out.kept bM.out z0,⟨_,HX1.out,⟨rfl,.inl ⟨rfl,rfl⟩⟩⟩,bM.out⟩
 case he1=>
  rintro p W rr ⟨hp,a1,a2,⟨v,a3,a4⟩,a5⟩ hr hk;obtain⟨eP,eM⟩:=z6s a1 hr;rw[<-eP] at hk;rcases U4 r.P (64*n) p with ⟨_,hz⟩ | ⟨i,bQ,_⟩
  ·rw[j5r hp hz];exact⟨⟨v,a3,a4⟩,a5⟩
  ·have:(-1:Int)=i:=hk.symm.trans bQ;omega
 case hdone1=>
  rintro W ⟨⟨v,a3,a4⟩,a5⟩ hd;have c0:=a3.cell;have HD:=Q3 hd;have HA:=Q3 (And.intro a4 a5);clear a3 a4 a5 hd;gi_wp2;refine⟨by simp,.inl ⟨_,_,rfl,run_takeDeferred HD.out,?_⟩⟩;have hgw:=HGw.out;have o:=W6 W W1.heap.size (Obj.deferred none);have hl:F7 (W.putObj W1.heap.size (Obj.deferred none)) w.heap.size v (K4 r (64*n)):=z7h (z2m (show W.ownsRow (G+7) 81 5 v _ _ from HA.out.1) o (by omega)) (by omega);refine⟨_,results_tmp rfl _ _ _,_,rfl,?_⟩;exact⟨hl,Y5 HA.out.2 o (.inl (by omega))⟩
 case hy1=>
  rintro p W rr k b ⟨hp,a1,a2,⟨v,a3,a4⟩,a5⟩ hr hk hb gQ;obtain⟨eP,eM⟩:=z6s a1 hr;rw[<-eP] at hk;rw[<-eM] at hb;obtain⟨hpk,hkn,hPk,hz⟩:p<=k/\k<64*n/\r.P k=true/\∀ j,p<=j->j<k->r.P j=false:=by
   rcases U4 r.P (64*n) p with ⟨e1,_⟩ | ⟨i,e1,e2,e3,e4,e5⟩
   ·have:(-1:Int)=k:=e1.symm.trans hk;omega
   ·have:i=k:=by have:(i:Int)=k:=e1.symm.trans hk;omega
    subst this;exact⟨e3 hp,e2,e4,e5⟩
  rw[hs1] at gQ ⊢;have gT:=q4i hPk hb;rw[j5r hpk hz] at gT;obtain⟨b1,b2,b3,b4⟩:=b;have bZ:=z3d r p;have A:=Q3 (And.intro a1 (And.intro a2 (And.intro a3 (And.intro a4 (And.intro a5 gT)))));have HK:=Q3 (And.intro hpk (And.intro hkn (And.intro gQ (And.intro bZ hp))));clear a1 a2 a3 a4 a5 hr hk hb eP eM hz hPk hp hpk hkn gQ gT bZ;unfold j0t;dsimp only at A ⊢;obtain⟨WA,hWA⟩:∃ WA,W.alloc (bo (k:Int) b1 b2 b3 b4)=WA:=⟨_,rfl⟩
  have HBA:Hid (WA.heap[W.heap.size]? = some (bo (k:Int) b1 b2 b3 b4)):=by rw[<-hWA];exact heap_alloc_new _ _
  have jH:Hid (Out 0 0 W WA):=by rw[<-hWA];exact(Out.refl 0 0 W).alloc _
  have HSA:Hid (WA.heap.size=W.heap.size+1):=by rw[<-hWA];exact World.size_alloc _ _
  obtain⟨H,hH⟩:∃ H,W.heap.size=H:=⟨_,rfl⟩
  rw[hH] at HK HBA HSA;unfold bo at hWA HBA;gi_wp2;(try rw[hWA]);refine⟨(jH.out.any 0 _).sv,?_⟩;(try rw[hH]);clear hWA hH;intro W2 o2;have hT:=HTt.out;have hkk:=HK.out;have hgw:=HGw.out;have cV:=Q3 ((A.out.1.quiet jH.out).kept o2 (.inl (by omega)) (.inl (by omega)));have HG2:=Q3 ((A.out.2.1.kept jH.out z0).kept o2 (.inl (by omega)));have HX2:=Q3 ((A.out.2.2.1.kept jH.out z0).kept o2 (.inl (by omega)));have HL2:Hid (W2.ownsRow (G+7) 81 5 v (K4 r p).length (bks (K4 r p))):=z2m (z2m A.out.2.2.2.1 jH.out (Nat.zero_le _)) o2 (by omega);have jN:=Q3 (o2.heap HBA.out (.inr (by omega)));have aH:=Q3 (Y5 (A.out.2.2.2.2.1.trans jH.out) o2 (.inl (by omega)));have c0:=HX2.out.cell;have oH:Hid (H+1<=W2.heap.size):=by have:=o2.size;have:=HSA.out;show H+1<=_;omega
  have HA6:=Q3 A.out.2.2.2.2.2;obtain⟨q0,q1,q2,q3,q4⟩:=F0 jN.out;obtain⟨m,hm⟩:∃ m,(K4 r p).length=m:=⟨_,rfl⟩
  obtain⟨xs,hxs⟩:∃ xs,bks (K4 r p)=xs:=⟨_,rfl⟩
  rw[hm,hxs] at HL2;have HMm:Hid (m<=64*n/\n<=4096):=by show _/\_;omega
  have HL3:Hid ((W2.alloc (.cells #[.int .i64 (k:Int),.int .i64 b1,.int .i64 b2,.int .i64 b3,.int .i64 b4] 81)).ownsRow (G+7) 81 5 v m xs):=z2m HL2.out ((Out.refl 0 0 W2).alloc _) (Nat.zero_le _);have HN3:Hid (∀ j u,([.int .i64 (k:Int),.int .i64 b1,.int .i64 b2,.int .i64 b3,.int .i64 b4]:List Value)[j]? = some u->(W2.alloc (.cells #[.int .i64 (k:Int),.int .i64 b1,.int .i64 b2,.int .i64 b3,.int .i64 b4] 81)).cell? ((⟨W2.heap.size,0,none⟩:Addr).add j)=some u):=by
   intro j u hj;have hh:=heap_alloc_new W2 (.cells #[.int .i64 (k:Int),.int .i64 b1,.int .i64 b2,.int .i64 b3,.int .i64 b4] 81);have hj5:j<5:=by have:=(List.getElem?_eq_some_iff.1 hj).1;simpa using this
   have:j=0\/j=1\/j=2\/j=3\/j=4:=by omega
   rw[Addr.add_lit,Nat.zero_add];obtain⟨f0,f1,f2,f3,f4⟩:=F0 (a:=(k:Int)) (k:=b1) (z:=b2) (x:=b3) (t:=b4) hh;rcases this with rfl | rfl | rfl | rfl | rfl <;> (simp at hj;subst hj;assumption)
  have HG3:Hid (G+7<=(W2.alloc (.cells #[.int .i64 (k:Int),.int .i64 b1,.int .i64 b2,.int .i64 b3,.int .i64 b4] 81)).heap.size):=by
   show G+7<=_
   have:=oH.out;rw[World.size_alloc];omega
  have HV:=Q3 (X0 HL2.out);have HMX:=Q3 (And.intro hm hxs);clear hm hxs;gi_wp2_with (gi_at_builtin;refine wpListIn_append_own _ rfl _ _ 60 rfl (G+7) 81 i0 (.agg #[.int .i64 0,.int .i64 0,.int .i64 0,.int .i64 0,.int .i64 0]) 5 40 Tryz.underlying60 mW iI hz1 iH rfl (by decide) v m xs rfl HL3.out ⟨W2.heap.size,0,none⟩ 1 1 [.int .i64 (k:Int),.int .i64 b1,.int .i64 b2,.int .i64 b3,.int .i64 b4] rfl rfl HN3.out (by intro u hu;simp at hu;rcases hu with rfl | rfl | rfl | rfl | rfl <;> rfl) (by unfold maxLen;have:=HMm.out;omega) (by have:=HMm.out;omega) HG3.out ?_;intro v' w1 dN aV jS;obtain⟨g4,cap4,rfl,hg4,_⟩:=dN.form (by omega);have HP4:=Q3 dN;have bJ:=Q3 (q3u (base:=G+7) aV (fun g h=>(HV.out g h).1));have HX4:=Q3 ((HX2.out.kept ((Out.refl 0 0 W2).alloc (.cells #[.int .i64 (k:Int),.int .i64 b1,.int .i64 b2,.int .i64 b3,.int .i64 b4] 81)) z0).kept bJ.out (.inl (by omega)));have c4:=HX4.out.cell;have c5:w1.frozen? ⟨G,0,none⟩=false:=HX4.out.frozen;clear dN aV jS hg4);have o3:Out 0 0 W2 (W2.alloc (.cells #[.int .i64 (k:Int),.int .i64 b1,.int .i64 b2,.int .i64 b3,.int .i64 b4] 81)):=(Out.refl 0 0 W2).alloc _;have o5:Out G (G+1) w1 (w1.setCell ⟨G,0,none⟩ (.slice (some ⟨g4,0,none⟩) (m+1) cap4)):=(Out.refl _ _ _).setCell z1 _;have hB:=oH.out;refine⟨fun x ob h1 h2 hx=>o5.heap (bJ.out.heap (o3.heap hx z0) (.inl (by omega))) (.inr (by omega)),by omega,?_,?_,⟨_,HX4.out.set _,?_⟩,?_⟩
  ·exact((cV.out.quiet o3).kept bJ.out (.inl (by omega)) (.inl (by omega))).kept o5 (.inl (by omega)) (.inl (by omega))
  ·exact((HG2.out.kept o3 z0).kept bJ.out (.inl (by omega))).kept o5 (.inl (by omega))
  ·have:=z2m HP4.out o5 (by omega);unfold F7;rw[HA6.out,q0d,List.length_append,HMX.out.1,HMX.out.2];exact this
  ·exact Y5 (Y5 (aH.out.trans o3) bJ.out (.inl (by omega))) o5 (.inl (by omega))
theorem q6i (h:RawAt w lo hi s n cap r) (hT:q1g r) {g:Nat} (hg:Box w g 76 (Pq (s 14))) :
  Kz 148 #[.func (.func 184) #[] #[Pq g]] w fun e w'=>∃ v,e=.returned v/\F7 w' w.heap.size v (K4 r (64*n))/\Out 0 0 w w':=by
 have HA:=Q3 (q1i h hT hg);clear h hT hg;go_enter Tryz.func148,Tryz.ntmps148
 go_wp2_with (go_at_call 192;refine HA.out.mono ?_;rintro e w1 ⟨v,rfl,hl,ho⟩);go_ret;exact⟨v,rfl,hl,ho⟩
theorem q5f (h:RawAt w lo hi s n cap r) (hT:q1g r) :
  Kz 88 #[Pq (s 14)] w fun e w'=>∃ v,e=.returned v/\F7 w' w.heap.size v (K4 r (64*n))/\Out 0 0 w w':=by
 have ho0:Out 0 0 w (w.alloc (.cells #[Pq (s 14)] 76)):=(Out.refl 0 0 w).alloc _;have HC:=Q3 (q6i (h.quiet ho0) hT (heap_alloc_new w (.cells #[Pq (s 14)] 76)));have HL:=Q3 (z9n (s 14) w);have HO0:=Q3 ho0;clear h hT ho0;go_enter Tryz.func88,Tryz.ntmps88
 go_wp2_with (first | (go_at_call 137;refine HL.out.mono ?_;rintro e w1 ⟨rfl,rfl⟩) | (go_at_call 148;refine HC.out.mono ?_;rintro e w1 ⟨v,rfl,hl,ho⟩));go_ret;exact⟨v,rfl,z7h hl (by simp),HO0.out.trans ho⟩
end
end Go.Proofs.YtjgnogflgoihfaaGreatDoor
namespace Go.Proofs.YtjgnogflgoihfaaGreatDoor
open Go.RowKit
theorem j4x {n:Nat} {st:Sp} (hi:Inv n st):U7 n (Q6 n st):=by
 intro a b h;obtain⟨j,rfl,hj⟩:=j5k hi a b h;obtain⟨rfl,hh⟩:=z4x h;have h1:=q5e hi hh;have h2:=U3 (hi.objs j hh).2.1;exact⟨by omega,by omega,h2.2.2.1,h2.2.2.2⟩
theorem j3k {w:World} {g:Nat} {a k z x t:Int} (h:w.heap[g]? = some (bo a k z x t)):∀ j u,([.int .i64 a,.int .i64 k,.int .i64 z,.int .i64 x,.int .i64 t]:List Value)[j]? = some u->w.cell? ((⟨g,0,none⟩:Addr).add j)=some u:=by
 intro j u hj;have hj5:j<5:=by have:=(List.getElem?_eq_some_iff.1 hj).1;simpa using this
 have:j=0\/j=1\/j=2\/j=3\/j=4:=by omega
 rw[Addr.add_lit,Nat.zero_add];obtain⟨f0,f1,f2,f3,f4⟩:=F0 h;rcases this with rfl | rfl | rfl | rfl | rfl <;> (simp at hj;subst hj;assumption)
section
variable {w:World} {lo hi n cw co:Nat} {s:Nat->Nat} {st:Sp}
theorem q4q (h:RfAt w lo hi s n cw co st) (hI:Inv n st) (a i v:Int):Kz 84 #[Pq (s 0),Iz a,Iz i,Iz v] w fun e w'=>e=.returned (z7d (q3a (Q6 n st) a i) (z4z (Q6 n st) a))/\RfAt w' lo hi s n cw co { st with W:=wrW (Q6 n st) a i v }/\Out lo hi w w':=by
 have h2:=h.n2;have ht:=h.top;have o1:Out 0 0 w (w.alloc (Dz 0 0 111)):=(Out.refl 0 0 w).alloc _;have f1:(w.alloc (Dz 0 0 111)).heap[w.heap.size]? = some (Dz 0 0 111):=heap_alloc_new _ _;have hC:=q8b (h.quiet o1) hI a i;obtain⟨e2,oQ⟩:∃ e2,z4z (Q6 n st) a=e2:=⟨_,rfl⟩
 obtain⟨e3,he3⟩:∃ e3,q3a (Q6 n st) a i=e3:=⟨_,rfl⟩
 rw[oQ,he3] at hC;unfold z7d at hC;have HC:=Q3 hC;have hW:Hid (wrW (Q6 n st) a i v=if e3=0 then z2p st.W (a+i).toNat v else st.W):=by
  show _=_
  unfold wrW;rw[he3];rfl
 rw[oQ,he3];have H1:=Q3 (And.intro o1 f1);have HR:=Q3 (And.intro h hI);have HE:=Q3 (And.intro oQ he3);have HT:=Q3 ht;clear h hI hC o1 f1 oQ he3 ht;go_enter Tryz.func84,Tryz.ntmps84
 go_wp2_with fail;refine HC.out.mono ?_;rintro e w1 ⟨rfl,ho⟩;have fF:=ho.heap H1.out.2 Oz;have oB:Out 0 0 w1 (w1.alloc (Dz e3 e2 111)):=(Out.refl 0 0 w1).alloc _;have fB:=oB.heap fF Oz;have fN:(w1.alloc (Dz e3 e2 111)).heap[w1.heap.size]? = some (Dz e3 e2 111):=heap_alloc_new _ _;obtain⟨F,hF⟩:∃ F,w.heap.size=F:=⟨_,rfl⟩
 rw[hF] at fF fB ⊢;have dD:=Q7 fF;have HO:=Q3 ((H1.out.1.trans ho).trans oB);have hs1:=HR.out.1.inn 1 (by omega);have htop:=HT.out;have kN:Hid (w.heap.size=F/\F<w1.heap.size/\s 1<F/\hi<=F):=by show _/\_;omega
 have hh:=HR.out.1.quiet HO.out;by_cases h0:e3=0
 ·subst h0;obtain⟨hA,j,hj,hjn,ha0,hi1⟩:=wrd0 (j4x HR.out.2) HE.out.2;have he:e2=0:=by rw[<-HE.out.1];exact hA
  subst he;have c0:=hh.cells.1;obtain⟨M,hM⟩:∃ M,64*n=M:=⟨_,rfl⟩
  rw[hM] at c0;have d0:=hh.rw.cell (i:=j) hjn;have d1:=hh.rw.frozen j;obtain⟨y,hy⟩:∃ y,st.W j=y:=⟨_,rfl⟩
  (try dsimp only at d0);rw[hy] at d0;have HSet:=Q3 (hh.setW hjn v);have oS:Out (s 1) (s 1+1) (w1.alloc (Dz 0 0 111)) ((w1.alloc (Dz 0 0 111)).setCell ⟨s 1,j,none⟩ (Iz v)):=(Out.refl _ _ _).setCell (p:=⟨s 1,j,none⟩) Lz _;have fS:=oS.heap fB (.inr (by have:=kN.out;omega));have fT:=oS.heap fN (.inr (by have:=kN.out;omega));obtain⟨x0,x1,x2,x3⟩:=flt_facts fS;obtain⟨y0,y1,y2,y3⟩:=flt_facts fT;obtain⟨z0,z1,z2,z3⟩:=flt_facts fN;have j0:(0:Int)<=(j:Int):=by omega
  have j1:(j:Int)<(M:Int):=by omega
  have j2:(M:Int)<=262144:=by omega
  have HFS:=Q3 fS;have HJ:Hid (wrW (Q6 n st) a i v=z2p st.W j v):=by
   show _=_
   rw[hW.out,if_pos rfl,hj,show ((j:Nat):Int).toNat=j from by omega]
  clear fF fB fN fS fT oB oS ho hF dD hs1 htop hh hA hjn hM hy ha0 hi1 h2;go_wp2;refine q2p (g:=F) Tryz.results84 rfl rfl (z4w HFS.out _ _) ⟨rfl,?_,?_⟩
  ·rw[HJ.out];exact HSet.out.1.kept (((Out.refl F (F+1) _).setCell (p:=⟨F,0,none⟩) Lz _).setCell (p:=⟨F,1,none⟩) Lz _) (.inl (by have:=kN.out;omega))
  ·exact Y5 ((HO.out.any _ _).trans HSet.out.2) (((Out.refl F (F+1) _).setCell (p:=⟨F,0,none⟩) Lz _).setCell (p:=⟨F,1,none⟩) Lz _) (.inl (by have:=kN.out;omega))
 ·have h0b:(e3 == 0)=false:=by simpa using h0
  obtain⟨x0,x1,x2,x3⟩:=flt_facts fB;obtain⟨z0,z1,z2,z3⟩:=flt_facts fN;have HFS:=Q3 fB;have HJ:Hid (wrW (Q6 n st) a i v=st.W):=by show _=_;rw[hW.out,if_neg h0]
  have HH:=Q3 hh;clear fF fB fN oB ho hF dD hs1 htop hh h2;go_wp2;refine q2p (g:=F) Tryz.results84 rfl rfl (z4w HFS.out _ _) ⟨rfl,?_,?_⟩
  ·rw[HJ.out];exact HH.out.kept (((Out.refl F (F+1) _).setCell (p:=⟨F,0,none⟩) Lz _).setCell (p:=⟨F,1,none⟩) Lz _) (.inl (by have:=kN.out;omega))
  ·exact(Y5 HO.out (((Out.refl F (F+1) _).setCell (p:=⟨F,0,none⟩) Lz _).setCell (p:=⟨F,1,none⟩) Lz _) (.inl (by have:=kN.out;omega))).any _ _
end
theorem j0a {fn:Func} {p u:Tmp} {a:Act} {w:World} {g:Nat} {x y:Int} {v:Value} {post:Ending->World->Prop} (hr:fn.results = #[.tmp u,.cell p 111]) (hp:a.tmps.getD p undef=.pointer (some ⟨g,0,none⟩)) (hu:a.tmps.getD u undef=v)
  (hd:a.defers=[]) (hg:w.heap[g]? = some (.cells #[.int .i64 x,.int .i64 y] 111 (0,0))) (h:post (.returned (.tuple #[v,z7d x y])) w):bodyPost Tryz.prog fn post Exit.ret a w:=by
 refine bodyPost_ret (v:=.tuple #[v,z7d x y]) ?_ hd h;have hp':a.tmps[p]?.getD undef=.pointer (some ⟨g,0,none⟩):=by simpa using hp
 have hu':a.tmps[u]?.getD undef=v:=by simpa using hu
 simp[results,hr,hp',hu',asAddr,run_loadVar_row w g 111 111 _ (0,0) _ hg Tryz.underlying111 rfl x1z,z7d]
theorem q7s {w:World} {b bw n:Nat} {S:Nat->Int × Int × Int} (h:TblAt 144 w b bw n S) (hw:4<=w.heap.size) :
  Kz 162 #[Pq b] w fun e w'=>∃ b' bw',e=.returned (Pq b')/\TblAt 144 w' b' bw' n S/\w.heap.size<=b'/\w.heap.size<=bw'/\Out 0 0 w w':=by
 obtain⟨cap,c0,_⟩:=h.cell;obtain⟨i0,mW,iI,hz1,iH⟩:=z0c z5m;have HN:=Q3 h.nums;have HG:=Q3 h.good;have HW:=Q3 hw;have HNE:Hid (∀ j u,(pgs (pgl S n))[j]? = some u->w.cell? ((⟨bw,0,none⟩:Addr).add j)=some u):=by
  intro j u hj;have hjk:j<n*3:=by
   have:=(List.getElem?_eq_some_iff.1 hj).1;rw[z6r,z2n] at this;exact this
  rw[z8b S n hjk] at hj;cases hj;rw[Addr.add_lit,Nat.zero_add];exact Row.cell h.row hjk
 clear h hw;go_enter Tryz.func162,Tryz.ntmps162
 go_wp2_with (at_builtin;refine wpList_append_own _ rfl _ _ 71 rfl w.heap.size 189 i0 (.agg #[Iz 0,Iz 0,Iz 0]) 3 24 Tryz.underlying71 mW iI hz1 iH rfl (by decide) (.slice none 0 0) 0 [] rfl (World.ownsRow_nil _ _ _ 3) ⟨bw,0,none⟩ n cap (pgs (pgl S n)) rfl (by rw[z6r,z2n]) HNE.out (q7p _) (by unfold maxLen;have:=HN.out;omega) (by have:=HN.out;omega) (Nat.le_refl _) ?_;intro v' w1 dN aV jS;rw[Nat.zero_add,List.nil_append] at dN;obtain⟨g,cT,rfl,hg,_⟩:=dN.form (by have:=HN.out;omega);have HO:Hid (Out 0 0 w w1):=⟨aV.os,aV.tape,aV.output,aV.size,fun j h1 h2=>aV.block j h1 (by simp[Value.ownBlock])⟩;have HL:Hid (ListIs w1 w.heap.size (Sz g n cT) (pgl S n)):=(by show World.ownsRow _ _ _ _ _ _ _;rw[z2n];exact dN);clear dN aV jS hg);go_ret;obtain⟨t1,t2,t3⟩:=x1d (T:=144) HW.out HO.out HL.out HN.out.1 HN.out.2.1 HG.out;exact⟨_,g,rfl,t1,t3,t2,HO.out.alloc _⟩
def j7x (n:Nat) (st:Sp) (z:Int):Int:=match z0n n st z with | some (a,_)=>(a:Int) | none=>-1
def j7w (n:Nat) (st:Sp) (z:Int):Bool:=match z0n n st z with | some (_,b)=>b | none=>false
section
variable {w:World} {lo hi n cw co:Nat} {s:Nat->Nat} {st:Sp}
theorem q4p (h:RfAt w lo hi s n cw co st) {z:Int} (z1:1<=z) (z2:z<=1024):Kz 116 #[Pq (s 0),Iz z] w fun e w'=>e=.returned (.tuple #[Iz (j7x n st z),.bool (j7w n st z)])/\Out 0 0 w w':=by
 have h2:=h.n2;have hg:4<=w.heap.size:=by have:=h.glob;have:=h.top;have:=h.inn 0 (by omega);omega
 have HOf:=Q3 (fun w=>z4j z w);have HPg:=Q3 (fun w=>z4k z w);have eK:=Q3 (q7s h.rt hg);have c1:=h.cells.2.1;have HH:=Q3 h;by_cases hz:z<=32
 ·have hs:=H7 z1 hz;obtain⟨c,hc⟩:∃ c:Nat,ofV z=(c:Int):=⟨(ofV z).toNat,by omega⟩
  rw[hc] at HOf;have c8:c<8:=by omega
  have ci0:(0:Int)<=(c:Int):=by omega
  have ci1:(c:Int)<=7:=by omega
  have ci8:((c:Int) == 8)=false:=by simp;omega
  have HP:Hid (z0n n st z=if 0<=nf n st (c:Int) 0 then some ((nf n st (c:Int) 0).toNat,false) else (z0a st.S n 1).map fun p=>(64*p,true)):=by
   show _=_
   unfold z0n;rw[if_neg (by omega),hc]
  clear h hg z1 z2 hz hs hc;go_enter Tryz.func116,Tryz.ntmps116
  go_wp2_with (go_at_call 117;refine Q4 (HOf.out _) ?_);refine eK.out.mono ?_;rintro e w1 ⟨b',bw',rfl,ht,mU,hb2,gJ⟩;have HN:=Q3 (z2b (HH.out.quiet gJ) c8 (f:=0) (by omega));have HT:=Q3 (z3r ht (c:Int));have bM:=Q3 (And.intro gJ (And.intro mU hb2));obtain⟨y,hy⟩:∃ y,nf n st (c:Int) 0=y:=⟨_,rfl⟩
  have hym:y<=262144:=by rw[<-hy];unfold nf;have:=x6w (fr n st (c:Int)) (64*n) 0;omega
  rw[hy] at HN HP;clear ht mU hb2 gJ hy eK c1;go_wp2_with fail;refine HN.out.mono ?_;rintro e wx ⟨rfl,hwx⟩;rw[hwx];clear hwx wx;by_cases h0:0<=y
  ·have HQ:=Q3 HP.out;rw[if_pos h0] at HQ;go_wp2;go_ret2;refine⟨?_,bM.out.1⟩;unfold j7x j7w;rw[HQ.out]
   show Ending.returned (Value.tuple #[Iz y,.bool false])=.returned (.tuple #[Iz ((y.toNat:Nat):Int),.bool false])
   rw[show ((y.toNat:Nat):Int)=y from by omega]
  ·have HQ:=Q3 HP.out;rw[if_neg h0] at HQ;have hcb:H9 (c:Int)=true:=by unfold H9;simp;omega
   have hE:tcE st.S n (c:Int)=if (z0a st.S n 1).isSome then 0 else 20:=by unfold tcE;rw[hcb];rfl
   have hP:tcP st.S n (c:Int)=(z0a st.S n 1).getD 0:=by unfold tcP;rw[hcb];rfl
   rw[hE,hP] at HT;clear hE hP hcb;go_wp2_with fail;refine HT.out.mono ?_;rintro e w2 ⟨rfl,_,eH⟩;have aH:=Q3 (Y5 bM.out.1 eH (.inl bM.out.2.2));clear eH HT;cases hr:z0a st.S n 1 with
   | none=>
    rw[hr] at HQ;go_wp2;go_ret2;refine⟨?_,aH.out⟩;unfold j7x j7w;rw[HQ.out];rfl
   | some p=>
    rw[hr] at HQ;have hp:=(z0v hr).1;have p0:(0:Int)<=(p:Int):=by omega
    have p1:(p:Int)<=4096:=by omega
    go_wp2;go_ret2;refine⟨?_,aH.out⟩;unfold j7x j7w;rw[HQ.out]
    show Ending.returned (Value.tuple #[Iz ((p:Int)*64),.bool true])=.returned (.tuple #[Iz ((64*p:Nat):Int),.bool true])
    rw[show ((64*p:Nat):Int)=(p:Int)*64 from by omega]
 ·have hk:=q4w (s:=z) (by omega) z2;obtain⟨k,hkk⟩:∃ k,((z+63) / 64).toNat=k:=⟨_,rfl⟩
  rw[hkk] at hk;have h8:ofV z=8:=by unfold ofV;omega
  have hpg:B5 z=(k:Int):=by unfold B5;rw[if_pos (by omega),hk.2.2]
  rw[h8] at HOf;rw[hpg] at HPg;have HP:Hid (z0n n st z=(z0a st.S n k).map fun p=>(64*p,false)):=by
   show _=_
   unfold z0n;rw[if_pos (by omega),hkk]
  have HK:=Q3 (And.intro hk.1 hk.2.1);clear h hg z1 z2 hz hk hkk h8 hpg;go_enter Tryz.func116,Tryz.ntmps116
  go_wp2_with (go_at_call 117;refine Q4 (HOf.out _) ?_);refine eK.out.mono ?_;rintro e w1 ⟨b',bw',rfl,ht,mU,hb2,gJ⟩;have hT:=q0a ht (k:Int);have hcb:j2f (k:Int)=true:=by have:=HK.out;unfold j2f;simp;omega
  have hE:trE st.S n (k:Int)=if (z0a st.S n k).isSome then 0 else 20:=by unfold trE;rw[hcb];rfl
  have hP:trP st.S n (k:Int)=(z0a st.S n k).getD 0:=by unfold trP;rw[hcb];rfl
  rw[hE,hP] at hT;have HT:=Q3 hT;have bM:=Q3 (And.intro gJ (And.intro mU hb2));clear ht mU hb2 gJ eK c1 hE hP hcb hT;go_wp2_with (go_at_call 164;refine Q4 (HPg.out _) ?_);refine HT.out.mono ?_;rintro e w2 ⟨rfl,_,eH⟩;have aH:=Q3 (Y5 bM.out.1 eH (.inl bM.out.2.2));clear eH HT;cases hr:z0a st.S n k with
  | none=>
   rw[hr] at HP;go_wp2;go_ret2;refine⟨?_,aH.out⟩;unfold j7x j7w;rw[HP.out];rfl
  | some p=>
   rw[hr] at HP;have hp:=(z0v hr).1;have p0:(0:Int)<=(p:Int):=by omega
   have p1:(p:Int)<=4096:=by omega
   go_wp2;go_ret2;refine⟨?_,aH.out⟩;unfold j7x j7w;rw[HP.out]
   show Ending.returned (Value.tuple #[Iz ((p:Int)*64),.bool false])=.returned (.tuple #[Iz ((64*p:Nat):Int),.bool false])
   rw[show ((64*p:Nat):Int)=(p:Int)*64 from by omega]
end
section
variable {w:World} {lo hi n cw co:Nat} {s:Nat->Nat} {st:Sp}
theorem x4i {p:Nat} (hI:Inv n st) (hb:Y6 (st.O p)=false):K4 (Q6 n st) (p+1)=K4 (Q6 n st) p:=by
 have:(Q6 n st).P p=false:=by show ob n st p=false;rw[q4g hI];exact hb
 conv=>lhs;unfold K4
 rw[this];rfl
theorem x4q {p:Nat} (hb:Y6 (st.O p)=true):(Q6 n st).M (p:Int)=some (st.O p):=by
 show obM st (p:Int)=_
 unfold obM;rw[show ((p:Nat):Int).toNat=p from by omega,if_pos ⟨by omega,hb⟩]
theorem x0p {p:Nat} (hI:Inv n st):(Q6 n st).P p=Y6 (st.O p):=by show ob n st p=_;rw[q4g hI]
theorem x0d {p:Nat} (hI:Inv n st) (hb:Y6 (st.O p)=true):K4 (Q6 n st) (p+1)=K4 (Q6 n st) p ++ [(p,st.O p)]:=
 q4i (by rw[x0p hI];exact hb) (x4q hb)
theorem z3g (h:RfAt w lo hi s n cw co st) (hI:Inv n st):Kz 20 #[Pq (s 0)] w fun e w'=>∃ v,e=.returned v/\F7 w' w.heap.size v (K4 (Q6 n st) (64*n))/\Out 0 0 w w':=by
 obtain⟨i0,mW,iI,hz1,iH⟩:=z0c q1w;have h2:=h.n2;obtain⟨M,hM⟩:∃ M,64*n=M:=⟨_,rfl⟩
 have M1:(M:Int)<=262144:=by omega
 have M0:(0:Int)<=(M:Int):=by omega
 have HH:=Q3 h;have HM:=Q3 hM;have HI:=Q3 hI;rw[hM];have HS0:Hid (hi<=w.heap.size/\4<=w.heap.size):=by
  have:=h.glob;have:=h.top;have:=h.inn 0 (by omega);exact⟨h.top,by omega⟩
 have b0:F7 w w.heap.size (.slice none 0 0) (K4 (Q6 n st) 0):=⟨rfl,.inl ⟨rfl,rfl⟩⟩
 have HB0:=Q3 b0;clear h h2 hM hI b0;go_enter Tryz.func20,Tryz.ntmps20
 go_wp2_with fail;go_loopw [3,4] (fun l u wr=>∃ (a:Nat) (v:Value),l=v/\u=Iz (a:Int)/\a<=M/\F7 wr w.heap.size v (K4 (Q6 n st) a)/\Out 0 0 w wr) (fun _ u _=>M-(intOf u).toNat)
 case atStart=>exact⟨0,_,rfl,rfl,Nat.zero_le _,HB0.out,Out.refl _ _ _⟩
 case round=>
  obtain⟨a,_,rfl,rfl,ab,hL,hO⟩:=hrel;have a0:(0:Int)<=(a:Int):=by omega
  have hR:=HH.out.quiet hO;have c2:=hR.cells.2.2.1;rw[HM.out] at c2;have HL:=Q3 hL;have HO:=Q3 hO;have HR:=Q3 hR;clear hL hO hR;by_cases ha:a<M
  ·have a1:(a:Int)<(M:Int):=by omega
   have hm:=HM.out;have d0:=HR.out.ro.cell (i:=a*5) (by omega);have d1:=HR.out.ro.cell (i:=a*5+1) (by omega);have d2:=HR.out.ro.cell (i:=a*5+2) (by omega);have d3:=HR.out.ro.cell (i:=a*5+3) (by omega);have d4:=HR.out.ro.cell (i:=a*5+4) (by omega);cases hb:Y6 (st.O a) with
   | false=>
    rw[z5r,hb,if_neg (by simp)] at d1;have HN:=Q3 (x4i HI.out hb);clear hb d0 d2 d3 d4 hm;go_wp2_with fail;exact⟨⟨a+1,u3,rfl,by congr 1,by omega,by rw[HN.out];exact HL.out,HO.out⟩,by simp[intOf] <;> omega⟩
   | true=>
    obtain⟨o0,o1,o2,o3,o4⟩:=q4e (st:=st) hb;have HN:=Q3 (x0d HI.out hb);obtain⟨b1,b2,b3,b4,hO⟩:∃ b1 b2 b3 b4,st.O a=(b1,b2,b3,b4):=⟨_,_,_,_,rfl⟩
    rw[hO] at o1 o2 o3 o4 HN;dsimp only at o1 o2 o3 o4;rw[o0] at d0;rw[o1] at d1;rw[o2] at d2;rw[o3] at d3;rw[o4] at d4;have oP:b1 ≠ 0:=by rw[hO] at hb;unfold Y6 at hb;simpa using hb
    have hkb:(b1 != 0)=true:=by simpa using oP
    have bZ:=z3d (Q6 n st) a;obtain⟨m,hmm⟩:∃ m,(K4 (Q6 n st) a).length=m:=⟨_,rfl⟩
    obtain⟨xs,hxs⟩:∃ xs,bks (K4 (Q6 n st) a)=xs:=⟨_,rfl⟩
    have hl:=HL.out;unfold F7 at hl;rw[hmm,hxs] at hl;have HMX:=Q3 (And.intro hmm hxs);have HV:=Q3 (X0 hl);have HMm:Hid (m<=262144):=by show _<=_;omega
    have HL3:Hid ((wr.alloc (Ez (a:Int) b1 b2 b3 b4 81)).ownsRow w.heap.size 81 5 u3 m xs):=z2m hl ((Out.refl 0 0 wr).alloc _) (Nat.zero_le _);have HN3:=Q3 (j3k (heap_alloc_new wr (Ez (a:Int) b1 b2 b3 b4 81)));have HG3:Hid (w.heap.size<=(wr.alloc (Ez (a:Int) b1 b2 b3 b4 81)).heap.size):=by
     show _<=_
     have:=HO.out.size;rw[World.size_alloc];omega
    have fG:s 4 ≠ wr.heap.size:=by have:=HR.out.inn 4 (by omega);have:=HR.out.top;omega
    clear hb hO hmm hxs hl bZ o0 o1 o2 o3 o4 hm;go_wp2_with (at_builtin;refine wpList_append_own _ rfl _ _ 60 rfl w.heap.size 81 i0 (Wz 0 0 0 0 0) 5 40 Tryz.underlying60 mW iI hz1 iH rfl (by decide) u3 m xs rfl HL3.out ⟨wr.heap.size,0,none⟩ 1 1 [Iz (a:Int),Iz b1,Iz b2,Iz b3,Iz b4] rfl rfl HN3.out (by intro u hu;simp at hu;rcases hu with rfl | rfl | rfl | rfl | rfl <;> rfl) (by unfold maxLen;have:=HMm.out;omega) (by have:=HMm.out;omega) HG3.out ?_;intro v' w1 dN aV jS;have HP4:=Q3 dN;have bJ:=Q3 (q3u (base:=w.heap.size) aV (fun g h=>(HV.out g h).1));clear dN aV jS);have o3:Out 0 0 wr (wr.alloc (Ez (a:Int) b1 b2 b3 b4 81)):=(Out.refl 0 0 wr).alloc _;refine⟨⟨a+1,v',rfl,by congr 1,by omega,?_,Y5 (HO.out.trans o3) bJ.out (.inl (Nat.le_refl _))⟩,by simp[intOf] <;> omega⟩;unfold F7;rw[HN.out,q0d,List.length_append,HMX.out.1,HMX.out.2];exact HP4.out
  ·have e:a=M:=by omega
   subst e;go_wp2;go_ret;exact⟨u3,rfl,HL.out,HO.out⟩
end
theorem q6x (n:Nat) (st:Sp) (c:Int) {f:Nat} (hf:f<=64*n):∃ f',f<=f'/\((nf n st c f = -1/\64*n<=f')\/(nf n st c f=(f':Int)/\f'<64*n/\fr n st c f'=true))/\∀ k,f<=k->k<f'->k<64*n->fr n st c k=false:=by
 unfold nf;rcases U4 (fr n st c) (64*n) f with ⟨e,h⟩ | ⟨i,e,i1,i2,i3,i4⟩
 ·exact⟨64*n,hf,.inl ⟨e,Nat.le_refl _⟩,fun k h1 _ h3=>h k h1 h3⟩
 ·exact⟨i,i2 hf,.inr ⟨e,i1,i3⟩,fun k h1 h2 _=>i4 k h1 h2⟩
theorem made5 {i k:Nat} (h:i<k):(madeCells #[Value.int .i64 0,.int .i64 0,.int .i64 0,.int .i64 0,.int .i64 0] k)[i]? = some (.int .i64 0):=by
 have:i % 5=0\/i % 5=1\/i % 5=2\/i % 5=3\/i % 5=4:=by omega
 simp[madeCells,h];rcases this with e | e | e | e | e <;> simp[e]
theorem j5l (m:Nat) (hm:m<=262144):∃ dI:Array Value,(∀ i,i<m*5->dI[i]? = some (.int .i64 0))/\dI.size=m*5/\∀ w:World,(Instr.makeSlice 60 (.int .i64 (m:Int)) (.int .i64 (m:Int))).run Tryz.prog w=.ok (.slice (some ⟨w.heap.size,0,none⟩) m m) (w.alloc (.cells dI 81)):=by
 obtain⟨i0,hi,iI,hz1,iH⟩:=z0c q1w;refine⟨madeCells #[Value.int .i64 0,.int .i64 0,.int .i64 0,.int .i64 0,.int .i64 0] (m*5),fun i h=>made5 h,size_madeCells _ _,fun w=>?_⟩;have:=run_make (P:=Tryz.prog) w 60 81 i0 _ Tryz.underlying60 hi iI .i64 .i64 (m:Int) (m:Int) (by omega) (Int.le_refl _) (by rw[iH];omega) (by omega);rw[this,hz1];simp[Value.cells]
theorem j5m (m:Nat) (hm:m<=262144):∃ dI:Array Value,(∀ i,i<m->dI[i]? = some (.int .i64 0))/\dI.size=m/\∀ w:World,(Instr.makeSlice 70 (.int .i64 (m:Int)) (.int .i64 (m:Int))).run Tryz.prog w=.ok (.slice (some ⟨w.heap.size,0,none⟩) m m) (w.alloc (.cells dI 3)):=
 ⟨madeCells #[Value.int .i64 0] m,fun i h=>x6o h,size_madeCells _ _,fun w=>run_make_row' (P:=Tryz.prog) 70 3 (.int .i64 0) 8 Tryz.underlying70 (by kernel_rfl) rfl .i64 .i64 m (by omega) (by omega) w⟩
def rfS (bs bA tb tw bO:Nat) (i:Nat):Nat:=if i=0 then bs else if i=1 then bA else if i=2 then tb else if i=3 then tw else bO
theorem x2n {W:World} {lo n M bs bA tb tw bO:Nat} {cA cO:Array Value} (hM:64*n=M) (h1:1<=n) (h2:n<=4096) (hg:4<=lo)
  (hi:(lo<=bs/\lo<=bA/\lo<=tb/\lo<=tw/\lo<=bO)/\(bs<W.heap.size/\bA<bs/\tb<bs/\tw<bs/\bO<bs)) (fG:bA ≠ bO/\tb<bA/\tw<bA/\tb<bO/\tw<bO/\tb ≠ tw)
  (fB:W.heap[bs]? = some (.cells #[.slice (some ⟨bA,0,none⟩) M M,.pointer (some ⟨tb,0,none⟩),.slice (some ⟨bO,0,none⟩) M M,.int .i64 0] 107))
  (fA:W.heap[bA]? = some (.cells cA 3)) (fO:W.heap[bO]? = some (.cells cO 81)) (aA:∀ i,i<M->cA[i]? = some (.int .i64 0)) (sA:cA.size=M) (aO:∀ i,i<M*5->cO[i]? = some (.int .i64 0)) (sO:cO.size=M*5)
  (ht:TblAt 144 W tb tw n (fun _=>(0,0,0))):RfAt W lo W.heap.size (rfS bs bA tb tw bO) n (64*n) (64*n) newSp:=by
 subst hM;refine⟨h1,h2,Nat.le_refl _,hg,?_,?_,fB,⟨cA,fA,by omega,fun i hi=>aA i hi⟩,ht,⟨cO,fO,by omega,fun i hi=>?_⟩⟩
 ·intro i hi5;have:i=0\/i=1\/i=2\/i=3\/i=4:=by omega
  rcases this with rfl | rfl | rfl | rfl | rfl <;> simp[rfS] <;> omega
 ·intro i j hi5 hj5;have a:i=0\/i=1\/i=2\/i=3\/i=4:=by omega
  have b:j=0\/j=1\/j=2\/j=3\/j=4:=by omega
  rcases a with rfl | rfl | rfl | rfl | rfl <;> rcases b with rfl | rfl | rfl | rfl | rfl <;> simp[rfS] <;> omega
 ·rw[aO i hi]
  show _=some (Value.int .i64 (obC newSp i))
  unfold obC;rfl
theorem j1y (n:Int) (h:q9p n=false) (w:World):Kz 57 #[Iz n] w fun e w'=>e=.returned (.tuple #[.pointer none,Iz 1])/\w'=w:=by
 have HP:=Q3 (fun w=>j6k n h w);clear h;go_enter Tryz.func57,Tryz.ntmps57
 go_wp2_with (go_at_call 112;refine Q4 (HP.out _) ?_);go_ret2;exact⟨rfl,rfl⟩
theorem q7w {w:World} (hg:4<=w.heap.size) (n:Nat) (h1:1<=n) (h2:n<=4096) :
  Kz 57 #[Iz n] w fun e w'=>∃ s,e=.returned (.tuple #[Pq (s 0),Iz 0])/\RfAt w' w.heap.size w'.heap.size s n (64*n) (64*n) newSp/\Out 0 0 w w':=by
 have HP:=Q3 (j1z hg n h1 h2);obtain⟨M,hM⟩:∃ M,64*n=M:=⟨_,rfl⟩
 obtain⟨cA,aA,sA,hmA⟩:=j5m M (by omega);obtain⟨cO,aO,sO,hmO⟩:=j5l M (by omega);have b0:(1:Int)<=(n:Int):=by omega
 have b1:(n:Int)<=4096:=by omega
 have e4:((0:Int) != 0)=false:=rfl;have hcm:(n:Int)*64=(M:Int):=by omega
 have HF:=Q3 (And.intro aA (And.intro sA (And.intro aO (And.intro sO (And.intro hM (And.intro h1 (And.intro h2 hg)))))));clear aA sA aO sO hM h1 h2 hg;go_enter Tryz.func57,Tryz.ntmps57
 go_wp2_with (first | (go_at_call 112;refine HP.out.mono ?_;rintro e w1 ⟨rfl,ht,ho,hs⟩;have HTb:=Q3 ht;have bM:=Q3 ho;have HS1:=Q3 hs;clear ht ho hs));obtain⟨tb,htb⟩:∃ tb,w.heap.size+1=tb:=⟨_,rfl⟩
 rw[htb] at HTb ⊢;have HTB:=Q3 htb;clear htb;refine wp_region_held_drew (S:=fun _=>True) (by kernel_rfl) ?hS1 (fun aB=>?rest1)
 case hS1=>trivial
 clear aB;obtain⟨Z,hZ⟩:∃ Z,w1.drew=Z:=⟨_,rfl⟩
 have OZ:Out 0 0 w1 Z:=by rw[<-hZ];exact(Out.refl 0 0 w1).drew
 rw[hZ];clear hZ;have aB:(fun(_:World)=>True) Z:=trivial;refine tk 0 ?_;refine tk 2 ?_;refine tk 3 ?_;refine rd2 1 4 (fun KK hK=>?_) fun KK hK=>?_
 ·go_simp;obtain⟨bA,hbA⟩:∃ b,Z.heap.size=b:=⟨_,rfl⟩
  have gbA:w1.heap.size<=bA:=by rw[<-hbA];exact OZ.size
  obtain⟨WA,hW⟩:∃ W,Z.alloc (.cells cA 3)=W:=⟨_,rfl⟩
  have o1:Out 0 0 Z WA:=by rw[<-hW];exact(Out.refl 0 0 _).alloc _
  have fA:WA.heap[bA]? = some (.cells cA 3):=by rw[<-hW,<-hbA];exact heap_alloc_new _ _
  have zA:bA<WA.heap.size:=by rw[<-hW,<-hbA,World.size_alloc];exact Nat.lt_succ_self _
  have O2:Out 0 0 w1 WA:=OZ.trans o1;(try rw[hW]);(try rw[hbA]);have O1:=O2;clear O2 hW o1 hbA;refine hK.out _ _ ?hS5 (fun aC=>?rest5)
  case hS5=>trivial
  clear hK KK;replace aB:=aC;clear aC;refine rd1 4 fun KK hK=>?_
  go_simp;obtain⟨bO,hbO⟩:∃ b,WA.heap.size=b:=⟨_,rfl⟩
  have gbO:w1.heap.size<=bO:=by rw[<-hbO];exact O1.size
  have pAbO:bA<bO:=by rw[<-hbO];exact zA
  obtain⟨WAO,hW⟩:∃ W,WA.alloc (.cells cO 81)=W:=⟨_,rfl⟩
  have o1:Out 0 0 WA WAO:=by rw[<-hW];exact(Out.refl 0 0 _).alloc _
  have fO:WAO.heap[bO]? = some (.cells cO 81):=by rw[<-hW,<-hbO];exact heap_alloc_new _ _
  have zO:bO<WAO.heap.size:=by rw[<-hW,<-hbO,World.size_alloc];exact Nat.lt_succ_self _
  replace fA:=o1.heap fA z0;replace zA:=Nat.lt_of_lt_of_le zA o1.size;have O2:Out 0 0 w1 WAO:=O1.trans o1;(try rw[hW]);(try rw[hbO]);have O1:=O2;clear O2 hW o1 hbO;refine hK.out _ _ ?hS6 (fun aC=>?rest6)
  case hS6=>trivial
  clear hK KK;replace aB:=aC;clear aC;refine tk 5 ?_;refine rd1 6 fun KK hK=>?_
  go_simp;obtain⟨bs,jJ⟩:∃ b,WAO.heap.size=b:=⟨_,rfl⟩
  have gbs:w1.heap.size<=bs:=by rw[<-jJ];exact O1.size
  have pAbs:bA<bs:=by rw[<-jJ];exact zA
  have pObs:bO<bs:=by rw[<-jJ];exact zO
  obtain⟨WAOB,hW⟩:∃ W,WAO.alloc (.cells #[Sz bA M M,Pq tb,Sz bO M M,Iz 0] 107)=W:=⟨_,rfl⟩
  have o1:Out 0 0 WAO WAOB:=by rw[<-hW];exact(Out.refl 0 0 _).alloc _
  have fB:WAOB.heap[bs]? = some (.cells #[Sz bA M M,Pq tb,Sz bO M M,Iz 0] 107):=by rw[<-hW,<-jJ];exact heap_alloc_new _ _
  have zB:bs<WAOB.heap.size:=by rw[<-hW,<-jJ,World.size_alloc];exact Nat.lt_succ_self _
  replace fA:=o1.heap fA z0;replace zA:=Nat.lt_of_lt_of_le zA o1.size;replace fO:=o1.heap fO z0;replace zO:=Nat.lt_of_lt_of_le zO o1.size;have O2:Out 0 0 w1 WAOB:=O1.trans o1;(try rw[hW]);(try rw[jJ]);have O1:=O2;clear O2 hW o1 jJ;refine hK.out _ _ ?hS8 (fun aC=>?rest8)
  case hS8=>trivial
  clear hK KK;replace aB:=aC;clear aC;refine tk 7 ?_;refine tk 8 ?_;refine dn ?_;clear aB;have HX:=Q3 (And.intro O1 (And.intro fA (And.intro fO (And.intro fB zB))));clear O1 fA fO fB zB;go_wp2;go_ret2;obtain⟨O1,fA,fO,fB,zB⟩:=HX.out;obtain⟨aA,sA,aO,sO,hM,h1,h2,hg⟩:=HF.out;have hs:=HS1.out;have hb:=HTB.out;have gQ:=O1.size;refine⟨rfS bs bA tb w.heap.size bO,rfl,x2n hM h1 h2 hg ⟨by omega,by omega⟩ (by omega) fB fA fO aA sA aO sO (HTb.out.quiet O1),bM.out.trans O1⟩
 ·go_simp;obtain⟨bO,hbO⟩:∃ b,Z.heap.size=b:=⟨_,rfl⟩
  have gbO:w1.heap.size<=bO:=by rw[<-hbO];exact OZ.size
  obtain⟨WO,hW⟩:∃ W,Z.alloc (.cells cO 81)=W:=⟨_,rfl⟩
  have o1:Out 0 0 Z WO:=by rw[<-hW];exact(Out.refl 0 0 _).alloc _
  have fO:WO.heap[bO]? = some (.cells cO 81):=by rw[<-hW,<-hbO];exact heap_alloc_new _ _
  have zO:bO<WO.heap.size:=by rw[<-hW,<-hbO,World.size_alloc];exact Nat.lt_succ_self _
  have O2:Out 0 0 w1 WO:=OZ.trans o1;(try rw[hW]);(try rw[hbO]);have O1:=O2;clear O2 hW o1 hbO;refine hK.out _ _ ?hS11 (fun aC=>?rest11)
  case hS11=>trivial
  clear hK KK;replace aB:=aC;clear aC;refine rd1 1 fun KK hK=>?_
  go_simp;obtain⟨bA,hbA⟩:∃ b,WO.heap.size=b:=⟨_,rfl⟩
  have gbA:w1.heap.size<=bA:=by rw[<-hbA];exact O1.size
  have pObA:bO<bA:=by rw[<-hbA];exact zO
  obtain⟨WOA,hW⟩:∃ W,WO.alloc (.cells cA 3)=W:=⟨_,rfl⟩
  have o1:Out 0 0 WO WOA:=by rw[<-hW];exact(Out.refl 0 0 _).alloc _
  have fA:WOA.heap[bA]? = some (.cells cA 3):=by rw[<-hW,<-hbA];exact heap_alloc_new _ _
  have zA:bA<WOA.heap.size:=by rw[<-hW,<-hbA,World.size_alloc];exact Nat.lt_succ_self _
  replace fO:=o1.heap fO z0;replace zO:=Nat.lt_of_lt_of_le zO o1.size;have O2:Out 0 0 w1 WOA:=O1.trans o1;(try rw[hW]);(try rw[hbA]);have O1:=O2;clear O2 hW o1 hbA;refine hK.out _ _ ?hS12 (fun aC=>?rest12)
  case hS12=>trivial
  clear hK KK;replace aB:=aC;clear aC;refine tk 5 ?_;refine rd1 6 fun KK hK=>?_
  go_simp;obtain⟨bs,jJ⟩:∃ b,WOA.heap.size=b:=⟨_,rfl⟩
  have gbs:w1.heap.size<=bs:=by rw[<-jJ];exact O1.size
  have pObs:bO<bs:=by rw[<-jJ];exact zO
  have pAbs:bA<bs:=by rw[<-jJ];exact zA
  obtain⟨WOAB,hW⟩:∃ W,WOA.alloc (.cells #[Sz bA M M,Pq tb,Sz bO M M,Iz 0] 107)=W:=⟨_,rfl⟩
  have o1:Out 0 0 WOA WOAB:=by rw[<-hW];exact(Out.refl 0 0 _).alloc _
  have fB:WOAB.heap[bs]? = some (.cells #[Sz bA M M,Pq tb,Sz bO M M,Iz 0] 107):=by rw[<-hW,<-jJ];exact heap_alloc_new _ _
  have zB:bs<WOAB.heap.size:=by rw[<-hW,<-jJ,World.size_alloc];exact Nat.lt_succ_self _
  replace fO:=o1.heap fO z0;replace zO:=Nat.lt_of_lt_of_le zO o1.size;replace fA:=o1.heap fA z0;replace zA:=Nat.lt_of_lt_of_le zA o1.size;have O2:Out 0 0 w1 WOAB:=O1.trans o1;(try rw[hW]);(try rw[jJ]);have O1:=O2;clear O2 hW o1 jJ;refine hK.out _ _ ?hS14 (fun aC=>?rest14)
  case hS14=>trivial
  clear hK KK;replace aB:=aC;clear aC;refine tk 7 ?_;refine tk 8 ?_;refine dn ?_;clear aB;have HX:=Q3 (And.intro O1 (And.intro fA (And.intro fO (And.intro fB zB))));clear O1 fA fO fB zB;go_wp2;go_ret2;obtain⟨O1,fA,fO,fB,zB⟩:=HX.out;obtain⟨aA,sA,aO,sO,hM,h1,h2,hg⟩:=HF.out;have hs:=HS1.out;have hb:=HTB.out;have gQ:=O1.size;refine⟨rfS bs bA tb w.heap.size bO,rfl,x2n hM h1 h2 hg ⟨by omega,by omega⟩ (by omega) fB fA fO aA sA aO sO (HTb.out.quiet O1),bM.out.trans O1⟩
end Go.Proofs.YtjgnogflgoihfaaGreatDoor
