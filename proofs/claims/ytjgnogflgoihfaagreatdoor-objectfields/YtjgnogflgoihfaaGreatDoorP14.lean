import Derived.Test.YtjgnogflgoihfaaGreatDoorP12
import Derived.Test.YtjgnogflgoihfaaGreatDoorP13
import Derived.Laws.FloatArith
set_option linter.unusedSimpArgs false
set_option linter.unusedVariables false
set_option maxHeartbeats 16000000
set_option maxRecDepth 100000
namespace Go.Proofs.YtjgnogflgoihfaaGreatDoor
open Go.RowKit
def rPo (D:Nat) (W2:World) (J:World->Prop) (Kx:Code->World->Prop):Exit->Act->World->Prop
 | .normal,_,W=>Out 0 D W2 W/\J W
 | .ret,_,W=>Out 0 D W2 W/\Kx .ret W
 | .exit id,_,W=>Out 0 D W2 W/\Kx (.exit id) W
 | .goto t,_,W=>Out 0 D W2 W/\Kx (.goto t) W
 | .panic _,_,_=>False
 | .outgrown,_,_=>False
theorem z5s {D:Nat} {W Wa W2 W3 W':World} (h1:Out 0 D W Wa) (h2:Out (D+1) (D+2) Wa W2) (h3:Out 0 D W2 W3) (h4:Out (D+1) (D+2) W3 W'):Out 0 (D+2) W W':=
 ((h1.wide (Nat.le_refl _) (by omega)).trans (h2.wide (Nat.zero_le _) (by omega))).trans ((h3.wide (Nat.le_refl _) (by omega)).trans (h4.wide (Nat.zero_le _) (by omega)))
theorem z4r {D:Nat} {W Wa W2 W3 W':World} {o:Obj} (h1:Out 0 D W Wa) (h2:Out (D+1) (D+2) Wa W2) (h3:Out 0 D W2 W3) (h4:Out (D+1) (D+2) W3 W') (h:W.heap[D]? = some o):W'.heap[D]? = some o:=
 h4.heap (h3.heap (h2.heap (h1.heap h (by omega)) (by omega)) (by omega)) (by omega)
theorem x0t {P:Program} {a:Act} {ps:Array Tmp} {assign body:Code} {D:Nat} {cX:LoopState->Option Code->Loop} {W:World} {args:Array Value} {J':World->Prop} {Kx:Code->World->Prop}
  (eN:j8c a ps assign body D cX) (hd:W.heap[D]? = some (.deferred (some []))) (hl:W.heap[D+1]? = some (.loop (cX .ready none))) (hs:args.size=ps.size)
  (hq:∀ W W' x y,J' W->Out x y W W'->(D<=x\/y=0)->J' W') (hqX:∀ c W W' x y,Kx c W->Out x y W W'->D<=x->Kx c W')
  (h:assign.wpIn (Fence.wide.inRound (D+1)) 0 P (Exit.then (fun a1 Wa=>Out 0 D W Wa/\∀ W2,Out (D+1) (D+2) Wa W2->body.wpIn (Fence.wide.inRound (D+1)) 0 P (rPo D W2 J' Kx) a1 W2) (fun _ _ _=>False))
   { tmps:=(ps.zip args).foldl (fun t (p,v)=>t.setIfInBounds p v) a.tmps,defers:=[] } W) :
  YieldAt Fence.wide 0 P (D+1) args W fun e W'=>Out 0 (D+2) W W'/\((e=.returned (.bool true)/\J' W'/\W'.heap[D]? = some (.deferred (some []))/\W'.heap[D+1]? = some (.loop (cX .ready none))) ∨
   (e=.returned (.bool false)/\∃ c,Kx c W'/\W'.heap[D]? = some (.deferred (some []))/\W'.heap[D+1]? = some (.loop (cX .done (some c))))):=by
 refine z2x eN hl hs (wpIn_mono h ?_);rintro e a1 Wa he;cases e with
 | normal=>
  obtain⟨o1,hb⟩:=he;refine⟨o1.heap hl (.inr (by omega)),fun W2 o2 lX=>wpIn_mono (hb W2 o2) ?_⟩;rintro e2 a2 W3 hp;cases e2 with
  | normal=>exact⟨hp.1.heap lX (.inr (by omega)),fun W' o4 hl4=>⟨z5s o1 o2 hp.1 o4,.inl ⟨rfl,hq _ _ _ _ hp.2 o4 (.inl (by omega)),z4r o1 o2 hp.1 o4 hd,hl4⟩⟩⟩
  | ret=>exact⟨hp.1.heap lX (.inr (by omega)),fun W' o4 hl4=>⟨z5s o1 o2 hp.1 o4,.inr ⟨rfl,_,hqX _ _ _ _ _ hp.2 o4 (by omega),z4r o1 o2 hp.1 o4 hd,hl4⟩⟩⟩
  | exit id=>exact⟨hp.1.heap lX (.inr (by omega)),fun W' o4 hl4=>⟨z5s o1 o2 hp.1 o4,.inr ⟨rfl,_,hqX _ _ _ _ _ hp.2 o4 (by omega),z4r o1 o2 hp.1 o4 hd,hl4⟩⟩⟩
  | goto t=>exact⟨hp.1.heap lX (.inr (by omega)),fun W' o4 hl4=>⟨z5s o1 o2 hp.1 o4,.inr ⟨rfl,_,hqX _ _ _ _ _ hp.2 o4 (by omega),z4r o1 o2 hp.1 o4 hd,hl4⟩⟩⟩
  | panic ch=>exact hp.elim
  | outgrown=>exact hp.elim
 | ret=>exact he.elim
 | exit id=>exact he.elim
 | goto t=>exact he.elim
 | panic ch=>exact he.elim
 | outgrown=>exact he.elim
theorem j5v {lo hi n cap g:Nat} {s:Nat->Nat} {op:Operand} {ps:Array Tmp} {assign body:Code} {Q:Exit->Act->World->Prop} {a:Act} {w:World}
  (hg:a.eval op=.func (.func 184) #[] #[.pointer (some ⟨g,0,none⟩)]) (hps:ps.size=1)
  (J:Nat->World->Prop) (K:World->Prop) (Kx:Code->World->Prop)
  (hm:∀ p W,J p W->p<=64*n/\∃ r,RawAt W lo hi s n cap r/\q1g r/\Box W g 76 (.pointer (some ⟨s 14,0,none⟩)))
  (hq:∀ p W W' x y,J p W->Out x y W W'->(w.heap.size<=x\/y=0)->J p W')
  (hqK:∀ W W' x y,K W->Out x y W W'->w.heap.size<=x->K W')
  (hqX:∀ c W W' x y,Kx c W->Out x y W W'->w.heap.size<=x->Kx c W')
  (hy:∀ p W r (k:Nat) b,J p W->RawAt W lo hi s n cap r->nxr r.P (64*n) p=k->r.M (k:Int)=some b->w.heap.size+2<=W.heap.size ->
   assign.wpIn (Fence.wide.inRound (w.heap.size+1)) 0 Tryz.prog (Exit.then (fun a1 Wa=>Out 0 w.heap.size W Wa/\∀ W2,Out (w.heap.size+1) (w.heap.size+2) Wa W2->body.wpIn (Fence.wide.inRound (w.heap.size+1)) 0 Tryz.prog (rPo w.heap.size W2 (J (k+1)) Kx) a1 W2) (fun _ _ _=>False))
    { tmps:=(ps.zip #[j0t k b]).foldl (fun t (p,v)=>t.setIfInBounds p v) a.tmps,defers:=[] } W)
  (he:∀ p W r,J p W->RawAt W lo hi s n cap r->nxr r.P (64*n) p = -1->K W) (h0:J 0 w)
  (hdone:∀ W,K W->W.heap[w.heap.size]? = some (.deferred (some []))->Q .normal { a with defers:={ target:=.collected w.heap.size,args:=#[] } :: a.defers } W)
  (hstop:∀ c W,Kx c W->W.heap[w.heap.size]? = some (.deferred (some []))->c.wpIn Fence.wide 0 Tryz.prog Q { a with defers:={ target:=.collected w.heap.size,args:=#[] } :: a.defers } W) :
  (Code.rangeFunc op ps assign body).wpIn Fence.wide 0 Tryz.prog Q a w:=by
 refine z2w hg (enters_of Tryz.func184 (by kernel_rfl) rfl) K Kx ?H (fun W W' hK ho hd=>hdone W' (hqK _ _ _ _ hK ho (by omega)) hd) (fun c W W' hK ho hd=>hstop c W' (hqX _ _ _ _ _ hK ho (by omega)) hd);intro cX eN W1 cC;have ho:Out 0 0 w W1:=by rw[cC];exact((Out.refl 0 0 w).alloc _).alloc _
 have hs:W1.heap.size=w.heap.size+2:=by rw[cC];simp
 have hd:W1.heap[w.heap.size]? = some (.deferred (some [])):=by rw[cC];exact J0
 have hl:W1.heap[w.heap.size+1]? = some (.loop (cX .ready none)):=by rw[cC];exact heap_alloc2_new _ _ _
 clear cC;refine(j2g (lo:=lo) (hi:=hi) (n:=n) (cap:=cap) (s:=s) (g:=g) (l:=w.heap.size+1)
  (fun p W=>J p W/\W.heap[w.heap.size]? = some (.deferred (some []))/\W.heap[w.heap.size+1]? = some (.loop (cX .ready none)))
  (fun W=>K W/\W.heap[w.heap.size]? = some (.deferred (some []))/\W.heap[w.heap.size+1]? = some (.loop (cX .ready none)))
  (fun W=>∃ c,Kx c W/\W.heap[w.heap.size]? = some (.deferred (some []))/\W.heap[w.heap.size+1]? = some (.loop (cX .done (some c)))) (w:=W1) ?m ?q ?qj ?qx ?y ?e ?z).mono ?_
 case m=>exact fun p W h=>hm p W h.1
 case q=>exact fun p W W' x y h o hx=>⟨hq p W W' x y h.1 o (by omega),o.heap h.2.1 (by omega),o.heap h.2.2 (by omega)⟩
 case qj=>exact fun W W' x y h o hx=>⟨hqK W W' x y h.1 o (by omega),o.heap h.2.1 (by omega),o.heap h.2.2 (by omega)⟩
 case qx=>rintro W W' x y ⟨c,h1,h2,h3⟩ o hx;exact⟨c,hqX c W W' x y h1 o (by omega),o.heap h2 (by omega),o.heap h3 (by omega)⟩
 case y=>
  rintro p W r k b ⟨hj,mT,hl1⟩ hr hk hb;rw[hs];refine x0t eN mT hl1 (by simp[hps]) (hq (k+1)) hqX (hy p W r k b hj hr hk hb ?_);have:=Q7 hl1;omega
 case e=>exact fun p W r h hr hk=>⟨he p W r h.1 hr hk,h.2⟩
 case z=>exact⟨hq 0 w W1 0 0 h0 ho (.inr rfl),hd,hl⟩
 rintro e W ⟨hv,⟨h1,h2,h3⟩ | ⟨c,h1,h2,h3⟩⟩
 ·exact⟨hv,h2,.inl ⟨h1,h3⟩⟩
 ·exact⟨hv,h2,.inr ⟨c,h1,h3⟩⟩
theorem x6p {w:World} {b:Nat} {f f':Int->Option Value} (h:MpAt w b f) (h':MpAt w b f'):f=f':=by
 obtain⟨es,cl,hb,_,_,h1⟩:=h;obtain⟨es',cl',jK,_,_,h2⟩:=h';rw[hb] at jK;simp at jK;obtain⟨rfl,rfl⟩:=jK;funext a
 apply Option.ext;intro v;rw[h1 a v,h2 a v]
theorem z6s {w:World} {lo hi n cap:Nat} {s:Nat->Nat} {r r':Raw} (h:RawAt w lo hi s n cap r) (h':RawAt w lo hi s n cap r'):r.P=r'.P/\r.M=r'.M:=by
 refine⟨MapAt.one h.places h'.places,?_⟩;have e:=x6p h.objs h'.objs;funext a
 have ea:=congrFun e a;unfold z7f at ea;cases x:r.M a with
 | none=>
  rw[x] at ea;cases y:r'.M a with
  | none=>rfl
  | some b=>rw[y] at ea;cases ea
 | some b=>
  rw[x] at ea;cases y:r'.M a with
  | none=>rw[y] at ea;cases ea
  | some c=>
   rw[y] at ea;obtain⟨b1,b2,b3,b4⟩:=b;obtain⟨c1,c2,c3,c4⟩:=c;simp[j0t] at ea;obtain⟨rfl,rfl,rfl,rfl⟩:=ea;rfl
end Go.Proofs.YtjgnogflgoihfaaGreatDoor
namespace Go.Proofs.YtjgnogflgoihfaaGreatDoor
open Go.RowKit
attribute [local go_sem] Oper.semAt_some
def j1o (r:Raw) (i:Nat):Bool:=(List.range (i+1)).any fun a=>r.P a && (match r.M (a:Int) with | some b=>decide (i<a+Y8 b.2.1) | none=>false)
theorem inRm_iff {r:Raw} {i:Nat}:j1o r i=true ↔ ∃ a b,a<=i/\r.P a=true/\r.M (a:Int)=some b/\i<a+Y8 b.2.1:=by
 unfold j1o;rw[List.any_eq_true];constructor
 ·rintro⟨a,ha,h⟩;rw[List.mem_range] at ha;rw[Bool.and_eq_true] at h;cases e:r.M (a:Int) with
  | none=>rw[e] at h;exact absurd h.2 (by simp)
  | some b=>rw[e] at h;exact⟨a,b,by omega,h.1,e,by simpa using h.2⟩
 ·rintro⟨a,b,h1,h2,h3,h4⟩;refine⟨a,by rw[List.mem_range];omega,?_⟩;rw[h2,h3];simpa using h4
def wpW (r:Raw) (f:Nat):Nat->Int:=fun i=>if i<f/\j1o r i=false then 0 else r.W i
theorem x5s (r:Raw):wpW r 0=r.W:=by funext i;unfold wpW;rw[if_neg (by omega)]
theorem x2p {r:Raw} {f k:Nat} (h:f<=k) (hz:∀ i,f<=i->i<k->j1o r i=false):z0b (wpW r f) f (k-f)=wpW r k:=by
 funext i
 unfold z0b wpW;by_cases e:f<=i/\i<f+(k-f)
 ·rw[if_pos e,if_pos ⟨by omega,hz i e.1 (by omega)⟩]
 ·rw[if_neg e];by_cases e2:i<f/\j1o r i=false
  ·rw[if_pos e2,if_pos ⟨by omega,e2.2⟩]
  ·rw[if_neg e2,if_neg (fun h'=>e2 ⟨by omega,h'.2⟩)]
theorem x5r {r:Raw} {k m:Nat} (hz:∀ i,k<=i->i<k+m->j1o r i=true):wpW r k=wpW r (k+m):=by
 funext i
 unfold wpW;by_cases e:i<k+m/\j1o r i=false
 ·have:i<k:=by
   by_cases e2:i<k
   ·exact e2
   ·have:=hz i (by omega) e.1;rw[e.2] at this;cases this
  rw[if_pos ⟨this,e.2⟩,if_pos e]
 ·rw[if_neg e,if_neg (fun h'=>e ⟨by omega,h'.2⟩)]
def j0q (n:Nat) (r:Raw):Prop:=∀ a b,r.P a=true->r.M (a:Int)=some b->1<=b.2.1/\b.2.1<=1024/\a+Y8 b.2.1<=64*n/\∀ a',a<a'->r.P a'=true->a+Y8 b.2.1<=a'
structure At (n:Nat) (r:Raw) (p f:Nat):Prop where
 le:f<=64*n
 below:∀ a b,a<p->r.P a=true->r.M (a:Int)=some b->a+Y8 b.2.1<=f
 above:∀ a,p<=a->r.P a=true->f<=a
theorem At.gap {n:Nat} {r:Raw} {p f k:Nat} (h:At n r p f) (hz:∀ j,p<=j->j<k->r.P j=false):∀ i,f<=i->i<k->j1o r i=false:=by
 intro i h1 h2;cases e:j1o r i with
 | false=>rfl
 | true=>
  obtain⟨a,b,a1,a2,a3,a4⟩:=inRm_iff.1 e;by_cases hp:a<p
  ·have:=h.below a b hp a2 a3;omega
  ·rw[hz a (by omega) (by omega)] at a2;cases a2
theorem At.step {n:Nat} {r:Raw} {p f k:Nat} {b:Blk} (hR:j0q n r) (h:At n r p f) (hp:p<=k) (hz:∀ j,p<=j->j<k->r.P j=false) (hk:r.P k=true) (hb:r.M (k:Int)=some b):At n r (k+1) (k+Y8 b.2.1):=by
 obtain⟨_,_,h3,h4⟩:=hR k b hk hb;refine⟨h3,fun a b' ha hPa hMa=>?_,fun a ha hPa=>h4 a (by omega) hPa⟩;by_cases e:a=k
 ·subst e;rw[hb] at hMa;cases hMa;exact Nat.le_refl _
 ·by_cases e2:a<p
  ·have:=h.below a b' e2 hPa hMa;have:=h.above k hp hk;omega
  ·rw[hz a (by omega) (by omega)] at hPa;cases hPa
theorem x4v {r:Raw} {k:Nat} {b:Blk} (hk:r.P k=true) (hb:r.M (k:Int)=some b):∀ i,k<=i->i<k+Y8 b.2.1->j1o r i=true:=fun i h1 h2=>inRm_iff.2 ⟨k,b,h1,hk,hb,h2⟩
theorem j1q (bw n cap lo:Nat) (h1:lo<=n):∃ o cp:Nat,(∀ wx,(Instr.slice 70 (.slice (some ⟨bw,0,none⟩) n cap) (some (.int .i64 (lo:Int))) none none).run Tryz.prog wx=.ok (.slice (some ⟨bw,o,none⟩) (n-lo) cp) wx)/\(0<n-lo->cap=lo\/o=lo):=by
 by_cases e:cap=lo
 ·refine⟨0,cap-lo,fun wx=>?_,fun h=>.inl e⟩;rw[run_slice_l wx 70 _ n cap (by rw[z1h];exact Tryz.underlying70) .i64 (lo:Int) (by omega) (by omega),z1h,z8e];simp[Result.andThen,sliced,e]
 ·refine⟨lo,cap-lo,fun wx=>?_,fun h=>.inr rfl⟩;rw[run_slice_l wx 70 _ n cap (by rw[z1h];exact Tryz.underlying70) .i64 (lo:Int) (by omega) (by omega),z1h,z8e];have e2:(⟨bw,0,none⟩:Addr).add lo=⟨bw,lo,none⟩:=by rw[Addr.add_lit,Nat.zero_add]
  simp[Result.andThen,sliced,e,e2]
theorem x1i {w:World} {lo hi n cap:Nat} {s:Nat->Nat} {r:Raw} (h:RawAt w lo hi s n cap r) (hT:q1g r) (hR:j0q n r) :
  Calls Tryz.prog 140 #[.pointer (some ⟨s 14,0,none⟩)] w fun e w'=>(∃ v,e=.returned v)/\RawAt w' lo hi s n cap { r with W:=wpW r (64*n) }/\Out lo hi w w':=by
 have kQ:=Q3 h;have HTo:=Q3 hT;have HRo:=Q3 hR;have h11:s 11<hi:=by have:=(h.inn 11 (by omega)).2;simp[ln] at this;omega
 have h14:s 14<hi/\s 11 ≠ s 14:=by have a:=(h.inn 14 (by omega)).2;have b:=h.apart 11 14 (by omega) (by omega) (by omega);simp[ln] at a b;omega
 have HT:Hid (hi<=w.heap.size/\4<=w.heap.size/\s 11<hi/\s 14<hi/\s 11 ≠ s 14/\4<=lo/\n<=4096/\1<=n/\64*n<=cap):=⟨h.top,h.tab.lt,h11,h14.1,h14.2,h.glob,h.n2,h.n1,h.capn⟩
 have HL:=Q3 (fun w=>z9n (s 14) w);clear h h11 h14 hT hR;refine(callsIn_wide (n:=0)).1 ?_;refine callsIn_of_wp_marks Tryz.func140 rfl trivial ?_ rfl;simp only[Tryz.ntmps140,List.size_toArray,List.length_cons,List.length_nil,Nat.reduceAdd,Nat.reduceSub,Array.replicate_succ,Array.replicate_zero,List.push_toArray,List.append_toArray,List.nil_append,List.cons_append];gi_wp2_with (refine⟨trivial,rfl,?_⟩;gi_at_call 137;refine(callsIn_wide.2 (HL.out _)).mono ?_;rintro e w1 ⟨rfl,rfl⟩);obtain⟨W1,cC⟩:∃ W1,((w.alloc (.cells #[.pointer (some ⟨s 14,0,none⟩)] 76)).alloc (.cells #[.int .i64 0] 3)).alloc (.cells #[.pointer (some ⟨s 14,0,none⟩)] 76)=W1:=⟨_,rfl⟩
 have hs1:W1.heap.size=w.heap.size+3:=by rw[<-cC];simp
 have gJ:Out 0 0 w W1:=by rw[<-cC];exact((((Out.refl 0 0 w).alloc _).alloc _).alloc _)
 have hy1:Box W1 w.heap.size 76 (.pointer (some ⟨s 14,0,none⟩)):=by rw[<-cC];exact Box.alloc (w:=(w.alloc (.cells #[.pointer (some ⟨s 14,0,none⟩)] 76)).alloc (.cells #[.int .i64 0] 3)) J0 _
 have lS:Box W1 (w.heap.size+1) 3 (.int .i64 0):=by rw[<-cC];exact Box.alloc (w:=(w.alloc (.cells #[.pointer (some ⟨s 14,0,none⟩)] 76)).alloc (.cells #[.int .i64 0] 3)) (heap_alloc2_new _ _ _) _
 have hz1:Box W1 (w.heap.size+1+1) 76 (.pointer (some ⟨s 14,0,none⟩)):=by
  rw[<-cC];have:=heap_alloc_new ((w.alloc (.cells #[.pointer (some ⟨s 14,0,none⟩)] 76)).alloc (.cells #[.int .i64 0] 3)) (.cells #[.pointer (some ⟨s 14,0,none⟩)] 76);rw[World.size_alloc,World.size_alloc] at this;exact this
 rw[cC];clear cC;have bM:=Q3 gJ;have HY1:=Q3 hy1;have HX1:=Q3 lS;have HZ1:=Q3 hz1;clear gJ hy1 lS hz1;refine j5v (lo:=lo) (hi:=hi) (n:=n) (cap:=cap) (g:=w.heap.size+1+1) (s:=s) rfl rfl
  (fun p W=>p<=64*n/\∃ f:Nat,At n r p f/\RawAt W lo hi s n cap { r with W:=wpW r f }/\Box W w.heap.size 76 (.pointer (some ⟨s 14,0,none⟩))/\Box W (w.heap.size+1) 3 (.int .i64 (f:Int))/\Box W (w.heap.size+1+1) 76 (.pointer (some ⟨s 14,0,none⟩))/\Out lo hi w W)
  (fun W=>∃ f:Nat,f<=64*n/\z0b (wpW r f) f (64*n-f)=wpW r (64*n)/\RawAt W lo hi s n cap { r with W:=wpW r f }/\Box W w.heap.size 76 (.pointer (some ⟨s 14,0,none⟩))/\Box W (w.heap.size+1) 3 (.int .i64 (f:Int))/\Out lo hi w W)
  (fun c W=>False) ?hm1 ?hq1 ?hqk1 ?hqx1 ?hy1 ?he1 ?hz1 ?hdone1 ?hstop1
 case hm1=>
  rintro p W ⟨hp,f,hA,a1,a2,a3,a4,a5⟩;exact⟨hp,_,a1,HTo.out,a4⟩
 case hq1=>
  rintro p W W' x y ⟨hp,f,hA,a1,a2,a3,a4,a5⟩ o hx;exact⟨hp,f,hA,a1.kept o (by have:=HT.out;omega) (by have:=HT.out;omega),a2.kept o (by omega),a3.kept o (by omega),a4.kept o (by omega),Y5 a5 o (by omega)⟩
 case hqk1=>
  rintro W W' x y ⟨f,hA,hw,a1,a2,a3,a5⟩ o hx;exact⟨f,hA,hw,a1.kept o (by have:=HT.out;omega) (by have:=HT.out;omega),a2.kept o (by omega),a3.kept o (by omega),Y5 a5 o (by omega)⟩
 case hqx1=>exact fun c W W' x y h _ _=>h
 case hstop1=>exact fun c W h _=>h.elim
 case hz1=>exact⟨Nat.zero_le _,0,⟨Nat.zero_le _,fun a b h=>absurd h (by omega),fun a _ _=>Nat.zero_le _⟩,by rw[x5s];exact kQ.out.quiet bM.out,HY1.out,HX1.out,HZ1.out,bM.out.any _ _⟩
 case he1=>
  rintro p W rr ⟨hp,f,hA,a1,a2,a3,a4,a5⟩ hr hk;obtain⟨eP,eM⟩:=z6s a1 hr;rw[<-eP] at hk;rcases U4 r.P (64*n) p with ⟨_,hz⟩ | ⟨i,bQ,_⟩
  ·exact⟨f,hA.le,x2p hA.le (hA.gap hz),a1,a2,a3,a5⟩
  ·have:(-1:Int)=i:=hk.symm.trans bQ;omega
 case hy1=>
  rintro p W rr k b ⟨hp,f,hA,a1,a2,a3,a4,a5⟩ hr hk hb gQ;obtain⟨eP,eM⟩:=z6s a1 hr;rw[<-eP] at hk;rw[<-eM] at hb;obtain⟨hpk,hkn,hPk,hz⟩:p<=k/\k<64*n/\r.P k=true/\∀ j,p<=j->j<k->r.P j=false:=by
   rcases U4 r.P (64*n) p with ⟨e1,_⟩ | ⟨i,e1,e2,e3,e4,e5⟩
   ·have:(-1:Int)=k:=e1.symm.trans hk;omega
   ·have:i=k:=by have:(i:Int)=k:=e1.symm.trans hk;omega
    subst this;exact⟨e3 hp,e2,e4,e5⟩
  rw[hs1] at gQ ⊢;have jK:r.M (k:Int)=some b:=hb;have hRo:=HRo.out k b hPk jK;have hfk:=hA.above k hpk hPk;have hgap:=x2p hfk (hA.gap hz);have lU:=x5r (x4v hPk jK);have hA':=hA.step HRo.out hpk hz hPk jK;obtain⟨b1,b2,b3,b4⟩:=b;have A:=Q3 (And.intro a1 (And.intro a2 (And.intro a3 (And.intro a4 (And.intro a5 (And.intro hA' (And.intro hgap lU)))))));have HK:=Q3 (And.intro hpk (And.intro hkn (And.intro hfk gQ)));have HRk:=Q3 hRo;clear a1 a2 a3 a4 a5 hA hr hk hb eP eM hz hPk jK hRo hgap lU hA' hp hpk hkn hfk gQ;unfold j0t;dsimp only at A HRk ⊢;have dD:=HK.out.2.2.2;obtain⟨WA,hWA⟩:∃ WA,W.alloc (bo (k:Int) b1 b2 b3 b4)=WA:=⟨_,rfl⟩
  have HBA:Hid (WA.heap[W.heap.size]? = some (bo (k:Int) b1 b2 b3 b4)):=by rw[<-hWA];exact heap_alloc_new _ _
  have jH:Hid (Out 0 0 W WA):=by rw[<-hWA];exact(Out.refl 0 0 W).alloc _
  obtain⟨G,hG⟩:∃ G,W.heap.size=G:=⟨_,rfl⟩
  rw[hG] at HK dD HBA;unfold bo at hWA HBA;gi_wp2;(try rw[hWA]);refine⟨jH.out.any _ _,?_⟩;(try rw[hG]);clear hWA hG;intro W2 o2;have hoA:=jH.out.any 0 (w.heap.size+3);have lA:=(A.out.1.quiet jH.out).kept o2 (.inl (by have:=HT.out;omega)) (.inl (by have:=HT.out;omega));have HY2:=Q3 ((A.out.2.1.kept jH.out z0).kept o2 (.inl (by omega)));have HX2:=Q3 ((A.out.2.2.1.kept jH.out z0).kept o2 (.inl (by omega)));have HZ2:=Q3 ((A.out.2.2.2.1.kept jH.out z0).kept o2 (.inl (by omega)));have jN:=Q3 (o2.heap HBA.out (.inr (by omega)));have aH:=Q3 (Y5 (Y5 A.out.2.2.2.2.1 jH.out (.inr rfl)) o2 (.inl (by omega)));obtain⟨o,cp,hsl,hol⟩:=z8x (s 11) (64*n) cap f k (by have:=HK.out;omega) (by have:=HK.out;have:=HT.out;omega);have cV:=Q3 (lA.quiet ((Out.refl 0 0 _).drew));obtain⟨w4,kT,hr4,dR⟩:=cV.out.clear (a:=f) (k:=k-f) (o:=o) (cp:=cp) (by have:=HK.out;omega) hol;have dY:Hid (RawAt w4 lo hi s n cap { r with W:=wpW r (k+Y8 b2) }):=hr4.congr (by rw[<-A.out.2.2.2.2.2.2.2,<-A.out.2.2.2.2.2.2.1]);have bJ:=Q3 dR;have c0:=HY2.out.cell;have c1:=lA.cells.1;have c2:=HX2.out.cell;obtain⟨q0,_,q2,_,_⟩:=F0 jN.out;have f0:(0:Int)<=(f:Int):=by omega
  have f1:(f:Int)<=(k:Int):=by have:=HK.out;omega
  have f2:(k:Int)<=(cap:Int):=by have:=HK.out;have:=HT.out;omega
  have HRoom:=Q3 (fun w'=>j0d b2 HRk.out.1 HRk.out.2.1 w');have HWR:Hid (IntKind.i64.wrap ((k:Int)+((Y8 b2:Nat):Int))=((k+Y8 b2:Nat):Int)):=by show _=_;simp[IntKind.wrap,IntKind.signed,IntKind.bits];have:=HRk.out;have:=HT.out;omega
  clear lA hr4 dR dD hol hoA;gi_wp2_with fail;refine z3m (S:=fun w'=>w'.cell? ⟨w.heap.size,0,none⟩=some (.pointer (some ⟨s 14,0,none⟩))/\w'.cell? ⟨s 14,0,none⟩=some (.slice (some ⟨s 11,0,none⟩) (64*n) cap)/\w'.cell? ⟨w.heap.size+1,0,none⟩=some (.int .i64 (f:Int))/\w'.cell? ⟨G,0,none⟩=some (.int .i64 (k:Int))) (by kernel_rfl) (by kernel_rfl) ?hS9 (fun aB=>?rest9)
  case hS9=>exact⟨c0,c1,c2,q0⟩
  refine tk 0 ?_;refine tk 1 ?_;refine tk 2 ?_;refine tk 3 ?_;refine tk 4 ?_;refine tk 5 ?_;refine tk 6 ?_;refine tk 7 ?_;refine rd1 8 fun KK hK=>?_
  go_simp;refine hK.out _ _ ⟨bJ.out.cell aB.1 (by have:=HT.out;have:=HK.out;omega),bJ.out.cell aB.2.1 (by have:=HT.out;have:=HK.out;omega),bJ.out.cell aB.2.2.1 (by have:=HT.out;have:=HK.out;omega),bJ.out.cell aB.2.2.2 (by have:=HT.out;have:=HK.out;omega)⟩ fun aB=>?_
  clear hK KK;refine dn ?_;clear aB;simp only[q7k,q2f];have hdr:Out (s 11) (s 11+1) W2 w4:=(((Out.refl 0 0 W2).drew).any _ _).trans bJ.out;have HX4:=Q3 (HX2.out.kept hdr (.inr (by have:=HT.out;omega)));have lT:=Q3 (hdr.heap jN.out (.inr (by have:=HT.out;have:=HK.out;omega)));have HOD:=Q3 hdr;clear q0 q2 c0 c1 c2 hsl kT hdr;obtain⟨q0,_,q2,_,_⟩:=F0 lT.out;gi_wp2_with fail;refine z3m (S:=fun w'=>w'.cell? ⟨G,0,none⟩=some (.int .i64 (k:Int))/\w'.cell? ⟨G,2,none⟩=some (.int .i64 b2)) (by kernel_rfl) (by kernel_rfl) ?hS1 (fun aB=>?rest1)
  case hS1=>exact⟨q0,q2⟩
  refine tk 0 ?_;refine tk 1 ?_;refine tk 2 ?_;refine tk 3 ?_;refine rd1 4 fun KK hK=>?_
  go_simp;refine(HRoom.out _).mono ?_;rintro e w5 ⟨rfl,iS⟩;have hx5:=HX4.out.kept (((Out.refl 0 0 _).drew).trans iS) z0;have e0:=hx5.cell;have e1:=hx5.frozen;have HX5:=Q3 hx5;have HOO:=Q3 iS;clear hx5;refine hK.out _ _ ⟨iS.cell aB.1 z0,iS.cell aB.2 z0⟩ fun aB=>?_
  clear hK KK;refine tk 5 ?_;refine rd1 6 fun KK hK=>?_
  go_simp;refine hK.out _ _ ⟨((Out.refl (w.heap.size+1) (w.heap.size+2) w5).setCell z1 _).cell aB.1 (by have:=HT.out;have:=HK.out;omega),((Out.refl (w.heap.size+1) (w.heap.size+2) w5).setCell z1 _).cell aB.2 (by have:=HT.out;have:=HK.out;omega)⟩ fun aB=>?_
  clear hK KK;refine dn ?_;clear aB;simp only[q7k,q2f];gi_wp2;have jO:=(Out.refl (w.heap.size+1) (w.heap.size+2) w5).setCell (p:=⟨w.heap.size+1,0,none⟩) z1 (.int .i64 (IntKind.i64.wrap ((k:Int)+((Y8 b2:Nat):Int))));have hq5:Out 0 0 w4 w5:=((Out.refl 0 0 w4).drew).trans HOO.out;have hbx:=HX5.out.set (.int .i64 (IntKind.i64.wrap ((k:Int)+((Y8 b2:Nat):Int))));rw[HWR.out] at hbx jO;(try rw[HWR.out]);have hT:=HT.out;have hK:=HK.out;exact⟨((HOD.out.wide (Nat.zero_le _) (by omega)).trans (hq5.any _ _)).trans (jO.wide (Nat.zero_le _) (by omega)),by omega,k+Y8 b2,A.out.2.2.2.2.2.1,(dY.out.quiet hq5).kept jO (.inl (by omega)) (.inl (by omega)),((HY2.out.kept HOD.out (by omega)).kept hq5 z0).kept jO (by omega),hbx,((HZ2.out.kept HOD.out (by omega)).kept hq5 z0).kept jO (by omega),Y5 (Y5 (aH.out.trans ((((Out.refl 0 0 W2).drew).any lo hi).trans (cV.out.wide (i:=11) (by omega) bJ.out))) hq5 (.inr rfl)) jO (.inl (by omega))⟩
 case hdone1=>
  rintro W ⟨f,hf,hw,a1,a2,a3,a5⟩ hd;rw[hs1] at hd;have HD:=Q3 hd;have HW:=Q3 hw;have cV:=Q3 (a1.quiet ((Out.refl 0 0 _).drew));have aH:=Q3 a5;have HF:=Q3 hf;obtain⟨o,cp,hsl,hol⟩:=j1q (s 11) (64*n) cap f hf;obtain⟨w4,kT,hr4,dR⟩:=cV.out.clear (a:=f) (k:=64*n-f) (o:=o) (cp:=cp) (by omega) (fun h=>(hol h).resolve_left (by have:=HT.out;omega));have dY:Hid (RawAt w4 lo hi s n cap { r with W:=wpW r (64*n) }):=hr4.congr (by rw[<-HW.out]);have bJ:=Q3 dR;have c0:=a2.cell;have c1:=a1.cells.1;have c2:=a3.cell;have f0:(0:Int)<=(f:Int):=by omega
  have f1:(f:Int)<=((64*n:Nat):Int):=by omega
  have f2:(f:Int)<=64*(n:Int):=by omega
  rw[hs1];clear hr4 dR hol hd hw hf a1 a2 a3 a5;gi_wp2_with fail;refine q5r ?_;refine wp_region_held_drew (S:=fun w'=>w'.cell? ⟨w.heap.size,0,none⟩=some (.pointer (some ⟨s 14,0,none⟩))/\w'.cell? ⟨s 14,0,none⟩=some (.slice (some ⟨s 11,0,none⟩) (64*n) cap)/\w'.cell? ⟨w.heap.size+1,0,none⟩=some (.int .i64 (f:Int))) (by kernel_rfl) ?hS19 (fun aB=>?rest19)
  case hS19=>exact⟨c0,c1,c2⟩
  refine tk 0 ?_;refine tk 1 ?_;refine tk 2 ?_;refine tk 3 ?_;refine tk 4 ?_;refine tk 5 ?_;refine rd1 6 fun KK hK=>?_
  go_simp;refine hK.out _ _ ⟨bJ.out.cell aB.1 (by have:=HT.out;omega),bJ.out.cell aB.2.1 (by have:=HT.out;omega),bJ.out.cell aB.2.2 (by have:=HT.out;omega)⟩ fun aB=>?_
  clear hK KK;refine dn ?_;clear aB;simp only[q2f];gi_wp2;have hT:=HT.out;have hdr:Out (s 11) (s 11+1) W w4:=(((Out.refl 0 0 W).drew).any _ _).trans bJ.out;refine⟨by simp,.inl ⟨_,_,rfl,run_takeDeferred (hdr.heap HD.out (.inr (by omega))),?_⟩⟩;exact⟨_,results_none rfl _ _ _,⟨_,rfl⟩,dY.out.kept (W6 _ _ _) (by omega) (by omega),Y5 (aH.out.trans ((((Out.refl 0 0 W).drew).any lo hi).trans (cV.out.wide (i:=11) (by omega) bJ.out))) (W6 _ _ _) (by omega)⟩
end Go.Proofs.YtjgnogflgoihfaaGreatDoor
namespace Go.Proofs.YtjgnogflgoihfaaGreatDoor
open Go.RowKit
def rsF (r:Raw) (i:Nat):Raw:={ r with F:=fun d=>if d<i then (fun _=>false) else r.F d }
def z8s (n:Nat) (S0:Nat->Int × Int × Int) (q:Raw) (i:Nat):Raw:=
 if (S0 i).1=1 then if z7u q.P (64*i) (64*i+64) == 0 then { q with S:=gvS q.S n (i:Int) } else { q with F:=fun d=>if d=(S0 i).2.1.toNat then fuR q (S0 i).2.1.toNat i else q.F d } else q
def dlR (n:Nat) (S0:Nat->Int × Int × Int) (q:Raw):Nat->Raw
 | 0=>q
 | i+1=>z8s n S0 (dlR n S0 q i) i
def lnR (n:Nat) (q:Raw):Nat->Raw
 | 0=>q
 | c+1=>{ lnR n q c with W:=z5p n (lnR n q c) c }
def x3b (n:Nat) (r:Raw):Raw:=lnR n (dlR n r.S (rsF r 8) n) 8
theorem x4x (r:Raw):r=rsF r 0:=by
 unfold rsF;refine Raw.eq rfl rfl ?_ rfl rfl rfl rfl;funext d
 show r.F d=if d<0 then (fun _=>false) else r.F d
 rw[if_neg (by omega)]
theorem x4w (r:Raw) (c:Nat):{ rsF r c with F:=fun d=>if d=c then (fun _=>false) else (rsF r c).F d }=rsF r (c+1):=by
 unfold rsF;refine Raw.eq rfl rfl ?_ rfl rfl rfl rfl;funext d
 show (if d=c then (fun _=>false) else if d<c then (fun _=>false) else r.F d)=if d<c+1 then (fun _=>false) else r.F d
 by_cases e:d=c
 ·rw[if_pos e,if_pos (by omega)]
 ·rw[if_neg e];by_cases e2:d<c
  ·rw[if_pos e2,if_pos (by omega)]
  ·rw[if_neg e2,if_neg (by omega)]
section
variable {w:World} {lo hi n cap:Nat} {s:Nat->Nat} {r:Raw}
theorem j8t (h:RawAt w lo hi s n cap r) :
  Kz 141 #[Pq (s 14)] w fun e w'=>(∃ v,e=.returned v)/\RawAt w' lo hi s n cap (x3b n r)/\Out lo hi w w':=by
 have HR:=Q3 h;have HT:Hid (hi<=w.heap.size/\n<=4096/\1<=n):=⟨h.top,h.n2,h.n1⟩
 have HG:=Q3 h.tbl.good;clear h;go_enter Tryz.func141,Tryz.ntmps141
 go_wp2_with fail;go_loopw [6] (fun u wr=>∃ i:Nat,u=Iz (i:Int)/\i<=8/\RawAt wr lo hi s n cap (rsF r i)/\Out lo hi w wr) (fun u _=>((8:Int)-intOf u).toNat)
 case atStart=>exact⟨0,rfl,Nat.zero_le _,HR.out.congr (x4x r),Out.refl _ _ _⟩
 case round=>
  obtain⟨i,rfl,i1,i2,i3⟩:=hrel;have cD:=Q3 i2;have bM:=Q3 i3;have j0:(0:Int)<=(i:Int):=by omega
  by_cases dD:(i:Int)<8
  ·have HC:Hid (i<8):=by show _<_;omega
   have dF:=i2.cellF HC.out;clear i2 i3;go_wp2_with (go_at_call 188;refine(j6n (cD.out.free i HC.out)).mono ?_;rintro e w4 ⟨rfl,hm,ho⟩);have eR:=cD.out.setF HC.out ho hm;have bL:=bM.out.trans (cD.out.wide (i:=i) (by have:=HC.out;omega) (by unfold ln;rw[if_pos (by have:=HC.out;omega)];exact ho));refine⟨⟨i+1,by congr 1,by omega,eR.congr (x4w r i),bL⟩,by simp[intOf];omega⟩
  ·have e:i=8:=by omega
   subst e;obtain⟨d0,d1,d2,d3,d4,d5⟩:=i2.cells;clear i2 i3;go_wp2_with (go_at_call 87;refine(j3d cD.out.tbl).mono ?_;rintro e w2 ⟨g,cT,rfl,hl,ho⟩);obtain⟨hr,hb,_⟩:=hl.row;have HP2:Hid (PRow w2 g n r.S):=hr;have HGg:Hid (hi<=g):=by show _<=_;have:=HT.out;have:=bM.out.size;omega
   have cV:=Q3 (cD.out.quiet ho);have aH:=Q3 (bM.out.trans (ho.any lo hi));clear hl ho hr hb cD bM d0 d1 d2 d3 d4 d5;go_loopw [23] (fun u wr=>∃ i:Nat,u=Iz (i:Int)/\i<=n/\RawAt wr lo hi s n cap (dlR n r.S (rsF r 8) i)/\PRow wr g n r.S/\Out lo hi w wr) (fun u _=>((n:Int)-intOf u).toNat)
   case atStart=>exact⟨0,rfl,Nat.zero_le _,cV.out,HP2.out,aH.out⟩
   case round=>
    clear cV HP2 aH;obtain⟨i,rfl,i1,i2,i4,i3⟩:=hrel;have j0:(0:Int)<=(i:Int):=by omega
    have j2:(n:Int)<=4096:=by have:=HT.out;omega
    by_cases dD:(i:Int)<(n:Int)
    ·obtain⟨q,hq⟩:∃ q,dlR n r.S (rsF r 8) i=q:=⟨_,rfl⟩
     rw[hq] at i2;have gT:dlR n r.S (rsF r 8) (i+1)=z8s n r.S q i:=by show z8s n r.S (dlR n r.S (rsF r 8) i) i=_;rw[hq]
     obtain⟨x,y,z,hp⟩:=z1z (r.S i);obtain⟨q0,q1,q2⟩:=i4.page (by omega) hp;have hoA:Out 0 0 wr (wr.alloc (.cells #[Iz x,Iz y,Iz z] 189)):=(Out.refl 0 0 _).alloc _;have HBA:Hid ((wr.alloc (.cells #[Iz x,Iz y,Iz z] 189)).heap[wr.heap.size]? = some (.cells #[Iz x,Iz y,Iz z] 189 (0,0))):=heap_alloc_new _ _;have HRA:=Q3 (i2.quiet hoA);have HPA:=Q3 (i4.kept hoA z0);have jH:=Q3 (i3.trans (hoA.any lo hi));by_cases hx:x=1
     ·subst hx;obtain⟨c,hc,rfl⟩:∃ c:Nat,c<8/\y=c:=by
       rcases HG.out.cases (i:=i) (by omega) with e | ⟨c,c1,c2,e⟩ | ⟨k,_,_,_,e⟩ | e
       ·rw[hp] at e;cases e
       ·rw[hp] at e;simp at e;exact⟨c.toNat,by omega,by omega⟩
       ·rw[hp] at e;cases e
       ·rw[hp] at e;cases e
      have HC:=Q3 hc;have hpn:i<n:=by omega
      have HPn:=Q3 hpn;have HE:=Q3 (j4h HRA.out hpn);unfold z8s at gT;rw[hp,if_pos rfl] at gT;cases hb:(z7u q.P (64*i) (64*i+64) == 0) with
      | true=>
       rw[hb] at HE gT;rw[if_pos rfl] at gT;have HST:=Q3 gT;clear i2 i3 i4 hoA gT hq hp hb;go_wp2_with (first
        | (go_at_call 189;refine HE.out.mono ?_;rintro e w3 ⟨rfl,ho⟩;have fY:=Q3 (HRA.out.quiet ho);have HP3:=Q3 (HPA.out.kept ho z0);have bU:=Q3 (jH.out.trans (ho.any lo hi));obtain⟨d0,d1,d2,d3,d4,d5⟩:=fY.out.cells;clear ho)
        | (go_at_call 187;refine(q9f fY.out.tbl fY.out.tab (i:Int)).mono ?_;rintro e w4 ⟨rfl,hmt,hot⟩))
       have mR:=fY.out.inn 10 (by omega);simp[ln] at mR;refine⟨⟨i+1,by congr 1,by omega,(fY.out.setT hot hmt).congr HST.out.symm,HP3.out.kept hot (.inr (by have:=HGg.out;omega)),bU.out.trans (fY.out.wide (i:=10) (by omega) hot)⟩,by simp[intOf];omega⟩
      | false=>
       rw[hb] at HE gT;rw[if_neg (by simp)] at gT;have HST:=Q3 gT;have HF:=Q3 (fun w3 (h3:RawAt w3 lo hi s n cap q)=>q0n h3 hc hpn);clear i2 i3 i4 hoA gT hq hp hb;go_wp2_with (first
        | (go_at_call 189;refine HE.out.mono ?_;rintro e w3 ⟨rfl,ho⟩;have fY:=Q3 (HRA.out.quiet ho);have HP3:=Q3 (HPA.out.kept ho z0);have bU:=Q3 (jH.out.trans (ho.any lo hi));obtain⟨x0,x1,x2⟩:=box3 (ho.heap HBA.out z0);clear ho)
        | (go_at_call 190;refine(HF.out _ fY.out).mono ?_;rintro e w4 ⟨⟨v,rfl⟩,hr4,dR⟩))
       refine⟨⟨i+1,by congr 1,by omega,hr4.congr HST.out.symm,HP3.out.kept dR (.inr HGg.out),bU.out.trans dR⟩,by simp[intOf];omega⟩
     ·have hst2:dlR n r.S (rsF r 8) (i+1)=q:=by rw[gT];unfold z8s;rw[hp,if_neg hx]
      have HST:=Q3 hst2;clear i2 i3 i4 hoA gT hst2 hq hp;go_wp2;refine⟨⟨i+1,by congr 1,by omega,HRA.out.congr HST.out.symm,HPA.out,jH.out⟩,by simp[intOf];omega⟩
    ·have e:i=n:=by omega
     subst e;have fY:=Q3 i2;have bU:=Q3 i3;clear i2 i3 i4;have hge:(i:Int)<=(i:Int):=Int.le_refl _;go_wp2_with fail;go_loopw [46] (fun u wr=>∃ c:Nat,u=Iz (c:Int)/\c<=8/\RawAt wr lo hi s i cap (lnR i (dlR i r.S (rsF r 8) i) c)/\Out lo hi w wr) (fun u _=>((8:Int)-intOf u).toNat)
     case atStart=>exact⟨0,rfl,Nat.zero_le _,fY.out,bU.out⟩
     case round=>
      clear fY bU;obtain⟨c,rfl,c1,c2,c3⟩:=hrel;have k0:(0:Int)<=(c:Int):=by omega
      have dY:=Q3 c2;have bJ:=Q3 c3;by_cases hl8:(c:Int)<8
      ·have HC:Hid (c<8):=by show _<_;omega
       clear c2 c3;go_wp2_with (go_at_call 191;refine(q0z dY.out HC.out).mono ?_;rintro e w5 ⟨⟨v,rfl⟩,hr5,jB⟩);refine⟨⟨c+1,by congr 1,by omega,hr5,bJ.out.trans jB⟩,by simp[intOf];omega⟩
      ·have e:c=8:=by omega
       subst e;clear c2 c3;go_wp2;exact bodyPost_end (results_none Tryz.results141 _ _ _) rfl ⟨⟨_,rfl⟩,dY.out,bJ.out⟩
end
def V5 (n:Nat) (r:Raw) (kp:Nat->Bool):Nat->Raw
 | 0=>r
 | p+1=>if r.P p && !kp p then (match r.M (p:Int) with | some b=>drR n (V5 n r kp p) p b.2.1 b.2.2.1 | none=>V5 n r kp p) else V5 n r kp p
def U0 (r:Raw) (kp:Nat->Bool):Nat->Nat
 | 0=>0
 | p+1=>if r.P p && !kp p then U0 r kp p+1 else U0 r kp p
theorem z7v (r:Raw) (kp:Nat->Bool):∀ p,U0 r kp p<=p
 | 0=>Nat.le_refl _
 | p+1=>by
  have:=z7v r kp p;unfold U0;cases (r.P p && !kp p) with
  | true=>simp;omega
  | false=>simp;omega
theorem G7 {n:Nat} {r:Raw} {kp:Nat->Bool} (hT:q1g r):∀ p a,(V5 n r kp p).P a=(r.P a && !(decide (a<p) && !kp a))/\(((V5 n r kp p).P a=true\/p<=a)->(V5 n r kp p).M (a:Int)=r.M (a:Int))/\(V5 n r kp p).W=r.W
 | 0,a=>by simp[V5]
 | p+1,a=>by
  obtain⟨h1,h2,h3⟩:=G7 (n:=n) (kp:=kp) hT p a;unfold V5;cases e:(r.P p && !kp p) with
  | false=>
   rw[if_neg (by simp)];refine⟨?_,fun h=>h2 ?_,h3⟩
   ·rw[h1];by_cases ea:a=p
    ·subst ea;rw[Bool.and_eq_false_iff] at e;rcases e with e | e
     ·rw[e];simp
     ·have:kp a=true:=by simpa using e
      rw[this];simp
    ·have:decide (a<p+1)=decide (a<p):=by by_cases hh:a<p <;> simp[hh] <;> omega
     rw[this]
   ·rcases h with h | h
    ·exact .inl h
    ·exact .inr (by omega)
  | true=>
   rw[if_pos rfl];rw[Bool.and_eq_true] at e;obtain⟨b,hb⟩:=hT p e.1;rw[hb];have hk:kp p=false:=by simpa using e.2
   by_cases ea:a=p
   ·subst ea;refine⟨?_,fun h=>?_,h3⟩
    ·show upd _ a false a=_
     unfold upd;rw[if_pos rfl,hk];simp
    ·rcases h with h | h
     ·have:upd (V5 n r kp a).P a false a=true:=h;unfold upd at this;simp at this
     ·omega
   ·refine⟨?_,fun h=>?_,h3⟩
    ·show upd _ p false a=_
     unfold upd;rw[if_neg ea,h1];have:decide (a<p+1)=decide (a<p):=by by_cases hh:a<p <;> simp[hh] <;> omega
     rw[this]
    ·show (if (a:Int)=(p:Int) then none else (V5 n r kp p).M (a:Int))=_
     rw[if_neg (by omega)];refine h2 ?_;rcases h with h | h
     ·have:upd (V5 n r kp p).P p false a=true:=h;unfold upd at this;rw[if_neg ea] at this;exact .inl this
     ·exact .inr (by omega)
theorem q3m {n:Nat} {r:Raw} {kp:Nat->Bool} (hT:q1g r) (p:Nat):q1g (V5 n r kp p):=by
 intro a ha;obtain⟨h1,h2,h3⟩:=G7 (n:=n) (kp:=kp) hT p a;rw[h2 (.inl ha)];rw[h1] at ha;exact hT a (by revert ha;cases r.P a <;> simp)
theorem j1g {n:Nat} {r:Raw} {kp:Nat->Bool} (hT:q1g r) (hR:j0q n r) (p:Nat):j0q n (V5 n r kp p):=by
 have hP:∀ a,(V5 n r kp p).P a=true->r.P a=true:=fun a ha=>by
  rw[(G7 (n:=n) (kp:=kp) hT p a).1] at ha;revert ha;cases r.P a <;> simp
 intro a b ha hb;rw[(G7 (n:=n) (kp:=kp) hT p a).2.1 (.inl ha)] at hb;obtain⟨h1,h2,h3,h4⟩:=hR a b (hP a ha) hb;exact⟨h1,h2,h3,fun a' h5 h6=>h4 a' h5 (hP a' h6)⟩
theorem q3l {n:Nat} {r:Raw} {kp:Nat->Bool} {p:Nat}:∀ {d:Nat},(∀ j,p<=j->j<p+d->r.P j=false)->V5 n r kp (p+d)=V5 n r kp p/\U0 r kp (p+d)=U0 r kp p
 | 0,_=>⟨rfl,rfl⟩
 | d+1,h=>by
  obtain⟨h1,h2⟩:=q3l (n:=n) (kp:=kp) (p:=p) (d:=d) (fun j a b=>h j a (by omega));have e:r.P (p+d)=false:=h _ (by omega) (by omega);constructor
  ·refine Eq.trans ?_ h1
   show V5 n r kp ((p+d)+1)=_
   conv=>lhs;unfold V5
   rw[e];rfl
  ·refine Eq.trans ?_ h2
   show U0 r kp ((p+d)+1)=_
   conv=>lhs;unfold U0
   rw[e];rfl
theorem j4g {n:Nat} {r:Raw} {kp:Nat->Bool} {p k:Nat} (hp:p<=k) (h:∀ j,p<=j->j<k->r.P j=false):V5 n r kp k=V5 n r kp p/\U0 r kp k=U0 r kp p:=by
 obtain⟨d,rfl⟩:∃ d,k=p+d:=⟨k-p,by omega⟩
 exact q3l h
theorem j4f {n:Nat} {r:Raw} {kp:Nat->Bool} {k:Nat} (hk:kp k=true):V5 n r kp (k+1)=V5 n r kp k/\U0 r kp (k+1)=U0 r kp k:=by
 constructor
 ·conv=>lhs;unfold V5
  rw[hk,if_neg (by simp)]
 ·conv=>lhs;unfold U0
  rw[hk,if_neg (by simp)]
theorem j4e {n:Nat} {r:Raw} {kp:Nat->Bool} {k:Nat} {b:Blk} (hP:r.P k=true) (hk:kp k=false) (hb:r.M (k:Int)=some b):V5 n r kp (k+1)=drR n (V5 n r kp k) k b.2.1 b.2.2.1/\U0 r kp (k+1)=U0 r kp k+1:=by
 constructor
 ·conv=>lhs;unfold V5
  rw[hP,hk,hb];rfl
 ·conv=>lhs;unfold U0
  rw[hP,hk];rfl
def kpS (l:List Int):Nat->Bool:=fun j=>l.contains (j:Int)
theorem x6k:kpS []=fun _=>false:=by funext j;unfold kpS;simp
theorem j5e (l:List Int) (a:Nat):upd (kpS l) a true=kpS (l ++ [(a:Int)]):=by
 funext j
 unfold upd kpS;rw[List.contains_append];by_cases e:j=a
 ·rw[if_pos e,e];simp
 ·rw[if_neg e];have:([(a:Int)]).contains (j:Int)=false:=by simp;omega
  rw[this];simp
def q0c (w:World) (p:Option Addr) (l:List Int):Prop:=l=[]\/∃ g,p=some ⟨g,0,none⟩/\g<w.heap.size/\∀ j,j<l.length->w.cell? ⟨g,j,none⟩=some (.int .i64 (l[j]?.getD 0))
def x3w (n:Nat) (r:Raw) (l:List Int):Raw:=x3b n { V5 n r (kpS l) (64*n) with W:=wpW (V5 n r (kpS l) (64*n)) (64*n) }
end Go.Proofs.YtjgnogflgoihfaaGreatDoor
namespace Go.Proofs.YtjgnogflgoihfaaGreatDoor
open Go.RowKit
attribute [local go_sem] Oper.semAt_some
section
variable {w:World} {lo hi n cap:Nat} {s:Nat->Nat} {r:Raw}
theorem j9m (h:RawAt w lo hi s n cap r) (hT:q1g r) (hR:j0q n r) (hM:∀ a b,r.M a=some b->∃ j:Nat,a=j/\j<64*n) {l:List Int} {p:Option Addr} {cp:Nat} (hl:q0c w p l) (hll:(l.length:Int)<9223372036854775807) :
  Calls Tryz.prog 81 #[.pointer (some ⟨s 14,0,none⟩),.slice p l.length cp] w fun e w'=>Out lo hi w w' ∧
   (((∀ a ∈ l,(r.M a).isSome=true)/\e=.returned (.tuple #[.int .i64 ((U0 r (kpS l) (64*n):Nat):Int),.int .i64 0])/\RawAt w' lo hi s n cap (x3w n r l)) ∨
    ((∃ a ∈ l,r.M a=none)/\e=.returned (.tuple #[.int .i64 0,.int .i64 22])/\RawAt w' lo hi s n cap r)):=by
 have kQ:=Q3 h;have HTo:=Q3 hT;have HRo:=Q3 hR;have HMi:=Q3 hM;have HLi:=Q3 hl;have HT:Hid (hi<=w.heap.size/\4<=w.heap.size/\4<=lo/\n<=4096/\1<=n):=⟨h.top,h.tab.lt,h.glob,h.n2,h.n1⟩
 have HLL:=Q3 hll;have HL:=Q3 (fun w=>z9n (s 14) w);have HW:=Q3 (fun W (hr:RawAt W lo hi s n cap r)=>z9p hr);have HN:=Q3 (fun W (hr:RawAt W lo hi s n cap r)=>q9r (64*n) (by have:=h.n2;omega) W hr.tab);have l0:(0:Int)<=(l.length:Int):=by omega
 clear h hT hR hM hl;refine(callsIn_wide (n:=0)).1 ?_;refine callsIn_of_wp_marks Tryz.func81 rfl trivial ?_ rfl;simp only[Tryz.ntmps81,List.size_toArray,List.length_cons,List.length_nil,Nat.reduceAdd,Nat.reduceSub,Array.replicate_succ,Array.replicate_zero,List.push_toArray,List.append_toArray,List.nil_append,List.cons_append];gi_wp2_with (refine⟨trivial,rfl,?_⟩;gi_at_call 85;refine(callsIn_wide.2 (z2i _ _)).mono ?_;rintro e w1 ⟨rfl,rfl⟩);obtain⟨W0,jM⟩:∃ W0,w.alloc (.cells #[.pointer (some ⟨s 14,0,none⟩)] 76)=W0:=⟨_,rfl⟩
 have hs0:W0.heap.size=w.heap.size+1:=by rw[<-jM];simp
 have HO0:Hid (Out 0 0 w W0):=by rw[<-jM];exact((Out.refl 0 0 w).alloc _)
 have HB0:Hid (Box W0 w.heap.size 76 (.pointer (some ⟨s 14,0,none⟩))):=by rw[<-jM];exact Box.new _ _ _
 rw[jM];clear jM;have jQ:=kQ.out.quiet HO0.out;have HNo:=Q3 (HN.out W0 jQ);have HWo:=Q3 (HW.out W0 jQ);rw[hs0] at HNo;clear hs0 jQ HN HW;refine⟨trivial,rfl,?_⟩;refine(callsIn_wide.2 HWo.out).mono ?_;rintro e w1 ⟨rfl,rfl⟩;gi_wp2_with (refine⟨trivial,rfl,?_⟩;gi_at_call 98;refine(callsIn_wide.2 HNo.out).mono ?_;rintro e w1 ⟨rfl,hm1,gJ,hs1⟩);obtain⟨W2,jL⟩:∃ W2,w1.alloc (.cells #[.pointer (some ⟨w.heap.size+1+1,0,none⟩)] 137)=W2:=⟨_,rfl⟩
 have eH:Out 0 0 w1 W2:=by rw[<-jL];exact((Out.refl 0 0 _).alloc _)
 have jC:Box W2 (w.heap.size+1+2) 137 (.pointer (some ⟨w.heap.size+1+1,0,none⟩)):=by rw[<-jL,show w.heap.size+1+2=w1.heap.size from by omega];exact Box.new _ _ _
 have iH:W2.heap.size=w.heap.size+4:=by rw[<-jL];simp;omega
 have aH:=Q3 ((HO0.out.trans gJ).trans eH);have jN:=Q3 (HB0.out.kept (gJ.trans eH) z0);have HK2:=Q3 jC;have HM2:=Q3 (hm1.quiet eH);have HZ2:=Q3 iH;try rw[jL]
 clear jL gJ hm1 eH jC iH HNo HWo HO0 HB0;gi_loopw [20] (fun u wr=>∃ i:Nat,u=.int .i64 (i:Int)/\i<=l.length/\(∀ a ∈ l.take i,(r.M a).isSome=true)/\RawAt wr lo hi s n cap r/\Box wr w.heap.size 76 (.pointer (some ⟨s 14,0,none⟩))/\Box wr (w.heap.size+1+2) 137 (.pointer (some ⟨w.heap.size+1+1,0,none⟩))/\MapAt wr (w.heap.size+1) (w.heap.size+1+2) (w.heap.size+1+1) (64*n) (kpS (l.take i))/\Out 0 0 w wr) (fun u _=>((l.length:Int)-intOf u).toNat)
 case atStart=>exact⟨0,rfl,Nat.zero_le _,fun a ha=>by simp at ha,kQ.out.quiet aH.out,jN.out,HK2.out,by rw[List.take_zero,x6k];exact HM2.out,aH.out⟩
 case round=>
  clear jN HK2 HM2 aH HZ2;obtain⟨i,rfl,i1,i2,i3,i4,i5,i6,i7⟩:=hrel;have HA:=Q3 (And.intro i2 (And.intro i3 (And.intro i4 (And.intro i5 (And.intro i6 i7)))));have j0:(0:Int)<=(i:Int):=by omega
  by_cases dD:(i:Int)<(l.length:Int)
  ·obtain⟨g,rfl,hg,hgc⟩:∃ g,p=some ⟨g,0,none⟩/\g<w.heap.size/\∀ j,j<l.length->w.cell? ⟨g,j,none⟩=some (.int .i64 (l[j]?.getD 0)):=by
    rcases HLi.out with e | e
    ·rw[e] at dD;simp at dD;omega
    ·exact e
   have q0:=i7.cell (hgc i (by omega)) z0;obtain⟨a,ha⟩:∃ a,l[i]?.getD 0=a:=⟨_,rfl⟩
   rw[ha] at q0;have hmem:l.take (i+1)=l.take i ++ [a]:=by
    rw[List.take_add_one,List.getElem?_eq_getElem (by omega)];rw[List.getElem?_eq_getElem (by omega)] at ha;simp at ha;rw[ha];rfl
   have c0:=i4.cell;have c1:=i5.cell;obtain⟨d0,d1,d2,d3,d4,d5⟩:=i3.cells;have lW:=i3.look true a;cases hma:r.M a with
   | none=>
    have e1:z7f r.M a=none:=by unfold z7f;rw[hma];rfl
    rw[e1] at lW;simp only[Option.getD_none,Option.isSome_none,if_true] at lW;have HE:Hid (∃ a ∈ l,r.M a=none):=⟨a,by rw[<-List.take_append_drop (i+1) l,hmem];simp,hma⟩
    clear i2 i3 i4 i5 i6 i7 hmem hma e1 ha hg hgc;gi_wp2;refine⟨_,results_tmp2 rfl _ _ _,?_⟩;exact⟨(HA.out.2.2.2.2.2.any lo hi).trans (((Out.refl 0 0 wr).alloc _).any lo hi),.inr ⟨HE.out,rfl,HA.out.2.1.quiet ((Out.refl 0 0 wr).alloc _)⟩⟩
   | some b=>
    obtain⟨b1,b2,b3,b4⟩:=b;have e1:z7f r.M a=some (.agg #[.int .i64 a,.int .i64 b1,.int .i64 b2,.int .i64 b3,.int .i64 b4]):=by unfold z7f;rw[hma];rfl
    rw[e1] at lW;simp only[Option.getD_some,Option.isSome_some,if_true] at lW;obtain⟨j,rfl,hj⟩:=HMi.out a _ hma;have HJ:=Q3 hj;have HM:=Q3 hmem;have HS:=Q3 hma;clear i2 i3 i4 i5 i6 i7 hmem hma e1 ha hg hgc hj;have hoA:Out 0 0 wr (wr.alloc (.cells #[.int .i64 (j:Int),.int .i64 b1,.int .i64 b2,.int .i64 b3,.int .i64 b4] 81)):=(Out.refl 0 0 _).alloc _;have jH:=Q3 hoA;have HSt:=Q3 (q8i (HA.out.2.2.2.2.1.quiet hoA) (j:Int));have c2:=(HA.out.2.2.2.1.kept hoA z0).cell;clear hoA;gi_wp2_with (refine⟨trivial,rfl,?_⟩;gi_at_call 136;refine(callsIn_wide.2 HSt.out).mono ?_;rintro e w4 ⟨rfl,hm4,dR⟩);have hT:=HT.out;refine⟨⟨i+1,by congr 1,by omega,?_,(HA.out.2.1.quiet jH.out).kept dR (.inl (by omega)) (.inl (by omega)),(HA.out.2.2.1.kept jH.out z0).kept dR (by omega),(HA.out.2.2.2.1.kept jH.out z0).kept dR (by omega),?_,(HA.out.2.2.2.2.2.trans jH.out).past dR (by omega)⟩,by simp[intOf];omega⟩
    ·rw[HM.out];intro a' ha';rw[List.mem_append] at ha';rcases ha' with ha' | ha'
     ·exact HA.out.1 a' ha'
     ·simp at ha';rw[ha',HS.out];rfl
    ·rw[HM.out,<-j5e];have e5:q5c (kpS (l.take i)) (64*n) (j:Int) true=upd (kpS (l.take i)) j true:=by
      unfold q5c;rw[if_pos (show inB (64*n) (j:Int)=true from by unfold inB;simp;have:=HJ.out;omega)];rfl
     rw[<-e5];exact hm4
  ·have e:i=l.length:=by omega
   subst e;clear i2 i3 i4 i5 i6 i7;rw[List.take_length] at HA;have hge:(l.length:Int)<=(l.length:Int):=Int.le_refl _;have c0:=(HA.out.2.2.1.kept ((Out.refl 0 0 wr).alloc (.cells #[.int .i64 0] 3)) z0).cell;gi_wp2_with (refine⟨trivial,rfl,?_⟩;gi_at_call 137;refine(callsIn_wide.2 (HL.out _)).mono ?_;rintro e w1 ⟨rfl,rfl⟩);have HC:=Q3 (And.intro HA.out.1 (And.intro HA.out.2.1 (And.intro HA.out.2.2.1 (And.intro HA.out.2.2.2.1 (And.intro HA.out.2.2.2.2.1 HA.out.2.2.2.2.2)))));obtain⟨W1,cC⟩:∃ W1,(wr.alloc (.cells #[.int .i64 0] 3)).alloc (.cells #[.pointer (some ⟨s 14,0,none⟩)] 76)=W1:=⟨_,rfl⟩
   obtain⟨G,hG⟩:∃ G,wr.heap.size=G:=⟨_,rfl⟩
   have hs1:W1.heap.size=G+2:=by rw[<-cC,<-hG];simp
   have gJ:Out 0 0 wr W1:=by rw[<-cC];exact((Out.refl 0 0 wr).alloc _).alloc _
   have lS:Box W1 G 3 (.int .i64 0):=by rw[<-cC,<-hG];exact J0
   have hz1:Box W1 (G+1) 76 (.pointer (some ⟨s 14,0,none⟩)):=by rw[<-cC,<-hG];exact heap_alloc2_new _ _ _
   have HGG:Hid (w.heap.size+4<=G):=by show _<=_;have:=HC.out.2.2.2.1.lt;omega
   rw[cC,hG];have bM:=Q3 gJ;have HX1:=Q3 lS;have HZ1:=Q3 hz1;clear cC gJ lS hz1 HA c0 hge dD i1 j0 hG;refine j5v (lo:=lo) (hi:=hi) (n:=n) (cap:=cap) (g:=G+1) (s:=s) rfl rfl
    (fun p W=>p<=64*n/\RawAt W lo hi s n cap (V5 n r (kpS l) p)/\Box W w.heap.size 76 (.pointer (some ⟨s 14,0,none⟩))/\Box W (w.heap.size+1+2) 137 (.pointer (some ⟨w.heap.size+1+1,0,none⟩))/\MapAt W (w.heap.size+1) (w.heap.size+1+2) (w.heap.size+1+1) (64*n) (kpS l)/\Box W G 3 (.int .i64 ((U0 r (kpS l) p:Nat):Int))/\Box W (G+1) 76 (.pointer (some ⟨s 14,0,none⟩))/\Out lo hi w W)
    (fun W=>RawAt W lo hi s n cap (V5 n r (kpS l) (64*n))/\Box W w.heap.size 76 (.pointer (some ⟨s 14,0,none⟩))/\Box W G 3 (.int .i64 ((U0 r (kpS l) (64*n):Nat):Int))/\Out lo hi w W)
    (fun c W=>False) ?hm1 ?hq1 ?hqk1 ?hqx1 ?hy1 ?he1 ?hz1 ?hdone1 ?hstop1
   case hm1=>
    rintro p W ⟨hp,a1,a2,a3,a4,a5,a6,a7⟩;exact⟨hp,_,a1,q3m HTo.out p,a6⟩
   case hq1=>
    rintro p W W' x y ⟨hp,a1,a2,a3,a4,a5,a6,a7⟩ o hx;have hT:=HT.out;have hgg:=HGG.out;exact⟨hp,a1.kept o (by omega) (by omega),a2.kept o (by omega),a3.kept o (by omega),a4.kept o (by omega) (by omega),a5.kept o (by omega),a6.kept o (by omega),Y5 a7 o (by omega)⟩
   case hqk1=>
    rintro W W' x y ⟨a1,a2,a3,a4⟩ o hx;have hT:=HT.out;have hgg:=HGG.out;exact⟨a1.kept o (by omega) (by omega),a2.kept o (by omega),a3.kept o (by omega),Y5 a4 o (by omega)⟩
   case hqx1=>exact fun c W W' x y h _ _=>h
   case hstop1=>exact fun c W h _=>h.elim
   case hz1=>
    have o:=bM.out;exact⟨Nat.zero_le _,HC.out.2.1.quiet o,HC.out.2.2.1.kept o z0,HC.out.2.2.2.1.kept o z0,HC.out.2.2.2.2.1.quiet o,HX1.out,HZ1.out,(HC.out.2.2.2.2.2.trans o).any _ _⟩
   case he1=>
    rintro p W rr ⟨hp,a1,a2,a3,a4,a5,a6,a7⟩ hr hk;obtain⟨eP,eM⟩:=z6s a1 hr;rw[<-eP] at hk;rcases U4 (V5 n r (kpS l) p).P (64*n) p with ⟨_,hz⟩ | ⟨i,bQ,_⟩
    ·obtain⟨e1,e2⟩:=j4g (n:=n) (r:=r) (kp:=kpS l) hp (fun j j1 j2=>by
      have:=hz j j1 j2;rw[(G7 (n:=n) (kp:=kpS l) HTo.out p j).1,show decide (j<p)=false from by simp;omega] at this;simpa using this)
     exact⟨by rw[e1];exact a1,a2,by rw[e2];exact a5,a7⟩
    ·have:(-1:Int)=i:=hk.symm.trans bQ;omega
   case hy1=>
    rintro p W rr k b ⟨hp,a1,a2,a3,a4,a5,a6,a7⟩ hr hk hb gQ;obtain⟨eP,eM⟩:=z6s a1 hr;rw[<-eP] at hk;rw[<-eM] at hb;have hK1:=G7 (n:=n) (kp:=kpS l) HTo.out p;have hrP:∀ j,p<=j->(V5 n r (kpS l) p).P j=r.P j:=fun j hj=>by
     rw[(hK1 j).1,show decide (j<p)=false from by simp;omega];simp
    obtain⟨hpk,hkn,hPk,hz⟩:p<=k/\k<64*n/\r.P k=true/\∀ j,p<=j->j<k->r.P j=false:=by
     rcases U4 (V5 n r (kpS l) p).P (64*n) p with ⟨e1,_⟩ | ⟨i,e1,e2,e3,e4,e5⟩
     ·have:(-1:Int)=k:=e1.symm.trans hk;omega
     ·have:i=k:=by have:(i:Int)=k:=e1.symm.trans hk;omega
      subst this;exact⟨e3 hp,e2,by rw[<-hrP i (e3 hp)];exact e4,fun j j1 j2=>by rw[<-hrP j j1];exact e5 j j1 j2⟩
    have jK:r.M (k:Int)=some b:=by rw[<-(hK1 k).2.1 (.inr hpk)];exact hb
    obtain⟨e1,e2⟩:=j4g (n:=n) (r:=r) (kp:=kpS l) hpk hz;rw[<-e1] at a1;rw[<-e2] at a5;rw[hs1] at gQ ⊢;have hRo:=HRo.out k b hPk jK;have mS:=fun hkk=>j4e (n:=n) (r:=r) (kp:=kpS l) hPk hkk jK
    have hfl:=z7v r (kpS l) k;obtain⟨b1,b2,b3,b4⟩:=b;have A:=Q3 (And.intro a1 (And.intro a2 (And.intro a3 (And.intro a4 (And.intro a5 (And.intro a6 a7))))));have HKn:=Q3 (And.intro hkn (And.intro gQ hfl));have HRk:=Q3 hRo;have HGo:=Q3 mS;clear a1 a2 a3 a4 a5 a6 a7 hr hk hb eP eM hz hPk jK hRo hp hpk hkn gQ e1 e2 hK1 hrP mS hfl;unfold j0t;dsimp only at A HRk HGo ⊢;obtain⟨f,hf⟩:∃ f:Nat,U0 r (kpS l) k=f:=⟨_,rfl⟩
    obtain⟨q,hq⟩:∃ q,V5 n r (kpS l) k=q:=⟨_,rfl⟩
    rw[hf,hq] at A HGo;rw[hf] at HKn;obtain⟨WA,hWA⟩:∃ WA,W.alloc (bo (k:Int) b1 b2 b3 b4)=WA:=⟨_,rfl⟩
    have HBA:Hid (WA.heap[W.heap.size]? = some (bo (k:Int) b1 b2 b3 b4)):=by rw[<-hWA];exact heap_alloc_new _ _
    have jH:Hid (Out 0 0 W WA):=by rw[<-hWA];exact(Out.refl 0 0 W).alloc _
    obtain⟨H,hH⟩:∃ H,W.heap.size=H:=⟨_,rfl⟩
    rw[hH] at HKn HBA;unfold bo at hWA;gi_wp2;(try rw[hWA]);refine⟨jH.out.any _ _,?_⟩;(try rw[hH]);clear hWA hH;intro W2 o2;have hT:=HT.out;have hgg:=HGG.out;have hkk:=HKn.out;have cV:=Q3 ((A.out.1.quiet jH.out).kept o2 (.inl (by omega)) (.inl (by omega)));have oH:=Q3 ((A.out.2.1.kept jH.out z0).kept o2 (.inl (by omega)));have HK2:=Q3 ((A.out.2.2.1.kept jH.out z0).kept o2 (.inl (by omega)));have HM2:=Q3 ((A.out.2.2.2.1.quiet jH.out).kept o2 (.inl (by omega)) (.inl (by omega)));have eJ:=Q3 ((A.out.2.2.2.2.1.kept jH.out z0).kept o2 (.inl (by omega)));have HZ2:=Q3 ((A.out.2.2.2.2.2.1.kept jH.out z0).kept o2 (.inl (by omega)));have jN:=Q3 (o2.heap HBA.out (.inr (by omega)));have aH:=Q3 (Y5 (Y5 A.out.2.2.2.2.2.2 jH.out (.inr rfl)) o2 (.inl (by omega)));have HGt:=Q3 (j4s HM2.out (k:Int));have bD:j9f (kpS l) (64*n) (k:Int)=kpS l k:=by
     unfold j9f;rw[show inB (64*n) (k:Int)=true from by unfold inB;simp;omega];simp
    rw[bD] at HGt;have c0:=HK2.out.cell;obtain⟨q0,q1,q2,q3,q4⟩:=F0 jN.out;have f0:(0:Int)<=(f:Int):=by omega
    have f1:(f:Int)<=262144:=by omega
    clear o2 hT hgg hkk bD A;cases hkp:kpS l k with
    | true=>
     rw[hkp] at HGt;obtain⟨g1,g2⟩:=j4f (n:=n) (r:=r) (kp:=kpS l) hkp;rw[hq] at g1;rw[hf] at g2;have HG1:=Q3 g1;have HG2:=Q3 g2;clear g1 g2 hkp hf hq HGo;gi_wp2_with (refine⟨trivial,rfl,?_⟩;gi_at_call 138;refine(callsIn_wide.2 HGt.out).mono ?_;rintro e w3 ⟨rfl,dU⟩);refine⟨dU.any _ _,by have:=HKn.out;omega,by rw[HG1.out];exact cV.out.quiet dU,oH.out.kept dU z0,HK2.out.kept dU z0,HM2.out.quiet dU,by rw[HG2.out];exact eJ.out.kept dU z0,HZ2.out.kept dU z0,Y5 aH.out dU (.inr rfl)⟩
    | false=>
     rw[hkp] at HGt;obtain⟨g1,g2⟩:=HGo.out hkp;have HG1:=Q3 g1;have HG2:=Q3 g2;clear g1 g2 hkp hf hq HGo;gi_wp2_with (first
      | (refine⟨trivial,rfl,?_⟩;gi_at_call 138;refine(callsIn_wide.2 HGt.out).mono ?_;rintro e w3 ⟨rfl,dU⟩;have fY:=Q3 (cV.out.quiet dU);have bU:=Q3 dU;have d0:=(oH.out.kept dU z0).cell;clear q0 q1 q2 q3 q4;obtain⟨q0,q1,q2,q3,q4⟩:=F0 (dU.heap jN.out z0);clear dU)
      | (refine⟨trivial,rfl,?_⟩;gi_at_call 139;refine(callsIn_wide.2 (j8v fY.out (a:=k) (k:=b1) (z:=b2) (x:=b3) (t:=b4) HRk.out.1 HRk.out.2.1 HKn.out.1)).mono ?_;rintro e w4 ⟨⟨v,rfl⟩,hr4,dR⟩;have dY:=Q3 hr4;have bJ:=Q3 dR;have eG:=(eJ.out.kept bU.out z0).kept dR (.inr (by have:=HT.out;have:=HGG.out;omega));have fM:=Q3 eG;have e0:=eG.cell;have e1:=eG.frozen;clear hr4 dR eG))
     have jO:=(Out.refl G (G+1) w4).setCell (p:=⟨G,0,none⟩) z1 (.int .i64 ((f:Int)+1));have hbx:=fM.out.set (.int .i64 ((f:Int)+1));have hT:=HT.out;have hgg:=HGG.out;have hkk:=HKn.out;have h3:=bU.out;have h4:=bJ.out;exact⟨((h3.any 0 (G+2)).trans (h4.wide (Nat.zero_le _) (by omega))).trans (jO.wide (Nat.zero_le _) (by omega)),by omega,by rw[HG1.out];exact dY.out.kept jO (.inl (by omega)) (.inl (by omega)),((oH.out.kept h3 z0).kept h4 (by omega)).kept jO (by omega),((HK2.out.kept h3 z0).kept h4 (by omega)).kept jO (by omega),((HM2.out.quiet h3).kept h4 (.inr (by omega)) (.inl (by omega))).kept jO (.inl (by omega)) (.inl (by omega)),by rw[HG2.out];exact hbx,((HZ2.out.kept h3 z0).kept h4 (by omega)).kept jO (by omega),Y5 ((aH.out.trans (h3.any lo hi)).trans h4) jO (.inl (by omega))⟩
   case hdone1=>
    rintro W ⟨a1,a2,a3,a4⟩ hd;rw[hs1] at hd;have HD:=Q3 hd;have HS:=Q3 a2;have HF:=Q3 a3;have HO:=Q3 a4;have HWp:=Q3 (x1i a1 (q3m HTo.out _) (j1g HTo.out HRo.out _));have c0:=a2.cell;obtain⟨f,hf⟩:∃ f:Nat,U0 r (kpS l) (64*n)=f:=⟨_,rfl⟩
    rw[hf] at HF;rw[hs1];clear a1 a2 a3 a4 hd;gi_wp2_with (first
     | (refine⟨trivial,rfl,?_⟩;gi_at_call 140;refine(callsIn_wide.2 HWp.out).mono ?_;rintro e w3 ⟨⟨v,rfl⟩,hr3,dU⟩;have HDl:=Q3 (j8t hr3);have bU:=Q3 dU;have d0:=(HS.out.kept dU (.inr (by have:=HT.out;omega))).cell;clear hr3 dU)
     | (refine⟨trivial,rfl,?_⟩;gi_at_call 141;refine(callsIn_wide.2 HDl.out).mono ?_;rintro e w4 ⟨⟨v,rfl⟩,hr4,dR⟩;have dY:=Q3 hr4;have bJ:=Q3 dR;have e0:=((HF.out.kept bU.out (.inr (by have:=HT.out;have:=HGG.out;omega))).kept dR (.inr (by have:=HT.out;have:=HGG.out;omega))).cell;clear hr4 dR))
    have hT:=HT.out;have hgg:=HGG.out;refine⟨by simp,.inl ⟨_,_,rfl,run_takeDeferred (bJ.out.heap (bU.out.heap HD.out (.inr (by omega))) (.inr (by omega))),?_⟩⟩;exact⟨_,results_tmp2 rfl _ _ _,Y5 ((HO.out.trans bU.out).trans bJ.out) (W6 _ _ _) (by omega),.inl ⟨HC.out.1,by rw[hf];rfl,dY.out.kept (W6 _ _ _) (by omega) (by omega)⟩⟩
end
end Go.Proofs.YtjgnogflgoihfaaGreatDoor
namespace Go.Proofs.YtjgnogflgoihfaaGreatDoor
open Go.RowKit
section
variable {w:World} {lo hi n cap:Nat} {s:Nat->Nat} {r:Raw} {B G:Nat} {T:Nat->Int × Int × Int} {tb:Value} {fr fs:Nat->Int}
theorem of_lt (z:Int) (hp:¬ 0<B5 z) (h:0<=ofV z):∃ c:Nat,ofV z=(c:Int)/\c<8:=by
 have hz:z<=32\/1024<z:=by
  by_cases hh:32<z/\z<=1024
  ·unfold B5 at hp;rw[if_pos hh] at hp;omega
  ·omega
 have:ofV z<=7:=by
  unfold ofV;repeat' split
  all_goals omega
 exact⟨(ofV z).toNat,by omega,by omega⟩
end
end Go.Proofs.YtjgnogflgoihfaaGreatDoor
