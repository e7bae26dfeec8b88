import Derived.Test.YtjgnogflgoihfaaGreatDoorP11
import Derived.Laws.FloatArith
namespace Go.Proofs.YtjgnogflgoihfaaGreatDoor
open Go.RowKit
set_option linter.unusedVariables false
set_option maxRecDepth 100000
set_option maxHeartbeats 16000000
set_option linter.unusedSimpArgs false
def rPo (D:Nat) (W2:World) (J:World->Prop) (Kx:Code->World->Prop):Exit->Act->World->Prop
 | .normal,_,W=>Out 0 D W2 W/\J W
 | .ret,_,W=>Out 0 D W2 W/\Kx .ret W
 | .exit id,_,W=>Out 0 D W2 W/\Kx (.exit id) W
 | .goto t,_,W=>Out 0 D W2 W/\Kx (.goto t) W
 | .panic _,_,_=>False
 | .outgrown,_,_=>False
theorem z6j {D:Nat} {W Wa W2 W3 W':World} (h1:Out 0 D W Wa) (h2:Out (D+1) (D+2) Wa W2) (h3:Out 0 D W2 W3) (h4:Out (D+1) (D+2) W3 W'):Out 0 (D+2) W W':=
 ((h1.wide (Nat.le_refl _) (by omega)).trans (h2.wide (Nat.zero_le _) (by omega))).trans ((h3.wide (Nat.le_refl _) (by omega)).trans (h4.wide (Nat.zero_le _) (by omega)))
theorem z5f {D:Nat} {W Wa W2 W3 W':World} {o:Obj} (h1:Out 0 D W Wa) (h2:Out (D+1) (D+2) Wa W2) (h3:Out 0 D W2 W3) (h4:Out (D+1) (D+2) W3 W') (h:W.heap[D]? = some o):W'.heap[D]? = some o:=
 h4.heap (h3.heap (h2.heap (h1.heap h (by omega)) (by omega)) (by omega)) (by omega)
theorem x1j {P:Program} {a:Act} {ps:Array Tmp} {assign body:Code} {D:Nat} {eJ:LoopState->Option Code->Loop} {W:World} {args:Array Value} {J':World->Prop} {Kx:Code->World->Prop}
  (gV:j8u a ps assign body D eJ) (hd:W.heap[D]? = some (.deferred (some []))) (hl:W.heap[D+1]? = some (.loop (eJ .ready none))) (hs:args.size=ps.size)
  (hq:∀ W W' x y,J' W->Out x y W W'->(D<=x\/y=0)->J' W') (hqX:∀ c W W' x y,Kx c W->Out x y W W'->D<=x->Kx c W')
  (h:assign.wpIn (Fence.wide.inRound (D+1)) 0 P (Exit.then (fun a1 Wa=>Out 0 D W Wa/\∀ W2,Out (D+1) (D+2) Wa W2->body.wpIn (Fence.wide.inRound (D+1)) 0 P (rPo D W2 J' Kx) a1 W2) (fun _ _ _=>False))
   { tmps:=(ps.zip args).foldl (fun t (p,v)=>t.setIfInBounds p v) a.tmps,defers:=[] } W) :
  YieldAt Fence.wide 0 P (D+1) args W fun e W'=>Out 0 (D+2) W W'/\((e=.returned (.bool true)/\J' W'/\W'.heap[D]? = some (.deferred (some []))/\W'.heap[D+1]? = some (.loop (eJ .ready none))) ∨
   (e=.returned (.bool false)/\∃ c,Kx c W'/\W'.heap[D]? = some (.deferred (some []))/\W'.heap[D+1]? = some (.loop (eJ .done (some c))))):=by
 refine z3j gV hl hs (wpIn_mono h ?_);rintro e a1 Wa he;cases e with
 | normal=>
  obtain⟨o1,hb⟩:=he;refine⟨o1.heap hl (.inr (by omega)),fun W2 o2 nN=>wpIn_mono (hb W2 o2) ?_⟩;rintro e2 a2 W3 hp;cases e2 with
  | normal=>exact⟨hp.1.heap nN (.inr (by omega)),fun W' o4 hl4=>⟨z6j o1 o2 hp.1 o4,.inl ⟨rfl,hq _ _ _ _ hp.2 o4 (.inl (by omega)),z5f o1 o2 hp.1 o4 hd,hl4⟩⟩⟩
  | ret=>exact⟨hp.1.heap nN (.inr (by omega)),fun W' o4 hl4=>⟨z6j o1 o2 hp.1 o4,.inr ⟨rfl,_,hqX _ _ _ _ _ hp.2 o4 (by omega),z5f o1 o2 hp.1 o4 hd,hl4⟩⟩⟩
  | exit id=>exact⟨hp.1.heap nN (.inr (by omega)),fun W' o4 hl4=>⟨z6j o1 o2 hp.1 o4,.inr ⟨rfl,_,hqX _ _ _ _ _ hp.2 o4 (by omega),z5f o1 o2 hp.1 o4 hd,hl4⟩⟩⟩
  | goto t=>exact⟨hp.1.heap nN (.inr (by omega)),fun W' o4 hl4=>⟨z6j o1 o2 hp.1 o4,.inr ⟨rfl,_,hqX _ _ _ _ _ hp.2 o4 (by omega),z5f o1 o2 hp.1 o4 hd,hl4⟩⟩⟩
  | panic ch=>exact hp.elim
  | outgrown=>exact hp.elim
 | ret=>exact he.elim
 | exit id=>exact he.elim
 | goto t=>exact he.elim
 | panic ch=>exact he.elim
 | outgrown=>exact he.elim
theorem j6p {lo hi n cap g:Nat} {s:Nat->Nat} {op:Operand} {ps:Array Tmp} {assign body:Code} {Q:Exit->Act->World->Prop} {a:Act} {w:World}
  (hg:a.eval op=.func (.func 184) #[] #[.pointer (some ⟨g,0,none⟩)]) (hps:ps.size=1)
  (J:Nat->World->Prop) (K:World->Prop) (Kx:Code->World->Prop)
  (hm:∀ p W,J p W->p<=64*n/\∃ r,RawAt W lo hi s n cap r/\q2e r/\Box W g 76 (.pointer (some ⟨s 14,0,none⟩)))
  (hq:∀ p W W' x y,J p W->Out x y W W'->(w.heap.size<=x\/y=0)->J p W')
  (hqK:∀ W W' x y,K W->Out x y W W'->w.heap.size<=x->K W')
  (hqX:∀ c W W' x y,Kx c W->Out x y W W'->w.heap.size<=x->Kx c W')
  (hy:∀ p W r (k:Nat) b,J p W->RawAt W lo hi s n cap r->nxr r.P (64*n) p=k->r.M (k:Int)=some b->w.heap.size+2<=W.heap.size ->
   assign.wpIn (Fence.wide.inRound (w.heap.size+1)) 0 Tryz.prog (Exit.then (fun a1 Wa=>Out 0 w.heap.size W Wa/\∀ W2,Out (w.heap.size+1) (w.heap.size+2) Wa W2->body.wpIn (Fence.wide.inRound (w.heap.size+1)) 0 Tryz.prog (rPo w.heap.size W2 (J (k+1)) Kx) a1 W2) (fun _ _ _=>False))
    { tmps:=(ps.zip #[j1q k b]).foldl (fun t (p,v)=>t.setIfInBounds p v) a.tmps,defers:=[] } W)
  (he:∀ p W r,J p W->RawAt W lo hi s n cap r->nxr r.P (64*n) p = -1->K W) (h0:J 0 w)
  (hdone:∀ W,K W->W.heap[w.heap.size]? = some (.deferred (some []))->Q .normal { a with defers:={ target:=.collected w.heap.size,args:=#[] } :: a.defers } W)
  (hstop:∀ c W,Kx c W->W.heap[w.heap.size]? = some (.deferred (some []))->c.wpIn Fence.wide 0 Tryz.prog Q { a with defers:={ target:=.collected w.heap.size,args:=#[] } :: a.defers } W) :
  (Code.rangeFunc op ps assign body).wpIn Fence.wide 0 Tryz.prog Q a w:=by
 refine z3h hg (enters_of Tryz.func184 (by kernel_rfl) rfl) K Kx ?H (fun W W' hK ho hd=>hdone W' (hqK _ _ _ _ hK ho (by omega)) hd) (fun c W W' hK ho hd=>hstop c W' (hqX _ _ _ _ _ hK ho (by omega)) hd);intro eJ gV W1 cZ;have ho:Out 0 0 w W1:=by rw[cZ];exact((Out.refl 0 0 w).alloc _).alloc _
 have hs:W1.heap.size=w.heap.size+2:=by rw[cZ];simp
 have hd:W1.heap[w.heap.size]? = some (.deferred (some [])):=by rw[cZ];exact J3
 have hl:W1.heap[w.heap.size+1]? = some (.loop (eJ .ready none)):=by rw[cZ];exact heap_alloc2_new _ _ _
 clear cZ;refine(j3d (lo:=lo) (hi:=hi) (n:=n) (cap:=cap) (s:=s) (g:=g) (l:=w.heap.size+1)
  (fun p W=>J p W/\W.heap[w.heap.size]? = some (.deferred (some []))/\W.heap[w.heap.size+1]? = some (.loop (eJ .ready none)))
  (fun W=>K W/\W.heap[w.heap.size]? = some (.deferred (some []))/\W.heap[w.heap.size+1]? = some (.loop (eJ .ready none)))
  (fun W=>∃ c,Kx c W/\W.heap[w.heap.size]? = some (.deferred (some []))/\W.heap[w.heap.size+1]? = some (.loop (eJ .done (some c)))) (w:=W1) ?m ?q ?qj ?qx ?y ?e ?z).mono ?_
 case m=>exact fun p W h=>hm p W h.1
 case q=>exact fun p W W' x y h o hx=>⟨hq p W W' x y h.1 o (by omega),o.heap h.2.1 (by omega),o.heap h.2.2 (by omega)⟩
 case qj=>exact fun W W' x y h o hx=>⟨hqK W W' x y h.1 o (by omega),o.heap h.2.1 (by omega),o.heap h.2.2 (by omega)⟩
 case qx=>rintro W W' x y ⟨c,h1,h2,h3⟩ o hx;exact⟨c,hqX c W W' x y h1 o (by omega),o.heap h2 (by omega),o.heap h3 (by omega)⟩
 case y=>
  rintro p W r k b ⟨hj,oT,hl1⟩ hr hk hb;rw[hs];refine x1j gV oT hl1 (by simp[hps]) (hq (k+1)) hqX (hy p W r k b hj hr hk hb ?_);have:=Q8 hl1;omega
 case e=>exact fun p W r h hr hk=>⟨he p W r h.1 hr hk,h.2⟩
 case z=>exact⟨hq 0 w W1 0 0 h0 ho (.inr rfl),hd,hl⟩
 rintro e W ⟨hv,⟨h1,h2,h3⟩ | ⟨c,h1,h2,h3⟩⟩
 ·exact⟨hv,h2,.inl ⟨h1,h3⟩⟩
 ·exact⟨hv,h2,.inr ⟨c,h1,h3⟩⟩
theorem x6x {w:World} {b:Nat} {f f':Int->Option Value} (h:MpAt w b f) (h':MpAt w b f'):f=f':=by
 obtain⟨es,cl,hb,_,_,h1⟩:=h;obtain⟨es',cl',kW,_,_,h2⟩:=h';rw[hb] at kW;simp at kW;obtain⟨rfl,rfl⟩:=kW;funext a
 apply Option.ext;intro v;rw[h1 a v,h2 a v]
theorem z7i {w:World} {lo hi n cap:Nat} {s:Nat->Nat} {r r':Raw} (h:RawAt w lo hi s n cap r) (h':RawAt w lo hi s n cap r'):r.P=r'.P/\r.M=r'.M:=by
 refine⟨MapAt.one h.places h'.places,?_⟩;have e:=x6x h.objs h'.objs;funext a
 have ea:=congrFun e a;unfold z7u at ea;cases x:r.M a with
 | none=>
  rw[x] at ea;cases y:r'.M a with
  | none=>rfl
  | some b=>rw[y] at ea;cases ea
 | some b=>
  rw[x] at ea;cases y:r'.M a with
  | none=>rw[y] at ea;cases ea
  | some c=>
   rw[y] at ea;obtain⟨b1,b2,b3,b4⟩:=b;obtain⟨c1,c2,c3,c4⟩:=c;simp[j1q] at ea;obtain⟨rfl,rfl,rfl,rfl⟩:=ea;rfl
end Go.Proofs.YtjgnogflgoihfaaGreatDoor
namespace Go.Proofs.YtjgnogflgoihfaaGreatDoor
open Go.RowKit
attribute [local go_sem] Oper.semAt_some
set_option linter.unusedVariables false
set_option maxRecDepth 100000
set_option maxHeartbeats 16000000
set_option linter.unusedSimpArgs false
def j2l (r:Raw) (i:Nat):Bool:=(List.range (i+1)).any fun a=>r.P a && (match r.M (a:Int) with | some b=>decide (i<a+U1 b.2.1) | none=>false)
theorem inRm_iff {r:Raw} {i:Nat}:j2l r i=true ↔ ∃ a b,a<=i/\r.P a=true/\r.M (a:Int)=some b/\i<a+U1 b.2.1:=by
 unfold j2l;rw[List.any_eq_true];constructor
 ·rintro⟨a,ha,h⟩;rw[List.mem_range] at ha;rw[Bool.and_eq_true] at h;cases e:r.M (a:Int) with
  | none=>rw[e] at h;exact absurd h.2 (by simp)
  | some b=>rw[e] at h;exact⟨a,b,by omega,h.1,e,by simpa using h.2⟩
 ·rintro⟨a,b,h1,h2,h3,h4⟩;refine⟨a,by rw[List.mem_range];omega,?_⟩;rw[h2,h3];simpa using h4
def wpW (r:Raw) (f:Nat):Nat->Int:=fun i=>if i<f/\j2l r i=false then 0 else r.W i
theorem x5z (r:Raw):wpW r 0=r.W:=by funext i;unfold wpW;rw[if_neg (by omega)]
theorem x3c {r:Raw} {f k:Nat} (h:f<=k) (hz:∀ i,f<=i->i<k->j2l r i=false):z0f (wpW r f) f (k-f)=wpW r k:=by
 funext i
 unfold z0f wpW;by_cases e:f<=i/\i<f+(k-f)
 ·rw[if_pos e,if_pos ⟨by omega,hz i e.1 (by omega)⟩]
 ·rw[if_neg e];by_cases e2:i<f/\j2l r i=false
  ·rw[if_pos e2,if_pos ⟨by omega,e2.2⟩]
  ·rw[if_neg e2,if_neg (fun h'=>e2 ⟨by omega,h'.2⟩)]
theorem x5y {r:Raw} {k m:Nat} (hz:∀ i,k<=i->i<k+m->j2l r i=true):wpW r k=wpW r (k+m):=by
 funext i
 unfold wpW;by_cases e:i<k+m/\j2l r i=false
 ·have:i<k:=by
   by_cases e2:i<k
   ·exact e2
   ·have:=hz i (by omega) e.1;rw[e.2] at this;cases this
  rw[if_pos ⟨this,e.2⟩,if_pos e]
 ·rw[if_neg e,if_neg (fun h'=>e ⟨by omega,h'.2⟩)]
def j1o (n:Nat) (r:Raw):Prop:=∀ a b,r.P a=true->r.M (a:Int)=some b->1<=b.2.1/\b.2.1<=1024/\a+U1 b.2.1<=64*n/\∀ a',a<a'->r.P a'=true->a+U1 b.2.1<=a'
structure At (n:Nat) (r:Raw) (p f:Nat):Prop where
 le:f<=64*n
 below:∀ a b,a<p->r.P a=true->r.M (a:Int)=some b->a+U1 b.2.1<=f
 above:∀ a,p<=a->r.P a=true->f<=a
theorem At.gap {n:Nat} {r:Raw} {p f k:Nat} (h:At n r p f) (hz:∀ j,p<=j->j<k->r.P j=false):∀ i,f<=i->i<k->j2l r i=false:=by
 intro i h1 h2;cases e:j2l r i with
 | false=>rfl
 | true=>
  obtain⟨a,b,a1,a2,a3,a4⟩:=inRm_iff.1 e;by_cases hp:a<p
  ·have:=h.below a b hp a2 a3;omega
  ·rw[hz a (by omega) (by omega)] at a2;cases a2
theorem At.step {n:Nat} {r:Raw} {p f k:Nat} {b:Blk} (hR:j1o n r) (h:At n r p f) (hp:p<=k) (hz:∀ j,p<=j->j<k->r.P j=false) (hk:r.P k=true) (hb:r.M (k:Int)=some b):At n r (k+1) (k+U1 b.2.1):=by
 obtain⟨_,_,h3,h4⟩:=hR k b hk hb;refine⟨h3,fun a b' ha hPa hMa=>?_,fun a ha hPa=>h4 a (by omega) hPa⟩;by_cases e:a=k
 ·subst e;rw[hb] at hMa;cases hMa;exact Nat.le_refl _
 ·by_cases e2:a<p
  ·have:=h.below a b' e2 hPa hMa;have:=h.above k hp hk;omega
  ·rw[hz a (by omega) (by omega)] at hPa;cases hPa
theorem x5i {r:Raw} {k:Nat} {b:Blk} (hk:r.P k=true) (hb:r.M (k:Int)=some b):∀ i,k<=i->i<k+U1 b.2.1->j2l r i=true:=fun i h1 h2=>inRm_iff.2 ⟨k,b,h1,hk,hb,h2⟩
theorem j2n (bw n cap lo:Nat) (h1:lo<=n):∃ o cp:Nat,(∀ wx,(Instr.slice 70 (.slice (some ⟨bw,0,none⟩) n cap) (some (.int .i64 (lo:Int))) none none).run Tryz.prog wx=.ok (.slice (some ⟨bw,o,none⟩) (n-lo) cp) wx)/\(0<n-lo->cap=lo\/o=lo):=by
 by_cases e:cap=lo
 ·refine⟨0,cap-lo,fun wx=>?_,fun h=>.inl e⟩;rw[run_slice_l wx 70 _ n cap (by rw[z1p];exact Tryz.underlying70) .i64 (lo:Int) (by omega) (by omega),z1p,z8v];simp[Result.andThen,sliced,e]
 ·refine⟨lo,cap-lo,fun wx=>?_,fun h=>.inr rfl⟩;rw[run_slice_l wx 70 _ n cap (by rw[z1p];exact Tryz.underlying70) .i64 (lo:Int) (by omega) (by omega),z1p,z8v];have e2:(⟨bw,0,none⟩:Addr).add lo=⟨bw,lo,none⟩:=by rw[Addr.add_lit,Nat.zero_add]
  simp[Result.andThen,sliced,e,e2]
theorem x1w {w:World} {lo hi n cap:Nat} {s:Nat->Nat} {r:Raw} (h:RawAt w lo hi s n cap r) (hT:q2e r) (hR:j1o n r) :
  Calls Tryz.prog 140 #[.pointer (some ⟨s 14,0,none⟩)] w fun e w'=>(∃ v,e=.returned v)/\RawAt w' lo hi s n cap { r with W:=wpW r (64*n) }/\Out lo hi w w':=by
 have mH:=Q3 h;have HTo:=Q3 hT;have HRo:=Q3 hR;have h11:s 11<hi:=by have:=(h.inn 11 (by omega)).2;simp[ln] at this;omega
 have h14:s 14<hi/\s 11 ≠ s 14:=by have a:=(h.inn 14 (by omega)).2;have b:=h.apart 11 14 (by omega) (by omega) (by omega);simp[ln] at a b;omega
 have HT:Hid (hi<=w.heap.size/\4<=w.heap.size/\s 11<hi/\s 14<hi/\s 11 ≠ s 14/\4<=lo/\n<=4096/\1<=n/\64*n<=cap):=⟨h.top,h.tab.lt,h11,h14.1,h14.2,h.glob,h.n2,h.n1,h.capn⟩
 have HL:=Q3 (fun w=>q0l (s 14) w);clear h h11 h14 hT hR;refine(callsIn_wide (n:=0)).1 ?_;refine callsIn_of_wp_marks Tryz.func140 rfl trivial ?_ rfl;simp only[Tryz.ntmps140,List.size_toArray,List.length_cons,List.length_nil,Nat.reduceAdd,Nat.reduceSub,Array.replicate_succ,Array.replicate_zero,List.push_toArray,List.append_toArray,List.nil_append,List.cons_append];gi_wp2_with (refine⟨trivial,rfl,?_⟩;gi_at_call 137;refine(callsIn_wide.2 (HL.out _)).mono ?_;rintro e w1 ⟨rfl,rfl⟩);obtain⟨W1,cZ⟩:∃ W1,((w.alloc (.cells #[.pointer (some ⟨s 14,0,none⟩)] 76)).alloc (.cells #[.int .i64 0] 3)).alloc (.cells #[.pointer (some ⟨s 14,0,none⟩)] 76)=W1:=⟨_,rfl⟩
 have hs1:W1.heap.size=w.heap.size+3:=by rw[<-cZ];simp
 have jD:Out 0 0 w W1:=by rw[<-cZ];exact((((Out.refl 0 0 w).alloc _).alloc _).alloc _)
 have hy1:Box W1 w.heap.size 76 (.pointer (some ⟨s 14,0,none⟩)):=by rw[<-cZ];exact Box.alloc (w:=(w.alloc (.cells #[.pointer (some ⟨s 14,0,none⟩)] 76)).alloc (.cells #[.int .i64 0] 3)) J3 _
 have nG:Box W1 (w.heap.size+1) 3 (.int .i64 0):=by rw[<-cZ];exact Box.alloc (w:=(w.alloc (.cells #[.pointer (some ⟨s 14,0,none⟩)] 76)).alloc (.cells #[.int .i64 0] 3)) (heap_alloc2_new _ _ _) _
 have hz1:Box W1 (w.heap.size+1+1) 76 (.pointer (some ⟨s 14,0,none⟩)):=by
  rw[<-cZ];have:=heap_alloc_new ((w.alloc (.cells #[.pointer (some ⟨s 14,0,none⟩)] 76)).alloc (.cells #[.int .i64 0] 3)) (.cells #[.pointer (some ⟨s 14,0,none⟩)] 76);rw[World.size_alloc,World.size_alloc] at this;exact this
 rw[cZ];clear cZ;have bK:=Q3 jD;have HY1:=Q3 hy1;have HX1:=Q3 nG;have HZ1:=Q3 hz1;clear jD hy1 nG hz1;refine j6p (lo:=lo) (hi:=hi) (n:=n) (cap:=cap) (g:=w.heap.size+1+1) (s:=s) rfl rfl
  (fun p W=>p<=64*n/\∃ f:Nat,At n r p f/\RawAt W lo hi s n cap { r with W:=wpW r f }/\Box W w.heap.size 76 (.pointer (some ⟨s 14,0,none⟩))/\Box W (w.heap.size+1) 3 (.int .i64 (f:Int))/\Box W (w.heap.size+1+1) 76 (.pointer (some ⟨s 14,0,none⟩))/\Out lo hi w W)
  (fun W=>∃ f:Nat,f<=64*n/\z0f (wpW r f) f (64*n-f)=wpW r (64*n)/\RawAt W lo hi s n cap { r with W:=wpW r f }/\Box W w.heap.size 76 (.pointer (some ⟨s 14,0,none⟩))/\Box W (w.heap.size+1) 3 (.int .i64 (f:Int))/\Out lo hi w W)
  (fun c W=>False) ?hm1 ?hq1 ?hqk1 ?hqx1 ?hy1 ?he1 ?hz1 ?hdone1 ?hstop1
 case hm1=>
  rintro p W ⟨hp,f,hA,a1,a2,a3,a4,a5⟩;exact⟨hp,_,a1,HTo.out,a4⟩
 case hq1=>
  rintro p W W' x y ⟨hp,f,hA,a1,a2,a3,a4,a5⟩ o hx;exact⟨hp,f,hA,a1.kept o (by have:=HT.out;omega) (by have:=HT.out;omega),a2.kept o (by omega),a3.kept o (by omega),a4.kept o (by omega),Y8 a5 o (by omega)⟩
 case hqk1=>
  rintro W W' x y ⟨f,hA,hw,a1,a2,a3,a5⟩ o hx;exact⟨f,hA,hw,a1.kept o (by have:=HT.out;omega) (by have:=HT.out;omega),a2.kept o (by omega),a3.kept o (by omega),Y8 a5 o (by omega)⟩
 case hqx1=>exact fun c W W' x y h _ _=>h
 case hstop1=>exact fun c W h _=>h.elim
 case hz1=>exact⟨Nat.zero_le _,0,⟨Nat.zero_le _,fun a b h=>absurd h (by omega),fun a _ _=>Nat.zero_le _⟩,by rw[x5z];exact mH.out.quiet bK.out,HY1.out,HX1.out,HZ1.out,bK.out.any _ _⟩
 case he1=>
  rintro p W rr ⟨hp,f,hA,a1,a2,a3,a4,a5⟩ hr hk;obtain⟨eP,eM⟩:=z7i a1 hr;rw[<-eP] at hk;rcases U8 r.P (64*n) p with ⟨_,hz⟩ | ⟨i,bV,_⟩
  ·exact⟨f,hA.le,x3c hA.le (hA.gap hz),a1,a2,a3,a5⟩
  ·have:(-1:Int)=i:=hk.symm.trans bV;omega
 case hy1=>
  rintro p W rr k b ⟨hp,f,hA,a1,a2,a3,a4,a5⟩ hr hk hb hU;obtain⟨eP,eM⟩:=z7i a1 hr;rw[<-eP] at hk;rw[<-eM] at hb;obtain⟨hpk,hkn,hPk,hz⟩:p<=k/\k<64*n/\r.P k=true/\∀ j,p<=j->j<k->r.P j=false:=by
   rcases U8 r.P (64*n) p with ⟨e1,_⟩ | ⟨i,e1,e2,e3,e4,e5⟩
   ·have:(-1:Int)=k:=e1.symm.trans hk;omega
   ·have:i=k:=by have:(i:Int)=k:=e1.symm.trans hk;omega
    subst this;exact⟨e3 hp,e2,e4,e5⟩
  rw[hs1] at hU ⊢;have kW:r.M (k:Int)=some b:=hb;have hRo:=HRo.out k b hPk kW;have hfk:=hA.above k hpk hPk;have hgap:=x3c hfk (hA.gap hz);have nJ:=x5y (x5i hPk kW);have hA':=hA.step HRo.out hpk hz hPk kW;obtain⟨b1,b2,b3,b4⟩:=b;have A:=Q3 (And.intro a1 (And.intro a2 (And.intro a3 (And.intro a4 (And.intro a5 (And.intro hA' (And.intro hgap nJ)))))));have HK:=Q3 (And.intro hpk (And.intro hkn (And.intro hfk hU)));have HRk:=Q3 hRo;clear a1 a2 a3 a4 a5 hA hr hk hb eP eM hz hPk kW hRo hgap nJ hA' hp hpk hkn hfk hU;unfold j1q;dsimp only at A HRk ⊢;have eR:=HK.out.2.2.2;obtain⟨WA,hWA⟩:∃ WA,W.alloc (bo (k:Int) b1 b2 b3 b4)=WA:=⟨_,rfl⟩
  have HBA:Hid (WA.heap[W.heap.size]? = some (bo (k:Int) b1 b2 b3 b4)):=by rw[<-hWA];exact heap_alloc_new _ _
  have kT:Hid (Out 0 0 W WA):=by rw[<-hWA];exact(Out.refl 0 0 W).alloc _
  obtain⟨G,hG⟩:∃ G,W.heap.size=G:=⟨_,rfl⟩
  rw[hG] at HK eR HBA;unfold bo at hWA HBA;gi_wp2;(try rw[hWA]);refine⟨kT.out.any _ _,?_⟩;(try rw[hG]);clear hWA hG;intro W2 o2;have hoA:=kT.out.any 0 (w.heap.size+3);have mR:=(A.out.1.quiet kT.out).kept o2 (.inl (by have:=HT.out;omega)) (.inl (by have:=HT.out;omega));have HY2:=Q3 ((A.out.2.1.kept kT.out z0).kept o2 (.inl (by omega)));have HX2:=Q3 ((A.out.2.2.1.kept kT.out z0).kept o2 (.inl (by omega)));have HZ2:=Q3 ((A.out.2.2.2.1.kept kT.out z0).kept o2 (.inl (by omega)));have lB:=Q3 (o2.heap HBA.out (.inr (by omega)));have aI:=Q3 (Y8 (Y8 A.out.2.2.2.2.1 kT.out (.inr rfl)) o2 (.inl (by omega)));obtain⟨o,cp,hsl,hol⟩:=z9t (s 11) (64*n) cap f k (by have:=HK.out;omega) (by have:=HK.out;have:=HT.out;omega);have eH:=Q3 (mR.quiet ((Out.refl 0 0 _).drew));obtain⟨w4,mJ,hr4,fI⟩:=eH.out.clear (a:=f) (k:=k-f) (o:=o) (cp:=cp) (by have:=HK.out;omega) hol;have fM:Hid (RawAt w4 lo hi s n cap { r with W:=wpW r (k+U1 b2) }):=hr4.congr (by rw[<-A.out.2.2.2.2.2.2.2,<-A.out.2.2.2.2.2.2.1]);have bN:=Q3 fI;have c0:=HY2.out.cell;have c1:=mR.cells.1;have c2:=HX2.out.cell;obtain⟨q0,_,q2,_,_⟩:=F7 lB.out;have f0:(0:Int)<=(f:Int):=by omega
  have f1:(f:Int)<=(k:Int):=by have:=HK.out;omega
  have f2:(k:Int)<=(cap:Int):=by have:=HK.out;have:=HT.out;omega
  have HRoom:=Q3 (fun w'=>j1a b2 HRk.out.1 HRk.out.2.1 w');have HWR:Hid (IntKind.i64.wrap ((k:Int)+((U1 b2:Nat):Int))=((k+U1 b2:Nat):Int)):=by show _=_;simp[IntKind.wrap,IntKind.signed,IntKind.bits];have:=HRk.out;have:=HT.out;omega
  clear mR hr4 fI eR hol hoA;gi_wp2_with fail;refine z3v (S:=fun w'=>w'.cell? ⟨w.heap.size,0,none⟩=some (.pointer (some ⟨s 14,0,none⟩))/\w'.cell? ⟨s 14,0,none⟩=some (.slice (some ⟨s 11,0,none⟩) (64*n) cap)/\w'.cell? ⟨w.heap.size+1,0,none⟩=some (.int .i64 (f:Int))/\w'.cell? ⟨G,0,none⟩=some (.int .i64 (k:Int))) (by kernel_rfl) (by kernel_rfl) ?hS9 (fun aB=>?rest9)
  case hS9=>exact⟨c0,c1,c2,q0⟩
  refine tk 0 ?_;refine tk 1 ?_;refine tk 2 ?_;refine tk 3 ?_;refine tk 4 ?_;refine tk 5 ?_;refine tk 6 ?_;refine tk 7 ?_;refine rd1 8 fun KK hK=>?_
  simp only[xa,xb,xc];go_simp;refine hK.out _ _ ⟨bN.out.cell aB.1 (by have:=HT.out;have:=HK.out;omega),bN.out.cell aB.2.1 (by have:=HT.out;have:=HK.out;omega),bN.out.cell aB.2.2.1 (by have:=HT.out;have:=HK.out;omega),bN.out.cell aB.2.2.2 (by have:=HT.out;have:=HK.out;omega)⟩ fun aB=>?_
  clear hK KK;refine dn ?_;clear aB;simp only[q8f,q3d];have hdr:Out (s 11) (s 11+1) W2 w4:=(((Out.refl 0 0 W2).drew).any _ _).trans bN.out;have HX4:=Q3 (HX2.out.kept hdr (.inr (by have:=HT.out;omega)));have nI:=Q3 (hdr.heap lB.out (.inr (by have:=HT.out;have:=HK.out;omega)));have HOD:=Q3 hdr;clear q0 q2 c0 c1 c2 hsl mJ hdr;obtain⟨q0,_,q2,_,_⟩:=F7 nI.out;gi_wp2_with fail;refine z3v (S:=fun w'=>w'.cell? ⟨G,0,none⟩=some (.int .i64 (k:Int))/\w'.cell? ⟨G,2,none⟩=some (.int .i64 b2)) (by kernel_rfl) (by kernel_rfl) ?hS1 (fun aB=>?rest1)
  case hS1=>exact⟨q0,q2⟩
  refine tk 0 ?_;refine tk 1 ?_;refine tk 2 ?_;refine tk 3 ?_;refine rd1 4 fun KK hK=>?_
  simp only[xa,xb,xc];go_simp;refine(HRoom.out _).mono ?_;rintro e w5 ⟨rfl,kE⟩;have hx5:=HX4.out.kept (((Out.refl 0 0 _).drew).trans kE) z0;have e0:=hx5.cell;have e1:=hx5.frozen;have HX5:=Q3 hx5;have HOO:=Q3 kE;clear hx5;refine hK.out _ _ ⟨kE.cell aB.1 z0,kE.cell aB.2 z0⟩ fun aB=>?_
  clear hK KK;refine tk 5 ?_;refine rd1 6 fun KK hK=>?_
  simp only[xa,xb,xc];go_simp;refine hK.out _ _ ⟨((Out.refl (w.heap.size+1) (w.heap.size+2) w5).setCell z1 _).cell aB.1 (by have:=HT.out;have:=HK.out;omega),((Out.refl (w.heap.size+1) (w.heap.size+2) w5).setCell z1 _).cell aB.2 (by have:=HT.out;have:=HK.out;omega)⟩ fun aB=>?_
  clear hK KK;refine dn ?_;clear aB;simp only[q8f,q3d];gi_wp2;have lC:=(Out.refl (w.heap.size+1) (w.heap.size+2) w5).setCell (p:=⟨w.heap.size+1,0,none⟩) z1 (.int .i64 (IntKind.i64.wrap ((k:Int)+((U1 b2:Nat):Int))));have hq5:Out 0 0 w4 w5:=((Out.refl 0 0 w4).drew).trans HOO.out;have hbx:=HX5.out.set (.int .i64 (IntKind.i64.wrap ((k:Int)+((U1 b2:Nat):Int))));rw[HWR.out] at hbx lC;(try rw[HWR.out]);have hT:=HT.out;have hK:=HK.out;exact⟨((HOD.out.wide (Nat.zero_le _) (by omega)).trans (hq5.any _ _)).trans (lC.wide (Nat.zero_le _) (by omega)),by omega,k+U1 b2,A.out.2.2.2.2.2.1,(fM.out.quiet hq5).kept lC (.inl (by omega)) (.inl (by omega)),((HY2.out.kept HOD.out (by omega)).kept hq5 z0).kept lC (by omega),hbx,((HZ2.out.kept HOD.out (by omega)).kept hq5 z0).kept lC (by omega),Y8 (Y8 (aI.out.trans ((((Out.refl 0 0 W2).drew).any lo hi).trans (eH.out.wide (i:=11) (by omega) bN.out))) hq5 (.inr rfl)) lC (.inl (by omega))⟩
 case hdone1=>
  rintro W ⟨f,hf,hw,a1,a2,a3,a5⟩ hd;rw[hs1] at hd;have HD:=Q3 hd;have HW:=Q3 hw;have eH:=Q3 (a1.quiet ((Out.refl 0 0 _).drew));have aI:=Q3 a5;have HF:=Q3 hf;obtain⟨o,cp,hsl,hol⟩:=j2n (s 11) (64*n) cap f hf;obtain⟨w4,mJ,hr4,fI⟩:=eH.out.clear (a:=f) (k:=64*n-f) (o:=o) (cp:=cp) (by omega) (fun h=>(hol h).resolve_left (by have:=HT.out;omega));have fM:Hid (RawAt w4 lo hi s n cap { r with W:=wpW r (64*n) }):=hr4.congr (by rw[<-HW.out]);have bN:=Q3 fI;have c0:=a2.cell;have c1:=a1.cells.1;have c2:=a3.cell;have f0:(0:Int)<=(f:Int):=by omega
  have f1:(f:Int)<=((64*n:Nat):Int):=by omega
  have f2:(f:Int)<=64*(n:Int):=by omega
  rw[hs1];clear hr4 fI hol hd hw hf a1 a2 a3 a5;gi_wp2_with fail;refine q6r ?_;refine wp_region_held_drew (S:=fun w'=>w'.cell? ⟨w.heap.size,0,none⟩=some (.pointer (some ⟨s 14,0,none⟩))/\w'.cell? ⟨s 14,0,none⟩=some (.slice (some ⟨s 11,0,none⟩) (64*n) cap)/\w'.cell? ⟨w.heap.size+1,0,none⟩=some (.int .i64 (f:Int))) (by kernel_rfl) ?hS19 (fun aB=>?rest19)
  case hS19=>exact⟨c0,c1,c2⟩
  refine tk 0 ?_;refine tk 1 ?_;refine tk 2 ?_;refine tk 3 ?_;refine tk 4 ?_;refine tk 5 ?_;refine rd1 6 fun KK hK=>?_
  simp only[xa,xb,xc];go_simp;refine hK.out _ _ ⟨bN.out.cell aB.1 (by have:=HT.out;omega),bN.out.cell aB.2.1 (by have:=HT.out;omega),bN.out.cell aB.2.2 (by have:=HT.out;omega)⟩ fun aB=>?_
  clear hK KK;refine dn ?_;clear aB;simp only[q3d];gi_wp2;have hT:=HT.out;have hdr:Out (s 11) (s 11+1) W w4:=(((Out.refl 0 0 W).drew).any _ _).trans bN.out;refine⟨by simp,.inl ⟨_,_,rfl,run_takeDeferred (hdr.heap HD.out (.inr (by omega))),?_⟩⟩;exact⟨_,results_none rfl _ _ _,⟨_,rfl⟩,fM.out.kept (Y0 _ _ _) (by omega) (by omega),Y8 (aI.out.trans ((((Out.refl 0 0 W).drew).any lo hi).trans (eH.out.wide (i:=11) (by omega) bN.out))) (Y0 _ _ _) (by omega)⟩
end Go.Proofs.YtjgnogflgoihfaaGreatDoor
namespace Go.Proofs.YtjgnogflgoihfaaGreatDoor
open Go.RowKit
set_option linter.unusedVariables false
set_option maxRecDepth 100000
set_option maxHeartbeats 16000000
set_option linter.unusedSimpArgs false
def rsF (r:Raw) (i:Nat):Raw:={ r with F:=fun d=>if d<i then (fun _=>false) else r.F d }
def z9o (n:Nat) (S0:Nat->Int × Int × Int) (q:Raw) (i:Nat):Raw:=
 if (S0 i).1=1 then if z8k q.P (64*i) (64*i+64) == 0 then { q with S:=gvS q.S n (i:Int) } else { q with F:=fun d=>if d=(S0 i).2.1.toNat then fuR q (S0 i).2.1.toNat i else q.F d } else q
def dlR (n:Nat) (S0:Nat->Int × Int × Int) (q:Raw):Nat->Raw
 | 0=>q
 | i+1=>z9o n S0 (dlR n S0 q i) i
def lnR (n:Nat) (q:Raw):Nat->Raw
 | 0=>q
 | c+1=>{ lnR n q c with W:=z6g n (lnR n q c) c }
def x3n (n:Nat) (r:Raw):Raw:=lnR n (dlR n r.S (rsF r 8) n) 8
theorem x5k (r:Raw):r=rsF r 0:=by
 unfold rsF;refine Raw.eq rfl rfl ?_ rfl rfl rfl rfl;funext d
 show r.F d=if d<0 then (fun _=>false) else r.F d
 rw[if_neg (by omega)]
theorem x5j (r:Raw) (c:Nat):{ rsF r c with F:=fun d=>if d=c then (fun _=>false) else (rsF r c).F d }=rsF r (c+1):=by
 unfold rsF;refine Raw.eq rfl rfl ?_ rfl rfl rfl rfl;funext d
 show (if d=c then (fun _=>false) else if d<c then (fun _=>false) else r.F d)=if d<c+1 then (fun _=>false) else r.F d
 by_cases e:d=c
 ·rw[if_pos e,if_pos (by omega)]
 ·rw[if_neg e];by_cases e2:d<c
  ·rw[if_pos e2,if_pos (by omega)]
  ·rw[if_neg e2,if_neg (by omega)]
section
variable {w:World} {lo hi n cap:Nat} {s:Nat->Nat} {r:Raw}
theorem j9k (h:RawAt w lo hi s n cap r) :
  Kz 141 #[Pq (s 14)] w fun e w'=>(∃ v,e=.returned v)/\RawAt w' lo hi s n cap (x3n n r)/\Out lo hi w w':=by
 have HR:=Q3 h;have HT:Hid (hi<=w.heap.size/\n<=4096/\1<=n):=⟨h.top,h.n2,h.n1⟩
 have HG:=Q3 h.tbl.good;clear h;go_enter Tryz.func141,Tryz.ntmps141
 go_wp2_with fail;go_loopw [6] (fun u wr=>∃ i:Nat,u=Iz (i:Int)/\i<=8/\RawAt wr lo hi s n cap (rsF r i)/\Out lo hi w wr) (fun u _=>((8:Int)-intOf u).toNat)
 case atStart=>exact⟨0,rfl,Nat.zero_le _,HR.out.congr (x5k r),Out.refl _ _ _⟩
 case round=>
  obtain⟨i,rfl,i1,i2,i3⟩:=hrel;have dD:=Q3 i2;have bK:=Q3 i3;have j0:(0:Int)<=(i:Int):=by omega
  by_cases eR:(i:Int)<8
  ·have HC:Hid (i<8):=by show _<_;omega
   have dF:=i2.cellF HC.out;clear i2 i3;go_wp2_with (go_at_call 188;refine(j7g (dD.out.free i HC.out)).mono ?_;rintro e w4 ⟨rfl,hm,ho⟩);have gY:=dD.out.setF HC.out ho hm;have bJ:=bK.out.trans (dD.out.wide (i:=i) (by have:=HC.out;omega) (by unfold ln;rw[if_pos (by have:=HC.out;omega)];exact ho));refine⟨⟨i+1,by congr 1,by omega,gY.congr (x5j r i),bJ⟩,by simp[intOf];omega⟩
  ·have e:i=8:=by omega
   subst e;obtain⟨d0,d1,d2,d3,d4,d5⟩:=i2.cells;clear i2 i3;go_wp2_with (go_at_call 87;refine(j3x dD.out.tbl).mono ?_;rintro e w2 ⟨g,eD,rfl,hl,ho⟩);obtain⟨hr,hb,_⟩:=hl.row;have HP2:Hid (PRow w2 g n r.S):=hr;have HGg:Hid (hi<=g):=by show _<=_;have:=HT.out;have:=bK.out.size;omega
   have eH:=Q3 (dD.out.quiet ho);have aI:=Q3 (bK.out.trans (ho.any lo hi));clear hl ho hr hb dD bK d0 d1 d2 d3 d4 d5;go_loopw [23] (fun u wr=>∃ i:Nat,u=Iz (i:Int)/\i<=n/\RawAt wr lo hi s n cap (dlR n r.S (rsF r 8) i)/\PRow wr g n r.S/\Out lo hi w wr) (fun u _=>((n:Int)-intOf u).toNat)
   case atStart=>exact⟨0,rfl,Nat.zero_le _,eH.out,HP2.out,aI.out⟩
   case round=>
    clear eH HP2 aI;obtain⟨i,rfl,i1,i2,i4,i3⟩:=hrel;have j0:(0:Int)<=(i:Int):=by omega
    have j2:(n:Int)<=4096:=by have:=HT.out;omega
    by_cases eR:(i:Int)<(n:Int)
    ·obtain⟨q,hq⟩:∃ q,dlR n r.S (rsF r 8) i=q:=⟨_,rfl⟩
     rw[hq] at i2;have jJ:dlR n r.S (rsF r 8) (i+1)=z9o n r.S q i:=by show z9o n r.S (dlR n r.S (rsF r 8) i) i=_;rw[hq]
     obtain⟨x,y,z,hp⟩:=z2j (r.S i);obtain⟨q0,q1,q2⟩:=i4.page (by omega) hp;have hoA:Out 0 0 wr (wr.alloc (.cells #[Iz x,Iz y,Iz z] 189)):=(Out.refl 0 0 _).alloc _;have HBA:Hid ((wr.alloc (.cells #[Iz x,Iz y,Iz z] 189)).heap[wr.heap.size]? = some (.cells #[Iz x,Iz y,Iz z] 189 (0,0))):=heap_alloc_new _ _;have HRA:=Q3 (i2.quiet hoA);have HPA:=Q3 (i4.kept hoA z0);have kT:=Q3 (i3.trans (hoA.any lo hi));by_cases hx:x=1
     ·subst hx;obtain⟨c,hc,rfl⟩:∃ c:Nat,c<8/\y=c:=by
       rcases HG.out.cases (i:=i) (by omega) with e | ⟨c,c1,c2,e⟩ | ⟨k,_,_,_,e⟩ | e
       ·rw[hp] at e;cases e
       ·rw[hp] at e;simp at e;exact⟨c.toNat,by omega,by omega⟩
       ·rw[hp] at e;cases e
       ·rw[hp] at e;cases e
      have HC:=Q3 hc;have hpn:i<n:=by omega
      have HPn:=Q3 hpn;have HE:=Q3 (j5b HRA.out hpn);unfold z9o at jJ;rw[hp,if_pos rfl] at jJ;cases hb:(z8k q.P (64*i) (64*i+64) == 0) with
      | true=>
       rw[hb] at HE jJ;rw[if_pos rfl] at jJ;have HST:=Q3 jJ;clear i2 i3 i4 hoA jJ hq hp hb;go_wp2_with (first
        | (go_at_call 189;refine HE.out.mono ?_;rintro e w3 ⟨rfl,ho⟩;have iR:=Q3 (HRA.out.quiet ho);have HP3:=Q3 (HPA.out.kept ho z0);have bQ:=Q3 (kT.out.trans (ho.any lo hi));obtain⟨d0,d1,d2,d3,d4,d5⟩:=iR.out.cells;clear ho)
        | (go_at_call 187;refine(j0e iR.out.tbl iR.out.tab (i:Int)).mono ?_;rintro e w4 ⟨rfl,hmt,hot⟩))
       have oP:=iR.out.inn 10 (by omega);simp[ln] at oP;refine⟨⟨i+1,by congr 1,by omega,(iR.out.setT hot hmt).congr HST.out.symm,HP3.out.kept hot (.inr (by have:=HGg.out;omega)),bQ.out.trans (iR.out.wide (i:=10) (by omega) hot)⟩,by simp[intOf];omega⟩
      | false=>
       rw[hb] at HE jJ;rw[if_neg (by simp)] at jJ;have HST:=Q3 jJ;have HF:=Q3 (fun w3 (h3:RawAt w3 lo hi s n cap q)=>q1k h3 hc hpn);clear i2 i3 i4 hoA jJ hq hp hb;go_wp2_with (first
        | (go_at_call 189;refine HE.out.mono ?_;rintro e w3 ⟨rfl,ho⟩;have iR:=Q3 (HRA.out.quiet ho);have HP3:=Q3 (HPA.out.kept ho z0);have bQ:=Q3 (kT.out.trans (ho.any lo hi));obtain⟨x0,x1,x2⟩:=box3 (ho.heap HBA.out z0);clear ho)
        | (go_at_call 190;refine(HF.out _ iR.out).mono ?_;rintro e w4 ⟨⟨v,rfl⟩,hr4,fI⟩))
       refine⟨⟨i+1,by congr 1,by omega,hr4.congr HST.out.symm,HP3.out.kept fI (.inr HGg.out),bQ.out.trans fI⟩,by simp[intOf];omega⟩
     ·have hst2:dlR n r.S (rsF r 8) (i+1)=q:=by rw[jJ];unfold z9o;rw[hp,if_neg hx]
      have HST:=Q3 hst2;clear i2 i3 i4 hoA jJ hst2 hq hp;go_wp2;refine⟨⟨i+1,by congr 1,by omega,HRA.out.congr HST.out.symm,HPA.out,kT.out⟩,by simp[intOf];omega⟩
    ·have e:i=n:=by omega
     subst e;have iR:=Q3 i2;have bQ:=Q3 i3;clear i2 i3 i4;have hge:(i:Int)<=(i:Int):=Int.le_refl _;go_wp2_with fail;go_loopw [46] (fun u wr=>∃ c:Nat,u=Iz (c:Int)/\c<=8/\RawAt wr lo hi s i cap (lnR i (dlR i r.S (rsF r 8) i) c)/\Out lo hi w wr) (fun u _=>((8:Int)-intOf u).toNat)
     case atStart=>exact⟨0,rfl,Nat.zero_le _,iR.out,bQ.out⟩
     case round=>
      clear iR bQ;obtain⟨c,rfl,c1,c2,c3⟩:=hrel;have k0:(0:Int)<=(c:Int):=by omega
      have fM:=Q3 c2;have bN:=Q3 c3;by_cases hl8:(c:Int)<8
      ·have HC:Hid (c<8):=by show _<_;omega
       clear c2 c3;go_wp2_with (go_at_call 191;refine(q1x fM.out HC.out).mono ?_;rintro e w5 ⟨⟨v,rfl⟩,hr5,kO⟩);refine⟨⟨c+1,by congr 1,by omega,hr5,bN.out.trans kO⟩,by simp[intOf];omega⟩
      ·have e:c=8:=by omega
       subst e;clear c2 c3;go_wp2;exact bodyPost_end (results_none Tryz.results141 _ _ _) rfl ⟨⟨_,rfl⟩,fM.out,bN.out⟩
end
def K8 (n:Nat) (r:Raw) (kp:Nat->Bool):Nat->Raw
 | 0=>r
 | p+1=>if r.P p && !kp p then (match r.M (p:Int) with | some b=>drR n (K8 n r kp p) p b.2.1 b.2.2.1 | none=>K8 n r kp p) else K8 n r kp p
def U4 (r:Raw) (kp:Nat->Bool):Nat->Nat
 | 0=>0
 | p+1=>if r.P p && !kp p then U4 r kp p+1 else U4 r kp p
theorem z8l (r:Raw) (kp:Nat->Bool):∀ p,U4 r kp p<=p
 | 0=>Nat.le_refl _
 | p+1=>by
  have:=z8l r kp p;unfold U4;cases (r.P p && !kp p) with
  | true=>simp;omega
  | false=>simp;omega
theorem H8 {n:Nat} {r:Raw} {kp:Nat->Bool} (hT:q2e r):∀ p a,(K8 n r kp p).P a=(r.P a && !(decide (a<p) && !kp a))/\(((K8 n r kp p).P a=true\/p<=a)->(K8 n r kp p).M (a:Int)=r.M (a:Int))/\(K8 n r kp p).W=r.W
 | 0,a=>by simp[K8]
 | p+1,a=>by
  obtain⟨h1,h2,h3⟩:=H8 (n:=n) (kp:=kp) hT p a;unfold K8;cases e:(r.P p && !kp p) with
  | false=>
   rw[if_neg (by simp)];refine⟨?_,fun h=>h2 ?_,h3⟩
   ·rw[h1];by_cases ea:a=p
    ·subst ea;rw[Bool.and_eq_false_iff] at e;rcases e with e | e
     ·rw[e];simp
     ·have:kp a=true:=by simpa using e
      rw[this];simp
    ·have:decide (a<p+1)=decide (a<p):=by by_cases hh:a<p <;> simp[hh] <;> omega
     rw[this]
   ·rcases h with h | h
    ·exact .inl h
    ·exact .inr (by omega)
  | true=>
   rw[if_pos rfl];rw[Bool.and_eq_true] at e;obtain⟨b,hb⟩:=hT p e.1;rw[hb];have hk:kp p=false:=by simpa using e.2
   by_cases ea:a=p
   ·subst ea;refine⟨?_,fun h=>?_,h3⟩
    ·show upd _ a false a=_
     unfold upd;rw[if_pos rfl,hk];simp
    ·rcases h with h | h
     ·have:upd (K8 n r kp a).P a false a=true:=h;unfold upd at this;simp at this
     ·omega
   ·refine⟨?_,fun h=>?_,h3⟩
    ·show upd _ p false a=_
     unfold upd;rw[if_neg ea,h1];have:decide (a<p+1)=decide (a<p):=by by_cases hh:a<p <;> simp[hh] <;> omega
     rw[this]
    ·show (if (a:Int)=(p:Int) then none else (K8 n r kp p).M (a:Int))=_
     rw[if_neg (by omega)];refine h2 ?_;rcases h with h | h
     ·have:upd (K8 n r kp p).P p false a=true:=h;unfold upd at this;rw[if_neg ea] at this;exact .inl this
     ·exact .inr (by omega)
theorem q4o {n:Nat} {r:Raw} {kp:Nat->Bool} (hT:q2e r) (p:Nat):q2e (K8 n r kp p):=by
 intro a ha;obtain⟨h1,h2,h3⟩:=H8 (n:=n) (kp:=kp) hT p a;rw[h2 (.inl ha)];rw[h1] at ha;exact hT a (by revert ha;cases r.P a <;> simp)
theorem j2d {n:Nat} {r:Raw} {kp:Nat->Bool} (hT:q2e r) (hR:j1o n r) (p:Nat):j1o n (K8 n r kp p):=by
 have hP:∀ a,(K8 n r kp p).P a=true->r.P a=true:=fun a ha=>by
  rw[(H8 (n:=n) (kp:=kp) hT p a).1] at ha;revert ha;cases r.P a <;> simp
 intro a b ha hb;rw[(H8 (n:=n) (kp:=kp) hT p a).2.1 (.inl ha)] at hb;obtain⟨h1,h2,h3,h4⟩:=hR a b (hP a ha) hb;exact⟨h1,h2,h3,fun a' h5 h6=>h4 a' h5 (hP a' h6)⟩
theorem q4n {n:Nat} {r:Raw} {kp:Nat->Bool} {p:Nat}:∀ {d:Nat},(∀ j,p<=j->j<p+d->r.P j=false)->K8 n r kp (p+d)=K8 n r kp p/\U4 r kp (p+d)=U4 r kp p
 | 0,_=>⟨rfl,rfl⟩
 | d+1,h=>by
  obtain⟨h1,h2⟩:=q4n (n:=n) (kp:=kp) (p:=p) (d:=d) (fun j a b=>h j a (by omega));have e:r.P (p+d)=false:=h _ (by omega) (by omega);constructor
  ·refine Eq.trans ?_ h1
   show K8 n r kp ((p+d)+1)=_
   conv=>lhs;unfold K8
   rw[e];rfl
  ·refine Eq.trans ?_ h2
   show U4 r kp ((p+d)+1)=_
   conv=>lhs;unfold U4
   rw[e];rfl
theorem j5a {n:Nat} {r:Raw} {kp:Nat->Bool} {p k:Nat} (hp:p<=k) (h:∀ j,p<=j->j<k->r.P j=false):K8 n r kp k=K8 n r kp p/\U4 r kp k=U4 r kp p:=by
 obtain⟨d,rfl⟩:∃ d,k=p+d:=⟨k-p,by omega⟩
 exact q4n h
theorem j4z {n:Nat} {r:Raw} {kp:Nat->Bool} {k:Nat} (hk:kp k=true):K8 n r kp (k+1)=K8 n r kp k/\U4 r kp (k+1)=U4 r kp k:=by
 constructor
 ·conv=>lhs;unfold K8
  rw[hk,if_neg (by simp)]
 ·conv=>lhs;unfold U4
  rw[hk,if_neg (by simp)]
theorem j4y {n:Nat} {r:Raw} {kp:Nat->Bool} {k:Nat} {b:Blk} (hP:r.P k=true) (hk:kp k=false) (hb:r.M (k:Int)=some b):K8 n r kp (k+1)=drR n (K8 n r kp k) k b.2.1 b.2.2.1/\U4 r kp (k+1)=U4 r kp k+1:=by
 constructor
 ·conv=>lhs;unfold K8
  rw[hP,hk,hb];rfl
 ·conv=>lhs;unfold U4
  rw[hP,hk];rfl
def kpS (l:List Int):Nat->Bool:=fun j=>l.contains (j:Int)
theorem x6s:kpS []=fun _=>false:=by funext j;unfold kpS;simp
theorem j5y (l:List Int) (a:Nat):upd (kpS l) a true=kpS (l ++ [(a:Int)]):=by
 funext j
 unfold upd kpS;rw[List.contains_append];by_cases e:j=a
 ·rw[if_pos e,e];simp
 ·rw[if_neg e];have:([(a:Int)]).contains (j:Int)=false:=by simp;omega
  rw[this];simp
def q1a (w:World) (p:Option Addr) (l:List Int):Prop:=l=[]\/∃ g,p=some ⟨g,0,none⟩/\g<w.heap.size/\∀ j,j<l.length->w.cell? ⟨g,j,none⟩=some (.int .i64 (l[j]?.getD 0))
def x4i (n:Nat) (r:Raw) (l:List Int):Raw:=x3n n { K8 n r (kpS l) (64*n) with W:=wpW (K8 n r (kpS l) (64*n)) (64*n) }
end Go.Proofs.YtjgnogflgoihfaaGreatDoor
namespace Go.Proofs.YtjgnogflgoihfaaGreatDoor
open Go.RowKit
attribute [local go_sem] Oper.semAt_some
set_option linter.unusedVariables false
set_option maxRecDepth 100000
set_option maxHeartbeats 16000000
set_option linter.unusedSimpArgs false
section
variable {w:World} {lo hi n cap:Nat} {s:Nat->Nat} {r:Raw}
theorem x0c (h:RawAt w lo hi s n cap r) (hT:q2e r) (hR:j1o n r) (hM:∀ a b,r.M a=some b->∃ j:Nat,a=j/\j<64*n) {l:List Int} {p:Option Addr} {cp:Nat} (hl:q1a w p l) (hll:(l.length:Int)<9223372036854775807) :
  Calls Tryz.prog 81 #[.pointer (some ⟨s 14,0,none⟩),.slice p l.length cp] w fun e w'=>Out lo hi w w' ∧
   (((∀ a ∈ l,(r.M a).isSome=true)/\e=.returned (.tuple #[.int .i64 ((U4 r (kpS l) (64*n):Nat):Int),.int .i64 0])/\RawAt w' lo hi s n cap (x4i n r l)) ∨
    ((∃ a ∈ l,r.M a=none)/\e=.returned (.tuple #[.int .i64 0,.int .i64 22])/\RawAt w' lo hi s n cap r)):=by
 have mH:=Q3 h;have HTo:=Q3 hT;have HRo:=Q3 hR;have HMi:=Q3 hM;have HLi:=Q3 hl;have HT:Hid (hi<=w.heap.size/\4<=w.heap.size/\4<=lo/\n<=4096/\1<=n):=⟨h.top,h.tab.lt,h.glob,h.n2,h.n1⟩
 have HLL:=Q3 hll;have HL:=Q3 (fun w=>q0l (s 14) w);have HW:=Q3 (fun W (hr:RawAt W lo hi s n cap r)=>q0n hr);have HN:=Q3 (fun W (hr:RawAt W lo hi s n cap r)=>j0p (64*n) (by have:=h.n2;omega) W hr.tab);have l0:(0:Int)<=(l.length:Int):=by omega
 clear h hT hR hM hl;refine(callsIn_wide (n:=0)).1 ?_;refine callsIn_of_wp_marks Tryz.func81 rfl trivial ?_ rfl;simp only[Tryz.ntmps81,List.size_toArray,List.length_cons,List.length_nil,Nat.reduceAdd,Nat.reduceSub,Array.replicate_succ,Array.replicate_zero,List.push_toArray,List.append_toArray,List.nil_append,List.cons_append];gi_wp2_with (refine⟨trivial,rfl,?_⟩;gi_at_call 85;refine(callsIn_wide.2 (z2t _ _)).mono ?_;rintro e w1 ⟨rfl,rfl⟩);obtain⟨W0,kY⟩:∃ W0,w.alloc (.cells #[.pointer (some ⟨s 14,0,none⟩)] 76)=W0:=⟨_,rfl⟩
 have hs0:W0.heap.size=w.heap.size+1:=by rw[<-kY];simp
 have HO0:Hid (Out 0 0 w W0):=by rw[<-kY];exact((Out.refl 0 0 w).alloc _)
 have HB0:Hid (Box W0 w.heap.size 76 (.pointer (some ⟨s 14,0,none⟩))):=by rw[<-kY];exact Box.new _ _ _
 rw[kY];clear kY;have lE:=mH.out.quiet HO0.out;have HNo:=Q3 (HN.out W0 lE);have HWo:=Q3 (HW.out W0 lE);rw[hs0] at HNo;clear hs0 lE HN HW;refine⟨trivial,rfl,?_⟩;refine(callsIn_wide.2 HWo.out).mono ?_;rintro e w1 ⟨rfl,rfl⟩;gi_wp2_with (refine⟨trivial,rfl,?_⟩;gi_at_call 98;refine(callsIn_wide.2 HNo.out).mono ?_;rintro e w1 ⟨rfl,hm1,jD,hs1⟩);obtain⟨W2,kX⟩:∃ W2,w1.alloc (.cells #[.pointer (some ⟨w.heap.size+1+1,0,none⟩)] 137)=W2:=⟨_,rfl⟩
 have gN:Out 0 0 w1 W2:=by rw[<-kX];exact((Out.refl 0 0 _).alloc _)
 have kP:Box W2 (w.heap.size+1+2) 137 (.pointer (some ⟨w.heap.size+1+1,0,none⟩)):=by rw[<-kX,show w.heap.size+1+2=w1.heap.size from by omega];exact Box.new _ _ _
 have jW:W2.heap.size=w.heap.size+4:=by rw[<-kX];simp;omega
 have aI:=Q3 ((HO0.out.trans jD).trans gN);have lB:=Q3 (HB0.out.kept (jD.trans gN) z0);have lA:=Q3 kP;have HM2:=Q3 (hm1.quiet gN);have HZ2:=Q3 jW;try rw[kX]
 clear kX jD hm1 gN kP jW HNo HWo HO0 HB0;gi_loopw [20] (fun u wr=>∃ i:Nat,u=.int .i64 (i:Int)/\i<=l.length/\(∀ a ∈ l.take i,(r.M a).isSome=true)/\RawAt wr lo hi s n cap r/\Box wr w.heap.size 76 (.pointer (some ⟨s 14,0,none⟩))/\Box wr (w.heap.size+1+2) 137 (.pointer (some ⟨w.heap.size+1+1,0,none⟩))/\MapAt wr (w.heap.size+1) (w.heap.size+1+2) (w.heap.size+1+1) (64*n) (kpS (l.take i))/\Out 0 0 w wr) (fun u _=>((l.length:Int)-intOf u).toNat)
 case atStart=>exact⟨0,rfl,Nat.zero_le _,fun a ha=>by simp at ha,mH.out.quiet aI.out,lB.out,lA.out,by rw[List.take_zero,x6s];exact HM2.out,aI.out⟩
 case round=>
  clear lB lA HM2 aI HZ2;obtain⟨i,rfl,i1,i2,i3,i4,i5,i6,i7⟩:=hrel;have HA:=Q3 (And.intro i2 (And.intro i3 (And.intro i4 (And.intro i5 (And.intro i6 i7)))));have j0:(0:Int)<=(i:Int):=by omega
  by_cases eR:(i:Int)<(l.length:Int)
  ·obtain⟨g,rfl,hg,hgc⟩:∃ g,p=some ⟨g,0,none⟩/\g<w.heap.size/\∀ j,j<l.length->w.cell? ⟨g,j,none⟩=some (.int .i64 (l[j]?.getD 0)):=by
    rcases HLi.out with e | e
    ·rw[e] at eR;simp at eR;omega
    ·exact e
   have q0:=i7.cell (hgc i (by omega)) z0;obtain⟨a,ha⟩:∃ a,l[i]?.getD 0=a:=⟨_,rfl⟩
   rw[ha] at q0;have hmem:l.take (i+1)=l.take i ++ [a]:=by
    rw[List.take_add_one,List.getElem?_eq_getElem (by omega)];rw[List.getElem?_eq_getElem (by omega)] at ha;simp at ha;rw[ha];rfl
   have c0:=i4.cell;have c1:=i5.cell;obtain⟨d0,d1,d2,d3,d4,d5⟩:=i3.cells;have nM:=i3.look true a;cases hma:r.M a with
   | none=>
    have e1:z7u r.M a=none:=by unfold z7u;rw[hma];rfl
    rw[e1] at nM;simp only[Option.getD_none,Option.isSome_none,if_true] at nM;have HE:Hid (∃ a ∈ l,r.M a=none):=⟨a,by rw[<-List.take_append_drop (i+1) l,hmem];simp,hma⟩
    clear i2 i3 i4 i5 i6 i7 hmem hma e1 ha hg hgc;gi_wp2;refine⟨_,results_tmp2 rfl _ _ _,?_⟩;exact⟨(HA.out.2.2.2.2.2.any lo hi).trans (((Out.refl 0 0 wr).alloc _).any lo hi),.inr ⟨HE.out,rfl,HA.out.2.1.quiet ((Out.refl 0 0 wr).alloc _)⟩⟩
   | some b=>
    obtain⟨b1,b2,b3,b4⟩:=b;have e1:z7u r.M a=some (.agg #[.int .i64 a,.int .i64 b1,.int .i64 b2,.int .i64 b3,.int .i64 b4]):=by unfold z7u;rw[hma];rfl
    rw[e1] at nM;simp only[Option.getD_some,Option.isSome_some,if_true] at nM;obtain⟨j,rfl,hj⟩:=HMi.out a _ hma;have HJ:=Q3 hj;have HM:=Q3 hmem;have HS:=Q3 hma;clear i2 i3 i4 i5 i6 i7 hmem hma e1 ha hg hgc hj;have hoA:Out 0 0 wr (wr.alloc (.cells #[.int .i64 (j:Int),.int .i64 b1,.int .i64 b2,.int .i64 b3,.int .i64 b4] 81)):=(Out.refl 0 0 _).alloc _;have kT:=Q3 hoA;have HSt:=Q3 (q9c (HA.out.2.2.2.2.1.quiet hoA) (j:Int));have c2:=(HA.out.2.2.2.1.kept hoA z0).cell;clear hoA;gi_wp2_with (refine⟨trivial,rfl,?_⟩;gi_at_call 136;refine(callsIn_wide.2 HSt.out).mono ?_;rintro e w4 ⟨rfl,hm4,fI⟩);have hT:=HT.out;refine⟨⟨i+1,by congr 1,by omega,?_,(HA.out.2.1.quiet kT.out).kept fI (.inl (by omega)) (.inl (by omega)),(HA.out.2.2.1.kept kT.out z0).kept fI (by omega),(HA.out.2.2.2.1.kept kT.out z0).kept fI (by omega),?_,(HA.out.2.2.2.2.2.trans kT.out).past fI (by omega)⟩,by simp[intOf];omega⟩
    ·rw[HM.out];intro a' ha';rw[List.mem_append] at ha';rcases ha' with ha' | ha'
     ·exact HA.out.1 a' ha'
     ·simp at ha';rw[ha',HS.out];rfl
    ·rw[HM.out,<-j5y];have e5:q6c (kpS (l.take i)) (64*n) (j:Int) true=upd (kpS (l.take i)) j true:=by
      unfold q6c;rw[if_pos (show inB (64*n) (j:Int)=true from by unfold inB;simp;have:=HJ.out;omega)];rfl
     rw[<-e5];exact hm4
  ·have e:i=l.length:=by omega
   subst e;clear i2 i3 i4 i5 i6 i7;rw[List.take_length] at HA;have hge:(l.length:Int)<=(l.length:Int):=Int.le_refl _;have c0:=(HA.out.2.2.1.kept ((Out.refl 0 0 wr).alloc (.cells #[.int .i64 0] 3)) z0).cell;gi_wp2_with (refine⟨trivial,rfl,?_⟩;gi_at_call 137;refine(callsIn_wide.2 (HL.out _)).mono ?_;rintro e w1 ⟨rfl,rfl⟩);have HC:=Q3 (And.intro HA.out.1 (And.intro HA.out.2.1 (And.intro HA.out.2.2.1 (And.intro HA.out.2.2.2.1 (And.intro HA.out.2.2.2.2.1 HA.out.2.2.2.2.2)))));obtain⟨W1,cZ⟩:∃ W1,(wr.alloc (.cells #[.int .i64 0] 3)).alloc (.cells #[.pointer (some ⟨s 14,0,none⟩)] 76)=W1:=⟨_,rfl⟩
   obtain⟨G,hG⟩:∃ G,wr.heap.size=G:=⟨_,rfl⟩
   have hs1:W1.heap.size=G+2:=by rw[<-cZ,<-hG];simp
   have jD:Out 0 0 wr W1:=by rw[<-cZ];exact((Out.refl 0 0 wr).alloc _).alloc _
   have nG:Box W1 G 3 (.int .i64 0):=by rw[<-cZ,<-hG];exact J3
   have hz1:Box W1 (G+1) 76 (.pointer (some ⟨s 14,0,none⟩)):=by rw[<-cZ,<-hG];exact heap_alloc2_new _ _ _
   have HGG:Hid (w.heap.size+4<=G):=by show _<=_;have:=HC.out.2.2.2.1.lt;omega
   rw[cZ,hG];have bK:=Q3 jD;have HX1:=Q3 nG;have HZ1:=Q3 hz1;clear cZ jD nG hz1 HA c0 hge eR i1 j0 hG;refine j6p (lo:=lo) (hi:=hi) (n:=n) (cap:=cap) (g:=G+1) (s:=s) rfl rfl
    (fun p W=>p<=64*n/\RawAt W lo hi s n cap (K8 n r (kpS l) p)/\Box W w.heap.size 76 (.pointer (some ⟨s 14,0,none⟩))/\Box W (w.heap.size+1+2) 137 (.pointer (some ⟨w.heap.size+1+1,0,none⟩))/\MapAt W (w.heap.size+1) (w.heap.size+1+2) (w.heap.size+1+1) (64*n) (kpS l)/\Box W G 3 (.int .i64 ((U4 r (kpS l) p:Nat):Int))/\Box W (G+1) 76 (.pointer (some ⟨s 14,0,none⟩))/\Out lo hi w W)
    (fun W=>RawAt W lo hi s n cap (K8 n r (kpS l) (64*n))/\Box W w.heap.size 76 (.pointer (some ⟨s 14,0,none⟩))/\Box W G 3 (.int .i64 ((U4 r (kpS l) (64*n):Nat):Int))/\Out lo hi w W)
    (fun c W=>False) ?hm1 ?hq1 ?hqk1 ?hqx1 ?hy1 ?he1 ?hz1 ?hdone1 ?hstop1
   case hm1=>
    rintro p W ⟨hp,a1,a2,a3,a4,a5,a6,a7⟩;exact⟨hp,_,a1,q4o HTo.out p,a6⟩
   case hq1=>
    rintro p W W' x y ⟨hp,a1,a2,a3,a4,a5,a6,a7⟩ o hx;have hT:=HT.out;have hgg:=HGG.out;exact⟨hp,a1.kept o (by omega) (by omega),a2.kept o (by omega),a3.kept o (by omega),a4.kept o (by omega) (by omega),a5.kept o (by omega),a6.kept o (by omega),Y8 a7 o (by omega)⟩
   case hqk1=>
    rintro W W' x y ⟨a1,a2,a3,a4⟩ o hx;have hT:=HT.out;have hgg:=HGG.out;exact⟨a1.kept o (by omega) (by omega),a2.kept o (by omega),a3.kept o (by omega),Y8 a4 o (by omega)⟩
   case hqx1=>exact fun c W W' x y h _ _=>h
   case hstop1=>exact fun c W h _=>h.elim
   case hz1=>
    have o:=bK.out;exact⟨Nat.zero_le _,HC.out.2.1.quiet o,HC.out.2.2.1.kept o z0,HC.out.2.2.2.1.kept o z0,HC.out.2.2.2.2.1.quiet o,HX1.out,HZ1.out,(HC.out.2.2.2.2.2.trans o).any _ _⟩
   case he1=>
    rintro p W rr ⟨hp,a1,a2,a3,a4,a5,a6,a7⟩ hr hk;obtain⟨eP,eM⟩:=z7i a1 hr;rw[<-eP] at hk;rcases U8 (K8 n r (kpS l) p).P (64*n) p with ⟨_,hz⟩ | ⟨i,bV,_⟩
    ·obtain⟨e1,e2⟩:=j5a (n:=n) (r:=r) (kp:=kpS l) hp (fun j j1 j2=>by
      have:=hz j j1 j2;rw[(H8 (n:=n) (kp:=kpS l) HTo.out p j).1,show decide (j<p)=false from by simp;omega] at this;simpa using this)
     exact⟨by rw[e1];exact a1,a2,by rw[e2];exact a5,a7⟩
    ·have:(-1:Int)=i:=hk.symm.trans bV;omega
   case hy1=>
    rintro p W rr k b ⟨hp,a1,a2,a3,a4,a5,a6,a7⟩ hr hk hb hU;obtain⟨eP,eM⟩:=z7i a1 hr;rw[<-eP] at hk;rw[<-eM] at hb;have hK1:=H8 (n:=n) (kp:=kpS l) HTo.out p;have hrP:∀ j,p<=j->(K8 n r (kpS l) p).P j=r.P j:=fun j hj=>by
     rw[(hK1 j).1,show decide (j<p)=false from by simp;omega];simp
    obtain⟨hpk,hkn,hPk,hz⟩:p<=k/\k<64*n/\r.P k=true/\∀ j,p<=j->j<k->r.P j=false:=by
     rcases U8 (K8 n r (kpS l) p).P (64*n) p with ⟨e1,_⟩ | ⟨i,e1,e2,e3,e4,e5⟩
     ·have:(-1:Int)=k:=e1.symm.trans hk;omega
     ·have:i=k:=by have:(i:Int)=k:=e1.symm.trans hk;omega
      subst this;exact⟨e3 hp,e2,by rw[<-hrP i (e3 hp)];exact e4,fun j j1 j2=>by rw[<-hrP j j1];exact e5 j j1 j2⟩
    have kW:r.M (k:Int)=some b:=by rw[<-(hK1 k).2.1 (.inr hpk)];exact hb
    obtain⟨e1,e2⟩:=j5a (n:=n) (r:=r) (kp:=kpS l) hpk hz;rw[<-e1] at a1;rw[<-e2] at a5;rw[hs1] at hU ⊢;have hRo:=HRo.out k b hPk kW;have oQ:=fun hkk=>j4y (n:=n) (r:=r) (kp:=kpS l) hPk hkk kW
    have hfl:=z8l r (kpS l) k;obtain⟨b1,b2,b3,b4⟩:=b;have A:=Q3 (And.intro a1 (And.intro a2 (And.intro a3 (And.intro a4 (And.intro a5 (And.intro a6 a7))))));have HKn:=Q3 (And.intro hkn (And.intro hU hfl));have HRk:=Q3 hRo;have HGo:=Q3 oQ;clear a1 a2 a3 a4 a5 a6 a7 hr hk hb eP eM hz hPk kW hRo hp hpk hkn hU e1 e2 hK1 hrP oQ hfl;unfold j1q;dsimp only at A HRk HGo ⊢;obtain⟨f,hf⟩:∃ f:Nat,U4 r (kpS l) k=f:=⟨_,rfl⟩
    obtain⟨q,hq⟩:∃ q,K8 n r (kpS l) k=q:=⟨_,rfl⟩
    rw[hf,hq] at A HGo;rw[hf] at HKn;obtain⟨WA,hWA⟩:∃ WA,W.alloc (bo (k:Int) b1 b2 b3 b4)=WA:=⟨_,rfl⟩
    have HBA:Hid (WA.heap[W.heap.size]? = some (bo (k:Int) b1 b2 b3 b4)):=by rw[<-hWA];exact heap_alloc_new _ _
    have kT:Hid (Out 0 0 W WA):=by rw[<-hWA];exact(Out.refl 0 0 W).alloc _
    obtain⟨H,hH⟩:∃ H,W.heap.size=H:=⟨_,rfl⟩
    rw[hH] at HKn HBA;unfold bo at hWA;gi_wp2;(try rw[hWA]);refine⟨kT.out.any _ _,?_⟩;(try rw[hH]);clear hWA hH;intro W2 o2;have hT:=HT.out;have hgg:=HGG.out;have hkk:=HKn.out;have eH:=Q3 ((A.out.1.quiet kT.out).kept o2 (.inl (by omega)) (.inl (by omega)));have kZ:=Q3 ((A.out.2.1.kept kT.out z0).kept o2 (.inl (by omega)));have lA:=Q3 ((A.out.2.2.1.kept kT.out z0).kept o2 (.inl (by omega)));have HM2:=Q3 ((A.out.2.2.2.1.quiet kT.out).kept o2 (.inl (by omega)) (.inl (by omega)));have gT:=Q3 ((A.out.2.2.2.2.1.kept kT.out z0).kept o2 (.inl (by omega)));have HZ2:=Q3 ((A.out.2.2.2.2.2.1.kept kT.out z0).kept o2 (.inl (by omega)));have lB:=Q3 (o2.heap HBA.out (.inr (by omega)));have aI:=Q3 (Y8 (Y8 A.out.2.2.2.2.2.2 kT.out (.inr rfl)) o2 (.inl (by omega)));have HGt:=Q3 (j5n HM2.out (k:Int));have bG:j9v (kpS l) (64*n) (k:Int)=kpS l k:=by
     unfold j9v;rw[show inB (64*n) (k:Int)=true from by unfold inB;simp;omega];simp
    rw[bG] at HGt;have c0:=lA.out.cell;obtain⟨q0,q1,q2,q3,q4⟩:=F7 lB.out;have f0:(0:Int)<=(f:Int):=by omega
    have f1:(f:Int)<=262144:=by omega
    clear o2 hT hgg hkk bG A;cases hkp:kpS l k with
    | true=>
     rw[hkp] at HGt;obtain⟨g1,g2⟩:=j4z (n:=n) (r:=r) (kp:=kpS l) hkp;rw[hq] at g1;rw[hf] at g2;have HG1:=Q3 g1;have HG2:=Q3 g2;clear g1 g2 hkp hf hq HGo;gi_wp2_with (refine⟨trivial,rfl,?_⟩;gi_at_call 138;refine(callsIn_wide.2 HGt.out).mono ?_;rintro e w3 ⟨rfl,fJ⟩);refine⟨fJ.any _ _,by have:=HKn.out;omega,by rw[HG1.out];exact eH.out.quiet fJ,kZ.out.kept fJ z0,lA.out.kept fJ z0,HM2.out.quiet fJ,by rw[HG2.out];exact gT.out.kept fJ z0,HZ2.out.kept fJ z0,Y8 aI.out fJ (.inr rfl)⟩
    | false=>
     rw[hkp] at HGt;obtain⟨g1,g2⟩:=HGo.out hkp;have HG1:=Q3 g1;have HG2:=Q3 g2;clear g1 g2 hkp hf hq HGo;gi_wp2_with (first
      | (refine⟨trivial,rfl,?_⟩;gi_at_call 138;refine(callsIn_wide.2 HGt.out).mono ?_;rintro e w3 ⟨rfl,fJ⟩;have iR:=Q3 (eH.out.quiet fJ);have bQ:=Q3 fJ;have d0:=(kZ.out.kept fJ z0).cell;clear q0 q1 q2 q3 q4;obtain⟨q0,q1,q2,q3,q4⟩:=F7 (fJ.heap lB.out z0);clear fJ)
      | (refine⟨trivial,rfl,?_⟩;gi_at_call 139;refine(callsIn_wide.2 (j9m iR.out (a:=k) (k:=b1) (z:=b2) (x:=b3) (t:=b4) HRk.out.1 HRk.out.2.1 HKn.out.1)).mono ?_;rintro e w4 ⟨⟨v,rfl⟩,hr4,fI⟩;have fM:=Q3 hr4;have bN:=Q3 fI;have gJ:=(gT.out.kept bQ.out z0).kept fI (.inr (by have:=HT.out;have:=HGG.out;omega));have iN:=Q3 gJ;have e0:=gJ.cell;have e1:=gJ.frozen;clear hr4 fI gJ))
     have lC:=(Out.refl G (G+1) w4).setCell (p:=⟨G,0,none⟩) z1 (.int .i64 ((f:Int)+1));have hbx:=iN.out.set (.int .i64 ((f:Int)+1));have hT:=HT.out;have hgg:=HGG.out;have hkk:=HKn.out;have h3:=bQ.out;have h4:=bN.out;exact⟨((h3.any 0 (G+2)).trans (h4.wide (Nat.zero_le _) (by omega))).trans (lC.wide (Nat.zero_le _) (by omega)),by omega,by rw[HG1.out];exact fM.out.kept lC (.inl (by omega)) (.inl (by omega)),((kZ.out.kept h3 z0).kept h4 (by omega)).kept lC (by omega),((lA.out.kept h3 z0).kept h4 (by omega)).kept lC (by omega),((HM2.out.quiet h3).kept h4 (.inr (by omega)) (.inl (by omega))).kept lC (.inl (by omega)) (.inl (by omega)),by rw[HG2.out];exact hbx,((HZ2.out.kept h3 z0).kept h4 (by omega)).kept lC (by omega),Y8 ((aI.out.trans (h3.any lo hi)).trans h4) lC (.inl (by omega))⟩
   case hdone1=>
    rintro W ⟨a1,a2,a3,a4⟩ hd;rw[hs1] at hd;have HD:=Q3 hd;have HS:=Q3 a2;have HF:=Q3 a3;have HO:=Q3 a4;have HWp:=Q3 (x1w a1 (q4o HTo.out _) (j2d HTo.out HRo.out _));have c0:=a2.cell;obtain⟨f,hf⟩:∃ f:Nat,U4 r (kpS l) (64*n)=f:=⟨_,rfl⟩
    rw[hf] at HF;rw[hs1];clear a1 a2 a3 a4 hd;gi_wp2_with (first
     | (refine⟨trivial,rfl,?_⟩;gi_at_call 140;refine(callsIn_wide.2 HWp.out).mono ?_;rintro e w3 ⟨⟨v,rfl⟩,hr3,fJ⟩;have HDl:=Q3 (j9k hr3);have bQ:=Q3 fJ;have d0:=(HS.out.kept fJ (.inr (by have:=HT.out;omega))).cell;clear hr3 fJ)
     | (refine⟨trivial,rfl,?_⟩;gi_at_call 141;refine(callsIn_wide.2 HDl.out).mono ?_;rintro e w4 ⟨⟨v,rfl⟩,hr4,fI⟩;have fM:=Q3 hr4;have bN:=Q3 fI;have e0:=((HF.out.kept bQ.out (.inr (by have:=HT.out;have:=HGG.out;omega))).kept fI (.inr (by have:=HT.out;have:=HGG.out;omega))).cell;clear hr4 fI))
    have hT:=HT.out;have hgg:=HGG.out;refine⟨by simp,.inl ⟨_,_,rfl,run_takeDeferred (bN.out.heap (bQ.out.heap HD.out (.inr (by omega))) (.inr (by omega))),?_⟩⟩;exact⟨_,results_tmp2 rfl _ _ _,Y8 ((HO.out.trans bQ.out).trans bN.out) (Y0 _ _ _) (by omega),.inl ⟨HC.out.1,by rw[hf];rfl,fM.out.kept (Y0 _ _ _) (by omega) (by omega)⟩⟩
end
end Go.Proofs.YtjgnogflgoihfaaGreatDoor
namespace Go.Proofs.YtjgnogflgoihfaaGreatDoor
open Go.RowKit
set_option linter.unusedVariables false
set_option maxRecDepth 100000
set_option maxHeartbeats 16000000
set_option linter.unusedSimpArgs false
section
variable {w:World} {lo hi n cap:Nat} {s:Nat->Nat} {r:Raw} {B G:Nat} {T:Nat->Int × Int × Int} {tb:Value} {fr fs:Nat->Int}
theorem of_lt (z:Int) (hp:¬ 0<B9 z) (h:0<=ofV z):∃ c:Nat,ofV z=(c:Int)/\c<8:=by
 have hz:z<=32\/1024<z:=by
  by_cases hh:32<z/\z<=1024
  ·unfold B9 at hp;rw[if_pos hh] at hp;omega
  ·omega
 have:ofV z<=7:=by
  unfold ofV;repeat' split
  all_goals omega
 exact⟨(ofV z).toNat,by omega,by omega⟩
end
end Go.Proofs.YtjgnogflgoihfaaGreatDoor
