import Derived.Test.YtjbbkeoolodeaabGreatDoorB12
import Derived.Test.YtjbbkeoolodeaabGreatDoorB13
import Derived.Test.YtjbbkeoolodeaabGreatDoorB10
namespace Go.Proofs.YtjbbkeoolodeaabGreatDoor
open Go.RowKit
set_option linter.unusedVariables false
set_option maxRecDepth 100000
set_option maxHeartbeats 16000000
set_option linter.unusedSimpArgs false
def rPo (D:Nat) (W2:World) (J:World->Prop) (Kx:Code->World->Prop):Exit->Act->World->Prop
 | .normal,_,W=>Out 0 D W2 W/\J W
 | .ret,_,W=>Out 0 D W2 W/\Kx .ret W
 | .exit id,_,W=>Out 0 D W2 W/\Kx (.exit id) W
 | .goto t,_,W=>Out 0 D W2 W/\Kx (.goto t) W
 | .panic _,_,_=>False
 | .outgrown,_,_=>False
theorem z4p {D:Nat} {W Wa W2 W3 W':World} (h1:Out 0 D W Wa) (h2:Out (D+1) (D+2) Wa W2) (h3:Out 0 D W2 W3) (h4:Out (D+1) (D+2) W3 W'):Out 0 (D+2) W W':=
 ((h1.wide (Nat.le_refl _) (by omega)).trans (h2.wide (Nat.zero_le _) (by omega))).trans ((h3.wide (Nat.le_refl _) (by omega)).trans (h4.wide (Nat.zero_le _) (by omega)))
theorem z3h {D:Nat} {W Wa W2 W3 W':World} {o:Obj} (h1:Out 0 D W Wa) (h2:Out (D+1) (D+2) Wa W2) (h3:Out 0 D W2 W3) (h4:Out (D+1) (D+2) W3 W') (h:W.heap[D]? = some o):W'.heap[D]? = some o:=
 h4.heap (h3.heap (h2.heap (h1.heap h (by omega)) (by omega)) (by omega)) (by omega)
theorem j3a {P:Program} {a:Act} {ps:Array Tmp} {assign body:Code} {D:Nat} {rec:LoopState->Option Code->Loop} {W:World} {args:Array Value} {J':World->Prop} {Kx:Code->World->Prop}
  (hrec:j2z a ps assign body D rec) (hd:W.heap[D]? = some (.deferred (some []))) (hl:W.heap[D+1]? = some (.loop (rec .ready none))) (hs:args.size=ps.size)
  (hq:∀ W W' x y,J' W->Out x y W W'->(D<=x\/y=0)->J' W') (hqX:∀ c W W' x y,Kx c W->Out x y W W'->D<=x->Kx c W')
  (h:assign.wpIn (Fence.wide.inRound (D+1)) 0 P (Exit.then (fun a1 Wa=>Out 0 D W Wa/\∀ W2,Out (D+1) (D+2) Wa W2->body.wpIn (Fence.wide.inRound (D+1)) 0 P (rPo D W2 J' Kx) a1 W2) (fun _ _ _=>False))
   { tmps:=(ps.zip args).foldl (fun t (p,v)=>t.setIfInBounds p v) a.tmps,defers:=[] } W) :
  YieldAt Fence.wide 0 P (D+1) args W fun e W'=>Out 0 (D+2) W W'/\((e=.returned (.bool true)/\J' W'/\W'.heap[D]? = some (.deferred (some []))/\W'.heap[D+1]? = some (.loop (rec .ready none))) ∨
   (e=.returned (.bool false)/\∃ c,Kx c W'/\W'.heap[D]? = some (.deferred (some []))/\W'.heap[D+1]? = some (.loop (rec .done (some c))))):=by
 refine z0y hrec hl hs (wpIn_mono h ?_);rintro e a1 Wa he;cases e with
 | normal=>
  obtain⟨o1,hb⟩:=he;refine⟨o1.heap hl (.inr (by omega)),fun W2 o2 hl2=>wpIn_mono (hb W2 o2) ?_⟩;rintro e2 a2 W3 hp;cases e2 with
  | normal=>exact⟨hp.1.heap hl2 (.inr (by omega)),fun W' o4 hl4=>⟨z4p o1 o2 hp.1 o4,.inl ⟨rfl,hq _ _ _ _ hp.2 o4 (.inl (by omega)),z3h o1 o2 hp.1 o4 hd,hl4⟩⟩⟩
  | ret=>exact⟨hp.1.heap hl2 (.inr (by omega)),fun W' o4 hl4=>⟨z4p o1 o2 hp.1 o4,.inr ⟨rfl,_,hqX _ _ _ _ _ hp.2 o4 (by omega),z3h o1 o2 hp.1 o4 hd,hl4⟩⟩⟩
  | exit id=>exact⟨hp.1.heap hl2 (.inr (by omega)),fun W' o4 hl4=>⟨z4p o1 o2 hp.1 o4,.inr ⟨rfl,_,hqX _ _ _ _ _ hp.2 o4 (by omega),z3h o1 o2 hp.1 o4 hd,hl4⟩⟩⟩
  | goto t=>exact⟨hp.1.heap hl2 (.inr (by omega)),fun W' o4 hl4=>⟨z4p o1 o2 hp.1 o4,.inr ⟨rfl,_,hqX _ _ _ _ _ hp.2 o4 (by omega),z3h o1 o2 hp.1 o4 hd,hl4⟩⟩⟩
  | panic ch=>exact hp.elim
  | outgrown=>exact hp.elim
 | ret=>exact he.elim
 | exit id=>exact he.elim
 | goto t=>exact he.elim
 | panic ch=>exact he.elim
 | outgrown=>exact he.elim
theorem q5b {lo hi n cap g:Nat} {s:Nat->Nat} {op:Operand} {ps:Array Tmp} {assign body:Code} {Q:Exit->Act->World->Prop} {a:Act} {w:World}
  (hg:a.eval op=.func (.func 126) #[] #[.pointer (some ⟨g,0,none⟩)]) (hps:ps.size=1)
  (J:Nat->World->Prop) (K:World->Prop) (Kx:Code->World->Prop)
  (hm:∀ p W,J p W->p<=64*n/\∃ r,RawAt W lo hi s n cap r/\z8q r/\Box W g 34 (.pointer (some ⟨s 14,0,none⟩)))
  (hq:∀ p W W' x y,J p W->Out x y W W'->(w.heap.size<=x\/y=0)->J p W')
  (hqK:∀ W W' x y,K W->Out x y W W'->w.heap.size<=x->K W')
  (hqX:∀ c W W' x y,Kx c W->Out x y W W'->w.heap.size<=x->Kx c W')
  (hy:∀ p W r (k:Nat) b,J p W->RawAt W lo hi s n cap r->nxr r.P (64*n) p=k->r.M (k:Int)=some b->w.heap.size+2<=W.heap.size ->
   assign.wpIn (Fence.wide.inRound (w.heap.size+1)) 0 Tryz.prog (Exit.then (fun a1 Wa=>Out 0 w.heap.size W Wa/\∀ W2,Out (w.heap.size+1) (w.heap.size+2) Wa W2->body.wpIn (Fence.wide.inRound (w.heap.size+1)) 0 Tryz.prog (rPo w.heap.size W2 (J (k+1)) Kx) a1 W2) (fun _ _ _=>False))
    { tmps:=(ps.zip #[q6a k b]).foldl (fun t (p,v)=>t.setIfInBounds p v) a.tmps,defers:=[] } W)
  (he:∀ p W r,J p W->RawAt W lo hi s n cap r->nxr r.P (64*n) p = -1->K W) (h0:J 0 w)
  (hdone:∀ W,K W->W.heap[w.heap.size]? = some (.deferred (some []))->Q .normal { a with defers:={ target:=.collected w.heap.size,args:=#[] } :: a.defers } W)
  (hstop:∀ c W,Kx c W->W.heap[w.heap.size]? = some (.deferred (some []))->c.wpIn Fence.wide 0 Tryz.prog Q { a with defers:={ target:=.collected w.heap.size,args:=#[] } :: a.defers } W) :
  (Code.rangeFunc op ps assign body).wpIn Fence.wide 0 Tryz.prog Q a w:=by
 refine z1a hg (enters_of Tryz.func126 (by kernel_rfl) rfl) K Kx ?H (fun W W' hK ho hd=>hdone W' (hqK _ _ _ _ hK ho (by omega)) hd) (fun c W W' hK ho hd=>hstop c W' (hqX _ _ _ _ _ hK ho (by omega)) hd);intro rec hrec W1 hW1;have ho:Out 0 0 w W1:=by rw[hW1];exact((Out.refl 0 0 w).alloc _).alloc _
 have hs:W1.heap.size=w.heap.size+2:=by rw[hW1];simp
 have hd:W1.heap[w.heap.size]? = some (.deferred (some [])):=by rw[hW1];exact K4
 have hl:W1.heap[w.heap.size+1]? = some (.loop (rec .ready none)):=by rw[hW1];exact heap_alloc2_new _ _ _
 clear hW1;refine(q8b (lo:=lo) (hi:=hi) (n:=n) (cap:=cap) (s:=s) (g:=g) (l:=w.heap.size+1)
  (fun p W=>J p W/\W.heap[w.heap.size]? = some (.deferred (some []))/\W.heap[w.heap.size+1]? = some (.loop (rec .ready none)))
  (fun W=>K W/\W.heap[w.heap.size]? = some (.deferred (some []))/\W.heap[w.heap.size+1]? = some (.loop (rec .ready none)))
  (fun W=>∃ c,Kx c W/\W.heap[w.heap.size]? = some (.deferred (some []))/\W.heap[w.heap.size+1]? = some (.loop (rec .done (some c)))) (w:=W1) ?m ?q ?qj ?qx ?y ?e ?z).mono ?_
 case m=>exact fun p W h=>hm p W h.1
 case q=>exact fun p W W' x y h o hx=>⟨hq p W W' x y h.1 o (by omega),o.heap h.2.1 (by omega),o.heap h.2.2 (by omega)⟩
 case qj=>exact fun W W' x y h o hx=>⟨hqK W W' x y h.1 o (by omega),o.heap h.2.1 (by omega),o.heap h.2.2 (by omega)⟩
 case qx=>rintro W W' x y ⟨c,h1,h2,h3⟩ o hx;exact⟨c,hqX c W W' x y h1 o (by omega),o.heap h2 (by omega),o.heap h3 (by omega)⟩
 case y=>
  rintro p W r k b ⟨hj,hd1,hl1⟩ hr hk hb;rw[hs];refine j3a hrec hd1 hl1 (by simp[hps]) (hq (k+1)) hqX (hy p W r k b hj hr hk hb ?_);have:=Q4 hl1;omega
 case e=>exact fun p W r h hr hk=>⟨he p W r h.1 hr hk,h.2⟩
 case z=>exact⟨hq 0 w W1 0 0 h0 ho (.inr rfl),hd,hl⟩
 rintro e W ⟨hv,⟨h1,h2,h3⟩ | ⟨c,h1,h2,h3⟩⟩
 ·exact⟨hv,h2,.inl ⟨h1,h3⟩⟩
 ·exact⟨hv,h2,.inr ⟨c,h1,h3⟩⟩
theorem x1d {w:World} {b:Nat} {f f':Int->Option Value} (h:MpAt w b f) (h':MpAt w b f'):f=f':=by
 obtain⟨es,cl,hb,_,_,h1⟩:=h;obtain⟨es',cl',hb',_,_,h2⟩:=h';rw[hb] at hb';simp at hb';obtain⟨rfl,rfl⟩:=hb';funext a
 apply Option.ext;intro v;rw[h1 a v,h2 a v]
theorem z2j {w:World} {lo hi n cap:Nat} {s:Nat->Nat} {r r':Raw} (h:RawAt w lo hi s n cap r) (h':RawAt w lo hi s n cap r'):r.P=r'.P/\r.M=r'.M:=by
 refine⟨MapAt.one h.places h'.places,?_⟩;have e:=x1d h.objs h'.objs;funext a
 have ea:=congrFun e a;unfold z6b at ea;cases x:r.M a with
 | none=>
  rw[x] at ea;cases y:r'.M a with
  | none=>rfl
  | some b=>rw[y] at ea;cases ea
 | some b=>
  rw[x] at ea;cases y:r'.M a with
  | none=>rw[y] at ea;cases ea
  | some c=>
   rw[y] at ea;obtain⟨b1,b2,b3,b4⟩:=b;obtain⟨c1,c2,c3,c4⟩:=c;simp[q6a] at ea;obtain⟨rfl,rfl,rfl,rfl⟩:=ea;rfl
end Go.Proofs.YtjbbkeoolodeaabGreatDoor
namespace Go.Proofs.YtjbbkeoolodeaabGreatDoor
open Go.RowKit
attribute [local go_sem] Oper.semAt_some
set_option linter.unusedVariables false
set_option maxRecDepth 100000
set_option maxHeartbeats 16000000
set_option linter.unusedSimpArgs false
def q7v (r:Raw) (i:Nat):Bool:=(List.range (i+1)).any fun a=>r.P a && (match r.M (a:Int) with | some b=>decide (i<a+J3 b.2.1) | none=>false)
theorem inRm_iff {r:Raw} {i:Nat}:q7v r i=true ↔ ∃ a b,a<=i/\r.P a=true/\r.M (a:Int)=some b/\i<a+J3 b.2.1:=by
 unfold q7v;rw[List.any_eq_true];constructor
 ·rintro⟨a,ha,h⟩;rw[List.mem_range] at ha;rw[Bool.and_eq_true] at h;cases e:r.M (a:Int) with
  | none=>rw[e] at h;exact absurd h.2 (by simp)
  | some b=>rw[e] at h;exact⟨a,b,by omega,h.1,e,by simpa using h.2⟩
 ·rintro⟨a,b,h1,h2,h3,h4⟩;refine⟨a,by rw[List.mem_range];omega,?_⟩;rw[h2,h3];simpa using h4
def wpW (r:Raw) (f:Nat):Nat->Int:=fun i=>if i<f/\q7v r i=false then 0 else r.W i
theorem x0e (r:Raw):wpW r 0=r.W:=by funext i;unfold wpW;rw[if_neg (by omega)]
theorem j7d {r:Raw} {f k:Nat} (h:f<=k) (hz:∀ i,f<=i->i<k->q7v r i=false):U9 (wpW r f) f (k-f)=wpW r k:=by
 funext i
 unfold U9 wpW;by_cases e:f<=i/\i<f+(k-f)
 ·rw[if_pos e,if_pos ⟨by omega,hz i e.1 (by omega)⟩]
 ·rw[if_neg e];by_cases e2:i<f/\q7v r i=false
  ·rw[if_pos e2,if_pos ⟨by omega,e2.2⟩]
  ·rw[if_neg e2,if_neg (fun h'=>e2 ⟨by omega,h'.2⟩)]
theorem x0b {r:Raw} {k m:Nat} (hz:∀ i,k<=i->i<k+m->q7v r i=true):wpW r k=wpW r (k+m):=by
 funext i
 unfold wpW;by_cases e:i<k+m/\q7v r i=false
 ·have:i<k:=by
   by_cases e2:i<k
   ·exact e2
   ·have:=hz i (by omega) e.1;rw[e.2] at this;cases this
  rw[if_pos ⟨this,e.2⟩,if_pos e]
 ·rw[if_neg e,if_neg (fun h'=>e ⟨by omega,h'.2⟩)]
def q7x (n:Nat) (r:Raw):Prop:=∀ a b,r.P a=true->r.M (a:Int)=some b->1<=b.2.1/\b.2.1<=1024/\a+J3 b.2.1<=64*n/\∀ a',a<a'->r.P a'=true->a+J3 b.2.1<=a'
structure At (n:Nat) (r:Raw) (p f:Nat):Prop where
 le:f<=64*n
 below:∀ a b,a<p->r.P a=true->r.M (a:Int)=some b->a+J3 b.2.1<=f
 above:∀ a,p<=a->r.P a=true->f<=a
theorem At.gap {n:Nat} {r:Raw} {p f k:Nat} (h:At n r p f) (hz:∀ j,p<=j->j<k->r.P j=false):∀ i,f<=i->i<k->q7v r i=false:=by
 intro i h1 h2;cases e:q7v r i with
 | false=>rfl
 | true=>
  obtain⟨a,b,a1,a2,a3,a4⟩:=inRm_iff.1 e;by_cases hp:a<p
  ·have:=h.below a b hp a2 a3;omega
  ·rw[hz a (by omega) (by omega)] at a2;cases a2
theorem At.step {n:Nat} {r:Raw} {p f k:Nat} {b:Blk} (hR:q7x n r) (h:At n r p f) (hp:p<=k) (hz:∀ j,p<=j->j<k->r.P j=false) (hk:r.P k=true) (hb:r.M (k:Int)=some b):At n r (k+1) (k+J3 b.2.1):=by
 obtain⟨_,_,h3,h4⟩:=hR k b hk hb;refine⟨h3,fun a b' ha hPa hMa=>?_,fun a ha hPa=>h4 a (by omega) hPa⟩;by_cases e:a=k
 ·subst e;rw[hb] at hMa;cases hMa;exact Nat.le_refl _
 ·by_cases e2:a<p
  ·have:=h.below a b' e2 hPa hMa;have:=h.above k hp hk;omega
  ·rw[hz a (by omega) (by omega)] at hPa;cases hPa
theorem x0c {r:Raw} {k:Nat} {b:Blk} (hk:r.P k=true) (hb:r.M (k:Int)=some b):∀ i,k<=i->i<k+J3 b.2.1->q7v r i=true:=fun i h1 h2=>inRm_iff.2 ⟨k,b,h1,hk,hb,h2⟩
theorem q7p (bw n cap lo:Nat) (h1:lo<=n):∃ o cp:Nat,(∀ wx,(Instr.slice 30 (.slice (some ⟨bw,0,none⟩) n cap) (some (.int .i64 (lo:Int))) none none).run Tryz.prog wx=.ok (.slice (some ⟨bw,o,none⟩) (n-lo) cp) wx)/\(0<n-lo->cap=lo\/o=lo):=by
 by_cases e:cap=lo
 ·refine⟨0,cap-lo,fun wx=>?_,fun h=>.inl e⟩;rw[run_slice_l wx 30 _ n cap (by rw[z0k];exact Tryz.underlying30) .i64 (lo:Int) (by omega) (by omega),z0k,z6i];simp[Result.andThen,sliced,e]
 ·refine⟨lo,cap-lo,fun wx=>?_,fun h=>.inr rfl⟩;rw[run_slice_l wx 30 _ n cap (by rw[z0k];exact Tryz.underlying30) .i64 (lo:Int) (by omega) (by omega),z0k,z6i];have e2:(⟨bw,0,none⟩:Addr).add lo=⟨bw,lo,none⟩:=by rw[Addr.add_lit,Nat.zero_add]
  simp[Result.andThen,sliced,e,e2]
theorem j6i {w:World} {lo hi n cap:Nat} {s:Nat->Nat} {r:Raw} (h:RawAt w lo hi s n cap r) (hT:z8q r) (hR:q7x n r) :
  Calls Tryz.prog 117 #[.pointer (some ⟨s 14,0,none⟩)] w fun e w'=>(∃ v,e=.returned v)/\RawAt w' lo hi s n cap { r with W:=wpW r (64*n) }/\Out lo hi w w':=by
 have HR0:=Z0 h;have HTo:=Z0 hT;have HRo:=Z0 hR;have h11:s 11<hi:=by have:=(h.inn 11 (by omega)).2;simp[ln] at this;omega
 have h14:s 14<hi/\s 11 ≠ s 14:=by have a:=(h.inn 14 (by omega)).2;have b:=h.apart 11 14 (by omega) (by omega) (by omega);simp[ln] at a b;omega
 have HT:Hid (hi<=w.heap.size/\4<=w.heap.size/\s 11<hi/\s 14<hi/\s 11 ≠ s 14/\4<=lo/\n<=4096/\1<=n/\64*n<=cap):=⟨h.top,h.tab.lt,h11,h14.1,h14.2,h.glob,h.n2,h.n1,h.capn⟩
 have HL:=Z0 (fun w=>z4i (s 14) w);clear h h11 h14 hT hR;refine(callsIn_wide (n:=0)).1 ?_;refine callsIn_of_wp_marks Tryz.func117 rfl trivial ?_ rfl;simp only[Tryz.ntmps117,List.size_toArray,List.length_cons,List.length_nil,Nat.reduceAdd,Nat.reduceSub,Array.replicate_succ,Array.replicate_zero,List.push_toArray,List.append_toArray,List.nil_append,List.cons_append];gi_wp2_with (refine⟨trivial,rfl,?_⟩;gi_at_call 77;refine(callsIn_wide.2 (HL.out _)).mono ?_;rintro e w1 ⟨rfl,rfl⟩);obtain⟨W1,hW1⟩:∃ W1,((w.alloc (.cells #[.pointer (some ⟨s 14,0,none⟩)] 34)).alloc (.cells #[.int .i64 0] 3)).alloc (.cells #[.pointer (some ⟨s 14,0,none⟩)] 34)=W1:=⟨_,rfl⟩
 have hs1:W1.heap.size=w.heap.size+3:=by rw[<-hW1];simp
 have ho1:Out 0 0 w W1:=by rw[<-hW1];exact((((Out.refl 0 0 w).alloc _).alloc _).alloc _)
 have hy1:Box W1 w.heap.size 34 (.pointer (some ⟨s 14,0,none⟩)):=by rw[<-hW1];exact Box.alloc (w:=(w.alloc (.cells #[.pointer (some ⟨s 14,0,none⟩)] 34)).alloc (.cells #[.int .i64 0] 3)) K4 _
 have hx1:Box W1 (w.heap.size+1) 3 (.int .i64 0):=by rw[<-hW1];exact Box.alloc (w:=(w.alloc (.cells #[.pointer (some ⟨s 14,0,none⟩)] 34)).alloc (.cells #[.int .i64 0] 3)) (heap_alloc2_new _ _ _) _
 have hz1:Box W1 (w.heap.size+1+1) 34 (.pointer (some ⟨s 14,0,none⟩)):=by
  rw[<-hW1];have:=heap_alloc_new ((w.alloc (.cells #[.pointer (some ⟨s 14,0,none⟩)] 34)).alloc (.cells #[.int .i64 0] 3)) (.cells #[.pointer (some ⟨s 14,0,none⟩)] 34);rw[World.size_alloc,World.size_alloc] at this;exact this
 rw[hW1];clear hW1;have HO1:=Z0 ho1;have HY1:=Z0 hy1;have HX1:=Z0 hx1;have HZ1:=Z0 hz1;clear ho1 hy1 hx1 hz1;refine q5b (lo:=lo) (hi:=hi) (n:=n) (cap:=cap) (g:=w.heap.size+1+1) (s:=s) rfl rfl
  (fun p W=>p<=64*n/\∃ f:Nat,At n r p f/\RawAt W lo hi s n cap { r with W:=wpW r f }/\Box W w.heap.size 34 (.pointer (some ⟨s 14,0,none⟩))/\Box W (w.heap.size+1) 3 (.int .i64 (f:Int))/\Box W (w.heap.size+1+1) 34 (.pointer (some ⟨s 14,0,none⟩))/\Out lo hi w W)
  (fun W=>∃ f:Nat,f<=64*n/\U9 (wpW r f) f (64*n-f)=wpW r (64*n)/\RawAt W lo hi s n cap { r with W:=wpW r f }/\Box W w.heap.size 34 (.pointer (some ⟨s 14,0,none⟩))/\Box W (w.heap.size+1) 3 (.int .i64 (f:Int))/\Out lo hi w W)
  (fun c W=>False) ?hm1 ?hq1 ?hqk1 ?hqx1 ?hy1 ?he1 ?hz1 ?hdone1 ?hstop1
 case hm1=>
  rintro p W ⟨hp,f,hA,a1,a2,a3,a4,a5⟩;exact⟨hp,_,a1,HTo.out,a4⟩
 case hq1=>
  rintro p W W' x y ⟨hp,f,hA,a1,a2,a3,a4,a5⟩ o hx;exact⟨hp,f,hA,a1.kept o (by have:=HT.out;omega) (by have:=HT.out;omega),a2.kept o (by omega),a3.kept o (by omega),a4.kept o (by omega),Z9 a5 o (by omega)⟩
 case hqk1=>
  rintro W W' x y ⟨f,hA,hw,a1,a2,a3,a5⟩ o hx;exact⟨f,hA,hw,a1.kept o (by have:=HT.out;omega) (by have:=HT.out;omega),a2.kept o (by omega),a3.kept o (by omega),Z9 a5 o (by omega)⟩
 case hqx1=>exact fun c W W' x y h _ _=>h
 case hstop1=>exact fun c W h _=>h.elim
 case hz1=>exact⟨Nat.zero_le _,0,⟨Nat.zero_le _,fun a b h=>absurd h (by omega),fun a _ _=>Nat.zero_le _⟩,by rw[x0e];exact HR0.out.quiet HO1.out,HY1.out,HX1.out,HZ1.out,HO1.out.any _ _⟩
 case he1=>
  rintro p W rr ⟨hp,f,hA,a1,a2,a3,a4,a5⟩ hr hk;obtain⟨eP,eM⟩:=z2j a1 hr;rw[<-eP] at hk;rcases Q1 r.P (64*n) p with ⟨_,hz⟩ | ⟨i,hi',_⟩
  ·exact⟨f,hA.le,j7d hA.le (hA.gap hz),a1,a2,a3,a5⟩
  ·have:(-1:Int)=i:=hk.symm.trans hi';omega
 case hy1=>
  rintro p W rr k b ⟨hp,f,hA,a1,a2,a3,a4,a5⟩ hr hk hb hsz;obtain⟨eP,eM⟩:=z2j a1 hr;rw[<-eP] at hk;rw[<-eM] at hb;obtain⟨hpk,hkn,hPk,hz⟩:p<=k/\k<64*n/\r.P k=true/\∀ j,p<=j->j<k->r.P j=false:=by
   rcases Q1 r.P (64*n) p with ⟨e1,_⟩ | ⟨i,e1,e2,e3,e4,e5⟩
   ·have:(-1:Int)=k:=e1.symm.trans hk;omega
   ·have:i=k:=by have:(i:Int)=k:=e1.symm.trans hk;omega
    subst this;exact⟨e3 hp,e2,e4,e5⟩
  rw[hs1] at hsz ⊢;have hb':r.M (k:Int)=some b:=hb;have hRo:=HRo.out k b hPk hb';have hfk:=hA.above k hpk hPk;have hgap:=j7d hfk (hA.gap hz);have hroom:=x0b (x0c hPk hb');have hA':=hA.step HRo.out hpk hz hPk hb';obtain⟨b1,b2,b3,b4⟩:=b;have A:=Z0 (And.intro a1 (And.intro a2 (And.intro a3 (And.intro a4 (And.intro a5 (And.intro hA' (And.intro hgap hroom)))))));have HK:=Z0 (And.intro hpk (And.intro hkn (And.intro hfk hsz)));have HRk:=Z0 hRo;clear a1 a2 a3 a4 a5 hA hr hk hb eP eM hz hPk hb' hRo hgap hroom hA' hp hpk hkn hfk hsz;unfold q6a;dsimp only at A HRk ⊢;have hlt:=HK.out.2.2.2;obtain⟨WA,hWA⟩:∃ WA,W.alloc (bo (k:Int) b1 b2 b3 b4)=WA:=⟨_,rfl⟩
  have HBA:Hid (WA.heap[W.heap.size]? = some (bo (k:Int) b1 b2 b3 b4)):=by rw[<-hWA];exact heap_alloc_new _ _
  have HOA:Hid (Out 0 0 W WA):=by rw[<-hWA];exact(Out.refl 0 0 W).alloc _
  obtain⟨G,hG⟩:∃ G,W.heap.size=G:=⟨_,rfl⟩
  rw[hG] at HK hlt HBA;unfold bo at hWA HBA;gi_wp2;(try rw[hWA]);refine⟨HOA.out.any _ _,?_⟩;(try rw[hG]);clear hWA hG;intro W2 o2;have hoA:=HOA.out.any 0 (w.heap.size+3);have hr2:=(A.out.1.quiet HOA.out).kept o2 (.inl (by have:=HT.out;omega)) (.inl (by have:=HT.out;omega));have HY2:=Z0 ((A.out.2.1.kept HOA.out z0).kept o2 (.inl (by omega)));have HX2:=Z0 ((A.out.2.2.1.kept HOA.out z0).kept o2 (.inl (by omega)));have HZ2:=Z0 ((A.out.2.2.2.1.kept HOA.out z0).kept o2 (.inl (by omega)));have HB2:=Z0 (o2.heap HBA.out (.inr (by omega)));have HO2:=Z0 (Z9 (Z9 A.out.2.2.2.2.1 HOA.out (.inr rfl)) o2 (.inl (by omega)));obtain⟨o,cp,hsl,hol⟩:=z7k (s 11) (64*n) cap f k (by have:=HK.out;omega) (by have:=HK.out;have:=HT.out;omega);have HR2:=Z0 (hr2.quiet ((Out.refl 0 0 _).drew));obtain⟨w4,hcl,hr4,ho4⟩:=HR2.out.clear (a:=f) (k:=k-f) (o:=o) (cp:=cp) (by have:=HK.out;omega) hol;have HR4:Hid (RawAt w4 lo hi s n cap { r with W:=wpW r (k+J3 b2) }):=hr4.congr (by rw[<-A.out.2.2.2.2.2.2.2,<-A.out.2.2.2.2.2.2.1]);have HO4:=Z0 ho4;have c0:=HY2.out.cell;have c1:=hr2.cells.1;have c2:=HX2.out.cell;obtain⟨q0,_,q2,_,_⟩:=V7 HB2.out;have f0:(0:Int)<=(f:Int):=by omega
  have f1:(f:Int)<=(k:Int):=by have:=HK.out;omega
  have f2:(k:Int)<=(cap:Int):=by have:=HK.out;have:=HT.out;omega
  have HRoom:=Z0 (fun w'=>q5t b2 HRk.out.1 HRk.out.2.1 w');have HWR:Hid (IntKind.i64.wrap ((k:Int)+((J3 b2:Nat):Int))=((k+J3 b2:Nat):Int)):=by show _=_;simp[IntKind.wrap,IntKind.signed,IntKind.bits];have:=HRk.out;have:=HT.out;omega
  clear hr2 hr4 ho4 hlt hol hoA;gi_wp2_with fail;refine z0p (S:=fun w'=>w'.cell? ⟨w.heap.size,0,none⟩=some (.pointer (some ⟨s 14,0,none⟩))/\w'.cell? ⟨s 14,0,none⟩=some (.slice (some ⟨s 11,0,none⟩) (64*n) cap)/\w'.cell? ⟨w.heap.size+1,0,none⟩=some (.int .i64 (f:Int))/\w'.cell? ⟨G,0,none⟩=some (.int .i64 (k:Int))) (by kernel_rfl) (by kernel_rfl) ?hS9 (fun hHeld=>?rest9)
  case hS9=>exact⟨c0,c1,c2,q0⟩
  refine tk 0 ?_;refine tk 1 ?_;refine tk 2 ?_;refine tk 3 ?_;refine tk 4 ?_;refine tk 5 ?_;refine tk 6 ?_;refine tk 7 ?_;refine rd1 8 fun KK hK=>?_
  simp only[xa,xb,xc];go_simp;refine hK.out _ _ ?hS18 (fun hHeld2=>?rest18)
  case hS18=>exact⟨HO4.out.cell hHeld.1 (by have:=HT.out;have:=HK.out;omega),HO4.out.cell hHeld.2.1 (by have:=HT.out;have:=HK.out;omega),HO4.out.cell hHeld.2.2.1 (by have:=HT.out;have:=HK.out;omega),HO4.out.cell hHeld.2.2.2 (by have:=HT.out;have:=HK.out;omega)⟩
  clear hK KK;replace hHeld:=hHeld2;clear hHeld2;refine dn ?_;clear hHeld;simp only[q2k,z8r];have hdr:Out (s 11) (s 11+1) W2 w4:=(((Out.refl 0 0 W2).drew).any _ _).trans HO4.out;have HX4:=Z0 (HX2.out.kept hdr (.inr (by have:=HT.out;omega)));have HB4:=Z0 (hdr.heap HB2.out (.inr (by have:=HT.out;have:=HK.out;omega)));have HOD:=Z0 hdr;clear q0 q2 c0 c1 c2 hsl hcl hdr;obtain⟨q0,_,q2,_,_⟩:=V7 HB4.out;gi_wp2_with fail;refine z0p (S:=fun w'=>w'.cell? ⟨G,0,none⟩=some (.int .i64 (k:Int))/\w'.cell? ⟨G,2,none⟩=some (.int .i64 b2)) (by kernel_rfl) (by kernel_rfl) ?hS1 (fun hHeld=>?rest1)
  case hS1=>exact⟨q0,q2⟩
  refine tk 0 ?_;refine tk 1 ?_;refine tk 2 ?_;refine tk 3 ?_;refine rd1 4 fun KK hK=>?_
  simp only[xa,xb,xc];go_simp;refine(HRoom.out _).mono ?_;rintro e w5 ⟨rfl,hoo⟩;have hx5:=HX4.out.kept (((Out.refl 0 0 _).drew).trans hoo) z0;have e0:=hx5.cell;have e1:=hx5.frozen;have HX5:=Z0 hx5;have HOO:=Z0 hoo;clear hx5;refine hK.out _ _ ?hS6 (fun hHeld2=>?rest6)
  case hS6=>exact⟨hoo.cell hHeld.1 z0,hoo.cell hHeld.2 z0⟩
  clear hK KK;replace hHeld:=hHeld2;clear hHeld2;refine tk 5 ?_;refine rd1 6 fun KK hK=>?_
  simp only[xa,xb,xc];go_simp;refine hK.out _ _ ?hS8 (fun hHeld2=>?rest8)
  case hS8=>exact⟨((Out.refl (w.heap.size+1) (w.heap.size+2) w5).setCell z1 _).cell hHeld.1 (by have:=HT.out;have:=HK.out;omega),((Out.refl (w.heap.size+1) (w.heap.size+2) w5).setCell z1 _).cell hHeld.2 (by have:=HT.out;have:=HK.out;omega)⟩
  clear hK KK;replace hHeld:=hHeld2;clear hHeld2;refine dn ?_;clear hHeld;simp only[q2k,z8r];gi_wp2;have hset:=(Out.refl (w.heap.size+1) (w.heap.size+2) w5).setCell (p:=⟨w.heap.size+1,0,none⟩) z1 (.int .i64 (IntKind.i64.wrap ((k:Int)+((J3 b2:Nat):Int))));have hq5:Out 0 0 w4 w5:=((Out.refl 0 0 w4).drew).trans HOO.out;have hbx:=HX5.out.set (.int .i64 (IntKind.i64.wrap ((k:Int)+((J3 b2:Nat):Int))));rw[HWR.out] at hbx hset;(try rw[HWR.out]);have hT:=HT.out;have hK:=HK.out;exact⟨((HOD.out.wide (Nat.zero_le _) (by omega)).trans (hq5.any _ _)).trans (hset.wide (Nat.zero_le _) (by omega)),by omega,k+J3 b2,A.out.2.2.2.2.2.1,(HR4.out.quiet hq5).kept hset (.inl (by omega)) (.inl (by omega)),((HY2.out.kept HOD.out (by omega)).kept hq5 z0).kept hset (by omega),hbx,((HZ2.out.kept HOD.out (by omega)).kept hq5 z0).kept hset (by omega),Z9 (Z9 (HO2.out.trans ((((Out.refl 0 0 W2).drew).any lo hi).trans (HR2.out.wide (i:=11) (by omega) HO4.out))) hq5 (.inr rfl)) hset (.inl (by omega))⟩
 case hdone1=>
  rintro W ⟨f,hf,hw,a1,a2,a3,a5⟩ hd;rw[hs1] at hd;have HD:=Z0 hd;have HW:=Z0 hw;have HR2:=Z0 (a1.quiet ((Out.refl 0 0 _).drew));have HO2:=Z0 a5;have HF:=Z0 hf;obtain⟨o,cp,hsl,hol⟩:=q7p (s 11) (64*n) cap f hf;obtain⟨w4,hcl,hr4,ho4⟩:=HR2.out.clear (a:=f) (k:=64*n-f) (o:=o) (cp:=cp) (by omega) (fun h=>(hol h).resolve_left (by have:=HT.out;omega));have HR4:Hid (RawAt w4 lo hi s n cap { r with W:=wpW r (64*n) }):=hr4.congr (by rw[<-HW.out]);have HO4:=Z0 ho4;have c0:=a2.cell;have c1:=a1.cells.1;have c2:=a3.cell;have f0:(0:Int)<=(f:Int):=by omega
  have f1:(f:Int)<=((64*n:Nat):Int):=by omega
  have f2:(f:Int)<=64*(n:Int):=by omega
  rw[hs1];clear hr4 ho4 hol hd hw hf a1 a2 a3 a5;gi_wp2_with fail;refine q1l ?_;refine wp_region_held_drew (S:=fun w'=>w'.cell? ⟨w.heap.size,0,none⟩=some (.pointer (some ⟨s 14,0,none⟩))/\w'.cell? ⟨s 14,0,none⟩=some (.slice (some ⟨s 11,0,none⟩) (64*n) cap)/\w'.cell? ⟨w.heap.size+1,0,none⟩=some (.int .i64 (f:Int))) (by kernel_rfl) ?hS19 (fun hHeld=>?rest19)
  case hS19=>exact⟨c0,c1,c2⟩
  refine tk 0 ?_;refine tk 1 ?_;refine tk 2 ?_;refine tk 3 ?_;refine tk 4 ?_;refine tk 5 ?_;refine rd1 6 fun KK hK=>?_
  simp only[xa,xb,xc];go_simp;refine hK.out _ _ ?hS26 (fun hHeld2=>?rest26)
  case hS26=>exact⟨HO4.out.cell hHeld.1 (by have:=HT.out;omega),HO4.out.cell hHeld.2.1 (by have:=HT.out;omega),HO4.out.cell hHeld.2.2 (by have:=HT.out;omega)⟩
  clear hK KK;replace hHeld:=hHeld2;clear hHeld2;refine dn ?_;clear hHeld;simp only[z8r];gi_wp2;have hT:=HT.out;have hdr:Out (s 11) (s 11+1) W w4:=(((Out.refl 0 0 W).drew).any _ _).trans HO4.out;refine⟨by simp,.inl ⟨_,_,rfl,run_takeDeferred (hdr.heap HD.out (.inr (by omega))),?_⟩⟩;exact⟨_,results_none rfl _ _ _,⟨_,rfl⟩,HR4.out.kept (Q2 _ _ _) (by omega) (by omega),Z9 (HO2.out.trans ((((Out.refl 0 0 W).drew).any lo hi).trans (HR2.out.wide (i:=11) (by omega) HO4.out))) (Q2 _ _ _) (by omega)⟩
end Go.Proofs.YtjbbkeoolodeaabGreatDoor
namespace Go.Proofs.YtjbbkeoolodeaabGreatDoor
open Go.RowKit
set_option linter.unusedVariables false
set_option maxRecDepth 100000
set_option maxHeartbeats 16000000
set_option linter.unusedSimpArgs false
def rsF (r:Raw) (i:Nat):Raw:={ r with F:=fun d=>if d<i then (fun _=>false) else r.F d }
def z8a (n:Nat) (S0:Nat->Int × Int × Int) (q:Raw) (i:Nat):Raw:=
 if (S0 i).1=1 then if z6o q.P (64*i) (64*i+64) == 0 then { q with S:=gvS q.S n (i:Int) } else { q with F:=fun d=>if d=(S0 i).2.1.toNat then fuR q (S0 i).2.1.toNat i else q.F d } else q
def dlR (n:Nat) (S0:Nat->Int × Int × Int) (q:Raw):Nat->Raw
 | 0=>q
 | i+1=>z8a n S0 (dlR n S0 q i) i
def lnR (n:Nat) (q:Raw):Nat->Raw
 | 0=>q
 | c+1=>{ lnR n q c with W:=z7b n (lnR n q c) c }
def j7m (n:Nat) (r:Raw):Raw:=lnR n (dlR n r.S (rsF r 8) n) 8
theorem j8i (r:Raw):r=rsF r 0:=by
 unfold rsF;refine Raw.eq rfl rfl ?_ rfl rfl rfl rfl;funext d
 show r.F d=if d<0 then (fun _=>false) else r.F d
 rw[if_neg (by omega)]
theorem j7l (r:Raw) (c:Nat):{ rsF r c with F:=fun d=>if d=c then (fun _=>false) else (rsF r c).F d }=rsF r (c+1):=by
 unfold rsF;refine Raw.eq rfl rfl ?_ rfl rfl rfl rfl;funext d
 show (if d=c then (fun _=>false) else if d<c then (fun _=>false) else r.F d)=if d<c+1 then (fun _=>false) else r.F d
 by_cases e:d=c
 ·rw[if_pos e,if_pos (by omega)]
 ·rw[if_neg e];by_cases e2:d<c
  ·rw[if_pos e2,if_pos (by omega)]
  ·rw[if_neg e2,if_neg (by omega)]
section
variable {w:World} {lo hi n cap:Nat} {s:Nat->Nat} {r:Raw}
theorem j2x (h:RawAt w lo hi s n cap r) :
  Calls Tryz.prog 118 #[.pointer (some ⟨s 14,0,none⟩)] w fun e w'=>(∃ v,e=.returned v)/\RawAt w' lo hi s n cap (j7m n r)/\Out lo hi w w':=by
 have HR:=Z0 h;have HT:Hid (hi<=w.heap.size/\n<=4096/\1<=n):=⟨h.top,h.n2,h.n1⟩
 have HG:=Z0 h.tbl.good;clear h;go_enter Tryz.func118,Tryz.ntmps118
 go_wp2_with fail;go_loopw [6] (fun u wr=>∃ i:Nat,u=.int .i64 (i:Int)/\i<=8/\RawAt wr lo hi s n cap (rsF r i)/\Out lo hi w wr) (fun u _=>((8:Int)-intOf u).toNat)
 case atStart=>exact⟨0,rfl,Nat.zero_le _,HR.out.congr (j8i r),Out.refl _ _ _⟩
 case round=>
  obtain⟨i,rfl,i1,i2,i3⟩:=hrel;have HR1:=Z0 i2;have HO1:=Z0 i3;have j0:(0:Int)<=(i:Int):=by omega
  by_cases hlt:(i:Int)<8
  ·have HC:Hid (i<8):=by show _<_;omega
   have dF:=i2.cellF HC.out;clear i2 i3;go_wp2_with (go_at_call 147;refine(j2d (HR1.out.free i HC.out)).mono ?_;rintro e w4 ⟨rfl,hm,ho⟩);have HR5:=HR1.out.setF HC.out ho hm;have HO5:=HO1.out.trans (HR1.out.wide (i:=i) (by have:=HC.out;omega) (by unfold ln;rw[if_pos (by have:=HC.out;omega)];exact ho));refine⟨⟨i+1,by congr 1,by omega,HR5.congr (j7l r i),HO5⟩,by simp[intOf];omega⟩
  ·have e:i=8:=by omega
   subst e;obtain⟨d0,d1,d2,d3,d4,d5⟩:=i2.cells;clear i2 i3;go_wp2_with (go_at_call 89;refine(q4o HR1.out.tbl).mono ?_;rintro e w2 ⟨g,cap',rfl,hl,ho⟩);obtain⟨hr,hb,_⟩:=hl.row;have HP2:Hid (PRow w2 g n r.S):=hr;have HGg:Hid (hi<=g):=by show _<=_;have:=HT.out;have:=HO1.out.size;omega
   have HR2:=Z0 (HR1.out.quiet ho);have HO2:=Z0 (HO1.out.trans (ho.any lo hi));clear hl ho hr hb HR1 HO1 d0 d1 d2 d3 d4 d5;go_loopw [23] (fun u wr=>∃ i:Nat,u=.int .i64 (i:Int)/\i<=n/\RawAt wr lo hi s n cap (dlR n r.S (rsF r 8) i)/\PRow wr g n r.S/\Out lo hi w wr) (fun u _=>((n:Int)-intOf u).toNat)
   case atStart=>exact⟨0,rfl,Nat.zero_le _,HR2.out,HP2.out,HO2.out⟩
   case round=>
    clear HR2 HP2 HO2;obtain⟨i,rfl,i1,i2,i4,i3⟩:=hrel;have j0:(0:Int)<=(i:Int):=by omega
    have j2:(n:Int)<=4096:=by have:=HT.out;omega
    by_cases hlt:(i:Int)<(n:Int)
    ·obtain⟨q,hq⟩:∃ q,dlR n r.S (rsF r 8) i=q:=⟨_,rfl⟩
     rw[hq] at i2;have hst:dlR n r.S (rsF r 8) (i+1)=z8a n r.S q i:=by show z8a n r.S (dlR n r.S (rsF r 8) i) i=_;rw[hq]
     obtain⟨x,y,z,hp⟩:=z1c (r.S i);obtain⟨q0,q1,q2⟩:=i4.page (by omega) hp;have hoA:Out 0 0 wr (wr.alloc (.cells #[.int .i64 x,.int .i64 y,.int .i64 z] 147)):=(Out.refl 0 0 _).alloc _;have HBA:Hid ((wr.alloc (.cells #[.int .i64 x,.int .i64 y,.int .i64 z] 147)).heap[wr.heap.size]? = some (.cells #[.int .i64 x,.int .i64 y,.int .i64 z] 147 (0,0))):=heap_alloc_new _ _;have HRA:=Z0 (i2.quiet hoA);have HPA:=Z0 (i4.kept hoA z0);have HOA:=Z0 (i3.trans (hoA.any lo hi));by_cases hx:x=1
     ·subst hx;obtain⟨c,hc,rfl⟩:∃ c:Nat,c<8/\y=c:=by
       rcases HG.out.cases (i:=i) (by omega) with e | ⟨c,c1,c2,e⟩ | ⟨k,_,_,_,e⟩ | e
       ·rw[hp] at e;cases e
       ·rw[hp] at e;simp at e;exact⟨c.toNat,by omega,by omega⟩
       ·rw[hp] at e;cases e
       ·rw[hp] at e;cases e
      have HC:=Z0 hc;have hpn:i<n:=by omega
      have HPn:=Z0 hpn;have HE:=Z0 (j1k HRA.out hpn);unfold z8a at hst;rw[hp,if_pos rfl] at hst;cases hb:(z6o q.P (64*i) (64*i+64) == 0) with
      | true=>
       rw[hb] at HE hst;rw[if_pos rfl] at hst;have HST:=Z0 hst;clear i2 i3 i4 hoA hst hq hp hb;go_wp2_with (first
        | (go_at_call 148;refine HE.out.mono ?_;rintro e w3 ⟨rfl,ho⟩;have HR3:=Z0 (HRA.out.quiet ho);have HP3:=Z0 (HPA.out.kept ho z0);have HO3:=Z0 (HOA.out.trans (ho.any lo hi));obtain⟨d0,d1,d2,d3,d4,d5⟩:=HR3.out.cells;clear ho)
        | (go_at_call 146;refine(q6h HR3.out.tbl HR3.out.tab (i:Int)).mono ?_;rintro e w4 ⟨rfl,hmt,hot⟩))
       have hin:=HR3.out.inn 10 (by omega);simp[ln] at hin;refine⟨⟨i+1,by congr 1,by omega,(HR3.out.setT hot hmt).congr HST.out.symm,HP3.out.kept hot (.inr (by have:=HGg.out;omega)),HO3.out.trans (HR3.out.wide (i:=10) (by omega) hot)⟩,by simp[intOf];omega⟩
      | false=>
       rw[hb] at HE hst;rw[if_neg (by simp)] at hst;have HST:=Z0 hst;have HF:=Z0 (fun w3 (h3:RawAt w3 lo hi s n cap q)=>z9d h3 hc hpn);clear i2 i3 i4 hoA hst hq hp hb;go_wp2_with (first
        | (go_at_call 148;refine HE.out.mono ?_;rintro e w3 ⟨rfl,ho⟩;have HR3:=Z0 (HRA.out.quiet ho);have HP3:=Z0 (HPA.out.kept ho z0);have HO3:=Z0 (HOA.out.trans (ho.any lo hi));obtain⟨x0,x1,x2⟩:=box3 (ho.heap HBA.out z0);clear ho)
        | (go_at_call 149;refine(HF.out _ HR3.out).mono ?_;rintro e w4 ⟨⟨v,rfl⟩,hr4,ho4⟩))
       refine⟨⟨i+1,by congr 1,by omega,hr4.congr HST.out.symm,HP3.out.kept ho4 (.inr HGg.out),HO3.out.trans ho4⟩,by simp[intOf];omega⟩
     ·have hst2:dlR n r.S (rsF r 8) (i+1)=q:=by rw[hst];unfold z8a;rw[hp,if_neg hx]
      have HST:=Z0 hst2;clear i2 i3 i4 hoA hst hst2 hq hp;go_wp2;refine⟨⟨i+1,by congr 1,by omega,HRA.out.congr HST.out.symm,HPA.out,HOA.out⟩,by simp[intOf];omega⟩
    ·have e:i=n:=by omega
     subst e;have HR3:=Z0 i2;have HO3:=Z0 i3;clear i2 i3 i4;have hge:(i:Int)<=(i:Int):=Int.le_refl _;go_wp2_with fail;go_loopw [46] (fun u wr=>∃ c:Nat,u=.int .i64 (c:Int)/\c<=8/\RawAt wr lo hi s i cap (lnR i (dlR i r.S (rsF r 8) i) c)/\Out lo hi w wr) (fun u _=>((8:Int)-intOf u).toNat)
     case atStart=>exact⟨0,rfl,Nat.zero_le _,HR3.out,HO3.out⟩
     case round=>
      clear HR3 HO3;obtain⟨c,rfl,c1,c2,c3⟩:=hrel;have k0:(0:Int)<=(c:Int):=by omega
      have HR4:=Z0 c2;have HO4:=Z0 c3;by_cases hl8:(c:Int)<8
      ·have HC:Hid (c<8):=by show _<_;omega
       clear c2 c3;go_wp2_with (go_at_call 150;refine(z9e HR4.out HC.out).mono ?_;rintro e w5 ⟨⟨v,rfl⟩,hr5,ho5⟩);refine⟨⟨c+1,by congr 1,by omega,hr5,HO4.out.trans ho5⟩,by simp[intOf];omega⟩
      ·have e:c=8:=by omega
       subst e;clear c2 c3;go_wp2;exact bodyPost_end (results_none Tryz.results118 _ _ _) rfl ⟨⟨_,rfl⟩,HR4.out,HO4.out⟩
end
end Go.Proofs.YtjbbkeoolodeaabGreatDoor
