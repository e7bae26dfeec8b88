import Derived.Test.YtjgnogflgoihfaaGreatDoorP08
set_option linter.unusedSimpArgs false
set_option linter.unusedVariables false
set_option maxHeartbeats 16000000
set_option maxRecDepth 100000
namespace Go.Proofs.YtjgnogflgoihfaaGreatDoor
open Go.RowKit
theorem Y5 {lo hi x y:Nat} {a b c:World} (h:Out lo hi a b) (g:Out x y b c) (hx:a.heap.size<=x\/y=0):Out lo hi a c:=by
 rcases hx with hx | hx
 ·exact h.past g hx
 ·subst hx;exact h.trans ⟨g.1,g.2.1,g.2.2.1,g.size,fun k h1 _=>g.block h1 (by omega)⟩
def q7k (Q:Exit->Act->World->Prop):Exit->Act->World->Prop
 | .outgrown,_,_=>False
 | e,a,w=>Q e a w
def z6p (ops:Array Oper):Bool:=ops.toList.all fun o=>match o.op with | .defer _=>false | _=>true
theorem j1s {ops:Array Oper} (h:z6p ops=true) {i:Nat} {o:Oper} (ho:ops[i]? = some o):∀ c,o.op ≠ .defer c:=by
 intro c e;unfold z6p at h;rw[List.all_eq_true] at h;have:=h o (List.mem_of_getElem? (by simpa using ho));rw[e] at this;cases this
theorem j6x {n:Nat} {P:Program} {row:String} {args:Array Value} {w:World} {R:Value->World->Prop} (h:Rows P row args w R):RowsIn Fence.wide n P row args w R:=
 fun c cs _=>by
  obtain⟨v,w',hr,hs⟩:=h c cs;exact⟨v,w',hr,stepsIn_wide.2 hs⟩
section
variable {P:Program} {ops:Array Oper} {Q:Exit->Act->World->Prop} {md:Region.Mode} {l:Nat}
theorem q5s {i:Nat} {K K':Act->World->Prop} {a:Act} {w:World} (hd:z6p ops=true) (hk:∀ a w,K a w->K' a w) (h:wpOp P ops (q7k Q) i K a w):wpOpIn (Fence.wide.inRound l) 0 P ops Q i K' a w:=by
 unfold wpOp at h;unfold wpOpIn;cases ho:ops[i]? with
 | none=>rw[ho] at h;exact hk _ _ h
 | some o=>
  rw[ho] at h;simp only at h ⊢;by_cases hw:Region.wanted o (yielded ops a.tmps)=true
  ·rw[if_pos hw] at h ⊢;rcases h with h | ⟨_,hl⟩
   case inr=>
    obtain⟨_,_,hf⟩:=hl;exact hf.elim
   refine⟨fun _ _=>trivial,?_⟩;rw[Oper.semAt_eq _ _ _ (j1s hd ho)];unfold Oper.wp at h;generalize (execOp a.eval o).run P w=r at *
   cases r with
   | ok x w'=>
    cases x <;> simp only[Oper.upon,Oper.uponIn] at h ⊢
    case value u=>exact hk _ _ h
    case skip=>exact hk _ _ h
    case defer d=>exact hk _ _ h
    case enter f args=>
     refine⟨fun hh=>by simp[Fence.wide] at hh,callsIn_wide.2 (h.mono ?_)⟩;intro e w'' he;cases e with
     | returned u=>exact hk _ _ he
     | panicked c=>exact he
     | outgrown=>
      obtain⟨_,_,hf⟩:=he;exact hf.elim
    case row row args=>
     refine⟨fun hh=>by simp[Fence.wide] at hh,j6x (h.mono ?_)⟩;intro u w'' he;exact hk _ _ he
   | halt x w'=>
    cases x <;> simp only[Oper.upon,Oper.uponIn] at h ⊢
    case panic u=>exact h
  ·rw[if_neg hw] at h ⊢;exact⟨fun _ _=>trivial,hk _ _ h⟩
theorem z6d (hd:z6p ops=true):∀ (fuel:Nat) (aL:Array Bool) (a:Act) (w:World),wpAny P md ops (q7k Q) fuel aL a w->wpAnyIn (Fence.wide.inRound l) 0 P md ops Q fuel aL a w
 | 0,_,_,_,h=>h
 | fuel+1,_,_,_,h=>⟨h.1,fun i hi=>q5s hd (fun a' w' h'=>z6d hd fuel _ a' w' h') (h.2 i hi)⟩
theorem q4r {id:Nat} {S:World->Prop} {a:Act} {w:World} (hm:P.follows .mixedOrders=true) (hd:z6p ops=true) (hS:S w.drew)
  (h:S w.drew->wpAnyH P .any ops (q7k Q) S ops.size (Array.replicate ops.size false) a w.drew):(Code.region id ops true).wpIn (Fence.wide.inRound l) 0 P Q a w:=
 wpIn_region_any hm (z6d hd _ _ _ _ (wpAny_of_held _ _ _ _ (h hS)))
end
def q2f (K:Act->World->Prop):Exit->Act->World->Prop
 | .normal,a,w=>K a w
 | _,_,_=>False
theorem q4j {Q:Exit->Act->World->Prop}:∀ (e:Exit) (a:Act) (w:World),q2f (Q .normal) e a w->Q e a w
 | .normal,_,_,h=>h
 | .ret,_,_,h=>h.elim
 | .exit _,_,_,h=>h.elim
 | .goto _,_,_,h=>h.elim
 | .panic _,_,_,h=>h.elim
 | .outgrown,_,_,h=>h.elim
theorem q5r {P:Program} {c:Code} {Q:Exit->Act->World->Prop} {a:Act} {w:World} (h:c.wp P (q2f (Q .normal)) a w):c.wpIn Fence.wide 0 P Q a w:=
 wpIn_mono (wpIn_wide.2 h) q4j
theorem z3m {P:Program} {ops:Array Oper} {Q:Exit->Act->World->Prop} {l id:Nat} {S:World->Prop} {a:Act} {w:World} (hm:P.follows .mixedOrders=true) (hd:z6p ops=true) (hS:S w.drew)
  (h:S w.drew->wpAnyH P .any ops (q7k (q2f (Q .normal))) S ops.size (Array.replicate ops.size false) a w.drew):(Code.region id ops true).wpIn (Fence.wide.inRound l) 0 P Q a w:=
 wpIn_mono (q4r hm hd hS h) q4j
end Go.Proofs.YtjgnogflgoihfaaGreatDoor
namespace Go.Proofs.YtjgnogflgoihfaaGreatDoor
open Go.RowKit
attribute [local go_sem] Oper.semAt_some
theorem MapAt.only {w:World} {lo hi b n lo' bQ:Nat} {S S':Nat->Bool} (h:MapAt w lo hi b n S) (h':MapAt w lo' bQ b n S'):S=S':=by
 obtain⟨bw,cap,hb,h1,h2,h3,h4,h5,h6,h7,h8,l1,l2,l3,hr⟩:=h;obtain⟨bw',cT,jK,k1,k2,k3,k4,k5,k6,k7,k8,m1,m2,m3,hr'⟩:=h';rw[hb] at jK;have e:bw=bw':=by simp at jK;exact jK.1
 subst e;funext j
 by_cases hj:j<n
 ·have a:=hr.cell (z6q hj);have b:=hr'.cell (z6q hj);rw[a] at b;simp at b;have e1:=z2a S (j / 64) (j % 64);have e2:=z2a S' (j / 64) (j % 64);rw[show pk S (j / 64)=pk S' (j / 64) from by omega,e2,show 64*(j / 64)+j % 64=j from by omega,show decide (j % 64<64)=true from by simp;omega] at e1;simpa using e1.symm
 ·rw[h7 j (by omega),k7 j (by omega)]
theorem j5g (b:Nat) (c:Int) (w:World) :
  Kz 211 #[Pq b,Iz c] w fun e w'=>e=.returned (.func (.func 219) #[] #[Pq w.heap.size,.pointer (some ⟨w.heap.size+1,0,none⟩)]) ∧
   w'=(w.alloc (.cells #[Pq b] 76)).alloc (.cells #[Iz c] 3):=by
 go_enter Tryz.func211,Tryz.ntmps211
 go_wp2;go_ret;exact⟨rfl,rfl⟩
def Pend (S:Nat->Bool) (I:Nat->World->Prop) (p:Nat) (v:Int) (W:World):Prop:=
 (v = -1/\(∀ j,j<p->S j=false)/\I 0 W)\/∃ a:Nat,v=a/\a<p/\S a=true/\(∀ j,a<j->j<p->S j=false)/\I a W
theorem Pend.some {S:Nat->Bool} {I:Nat->World->Prop} {p:Nat} {v:Int} {W:World} (h:Pend S I p v W):∃ q,I q W:=by
 rcases h with ⟨_,_,h⟩ | ⟨a,_,_,_,_,h⟩
 ·exact⟨_,h⟩
 ·exact⟨_,h⟩
theorem Pend.map {S:Nat->Bool} {I:Nat->World->Prop} {p:Nat} {v:Int} {W W':World} (h:Pend S I p v W) (f:∀ q,I q W->I q W'):Pend S I p v W':=by
 rcases h with ⟨a,b,h⟩ | ⟨a,x1,x2,x3,x4,h⟩
 ·exact .inl ⟨a,b,f _ h⟩
 ·exact .inr ⟨a,x1,x2,x3,x4,f _ h⟩
theorem Pend.to_end {S:Nat->Bool} {I:Nat->World->Prop} {p N:Nat} {v:Int} {W:World} (h:Pend S I p v W) (hp:p<=N) (hz:∀ j,p<=j->j<N->S j=false):Pend S I N v W:=by
 rcases h with ⟨a,b,h⟩ | ⟨a,x1,x2,x3,x4,h⟩
 ·exact .inl ⟨a,(fun j hj=>by by_cases e:j<p;exact b j e;exact hz j (by omega) hj),h⟩
 ·exact .inr ⟨a,x1,by omega,x3,(fun j j1 j2=>by by_cases e:j<p;exact x4 j j1 e;exact hz j (by omega) j2),h⟩
theorem x6x {S:Nat->Bool} {N a k:Nat} (hk:k<N) (ha:a<=k) (hS:S k=true) (hz:∀ j,a<=j->j<k->S j=false):nxr S N a=(k:Int):=by
 have:=x0c S N a k ha (by omega) hz (fun _=>hS);unfold nxr;rw[this,if_pos hk]
theorem q7g {lo hi n cap g gc l c:Nat} {s:Nat->Nat} {S:Nat->Bool} (hc:c<8) (I:Nat->World->Prop) (J Jx:World->Prop) {w:World}
  (hm:∀ p w,I p w->∃ r,RawAt w lo hi s n cap r/\r.F c=S/\Box w g 76 (.pointer (some ⟨s 14,0,none⟩))/\Box w gc 3 (.int .i64 (c:Int)))
  (hq:∀ p w1 w2 x y,I p w1->Out x y w1 w2->(w.heap.size<=x\/y=0)->I p w2)
  (hs:∀ p q w1,I p w1->p<=q->(∀ j,p<=j->j<q->S j=false)->I q w1)
  (hqJ:∀ w1 w2 x y,J w1->Out x y w1 w2->w.heap.size<=x->J w2) (hqX:∀ w1 w2 x y,Jx w1->Out x y w1 w2->w.heap.size<=x->Jx w2)
  (hy:∀ (a:Nat) w1,I a w1->S a=true->a<64*n->YieldAt Fence.wide 0 Tryz.prog l #[.int .i64 (a:Int),.int .i64 (nxr S (64*n) (a+1))] w1 fun e w'=>Out 0 w.heap.size w1 w'/\((e=.returned (.bool true)/\I (a+1) w')\/(e=.returned (.bool false)/\Jx w')))
  (he:∀ p w1,I p w1->(∀ j,p<=j->j<64*n->S j=false)->J w1) (h0:I 0 w) :
  Calls Tryz.prog 219 #[.func (.yield l) #[] #[],.pointer (some ⟨g,0,none⟩),.pointer (some ⟨gc,0,none⟩)] w fun e w'=>(∃ v,e=.returned v)/\(J w'\/Jx w'):=by
 obtain⟨r0,jQ,_,gV,mU⟩:=hm 0 w h0;have jM:Out 0 0 w ((w.alloc (.cells #[.func (.yield l) #[] #[]] 90)).alloc (.cells #[.int .i64 (-1)] 3)):=((Out.refl 0 0 w).alloc _).alloc _;have iR:=jQ.quiet jM;have c0:=(gV.kept jM z0).cell;have c1:=(mU.kept jM z0).cell;have cF:=iR.cellF hc;have HM:=Q3 hm;have HQ:=Q3 hq;have HS:=Q3 hs;have HQJ:=Q3 hqJ;have HQX:=Q3 hqX;have HY:=Q3 hy;have HE:=Q3 he;have HI:=Q3 h0;have HG:Hid (g<w.heap.size/\gc<w.heap.size):=⟨gV.lt,mU.lt⟩
 have HT:Hid (hi<=w.heap.size/\4<=w.heap.size):=⟨jQ.top,jQ.tab.lt⟩
 have HC:=Q3 hc;have k0:(0:Int)<=(c:Int):=by omega
 have k1:(c:Int)<8:=by omega
 clear hm hq hs hy he h0 gV mU jQ iR hqJ hqX jM hc;refine(callsIn_wide (n:=0)).1 ?_;refine callsIn_of_wp_marks Tryz.func219 rfl trivial ?_ rfl;simp only[Tryz.ntmps219,List.size_toArray,List.length_cons,List.length_nil,Nat.reduceAdd,Nat.reduceSub,Array.replicate_succ,Array.replicate_zero,List.push_toArray,List.append_toArray,List.nil_append,List.cons_append];gi_wp2_with fail;refine q5r ?_;go_region_held3 (fun w'=>w'.cell? ⟨g,0,none⟩=some (.pointer (some ⟨s 14,0,none⟩))/\w'.cell? ⟨gc,0,none⟩=some (.int .i64 (c:Int))/\w'.cell? ⟨s 14,4+c,none⟩=some (.pointer (some ⟨s c+1,0,none⟩))) (go_keep)
  (first | (go_at_call 185;refine(q1j _ _).mono ?_;rintro e w1 ⟨rfl,rfl⟩))
 obtain⟨W1,cC⟩:∃ W1,(((w.alloc (.cells #[.func (.yield l) #[] #[]] 90)).alloc (.cells #[.int .i64 (-1)] 3)).alloc (.cells #[.pointer (some ⟨s c+1,0,none⟩)] 137)).drew=W1:=⟨_,rfl⟩
 have hs1:W1.heap.size=w.heap.size+3:=by rw[<-cC];simp
 have gJ:Out 0 0 w W1:=by rw[<-cC];exact((((Out.refl 0 0 w).alloc _).alloc _).alloc _).drew
 have hy1:Box W1 w.heap.size 90 (.func (.yield l) #[] #[]):=by rw[<-cC];exact Box.kept (w:=((w.alloc (.cells #[.func (.yield l) #[] #[]] 90)).alloc (.cells #[.int .i64 (-1)] 3))) J0 (((Out.refl 0 0 _).alloc _).drew) z0
 have lS:Box W1 (w.heap.size+1) 3 (.int .i64 (-1)):=by rw[<-cC];exact Box.kept (w:=((w.alloc (.cells #[.func (.yield l) #[] #[]] 90)).alloc (.cells #[.int .i64 (-1)] 3))) (heap_alloc2_new _ _ _) (((Out.refl 0 0 _).alloc _).drew) z0
 have hz1:Box W1 (w.heap.size+1+1) 137 (.pointer (some ⟨s c+1,0,none⟩)):=by
  rw[<-cC];have:=heap_alloc_new ((w.alloc (.cells #[.func (.yield l) #[] #[]] 90)).alloc (.cells #[.int .i64 (-1)] 3)) (.cells #[.pointer (some ⟨s c+1,0,none⟩)] 137);rw[World.size_alloc,World.size_alloc] at this;exact this
 rw[cC];clear cC;have bM:=Q3 gJ;have HY1:=Q3 hy1;have HX1:=Q3 lS;have HZ1:=Q3 hz1;clear gJ hy1 lS hz1 c0 c1 cF;simp only[q2f];gi_wp2_with fail;refine z2w (gf:=205) (lb:=#[.pointer (some ⟨w.heap.size+1+1,0,none⟩)]) rfl (enters_of Tryz.func205 (by kernel_rfl) rfl)
  (fun W=>∃ v:Int,Box W (w.heap.size+1) 3 (.int .i64 v)/\Pend S I (64*n) v W/\Box W w.heap.size 90 (.func (.yield l) #[] #[])) (fun c W=>c=.ret/\Jx W) ?H ?done ?stop
 case H=>
  intro cX eN W2 jL;rw[hs1];have HR:=Q3 eN;have eH:Out 0 0 W1 W2:=by rw[jL];exact((Out.refl 0 0 W1).alloc _).alloc _
  have lD:W2.heap[w.heap.size+3]? = some (.deferred (some [])):=by rw[jL,<-hs1];exact J0
  have lX:W2.heap[w.heap.size+3+1]? = some (.loop (cX .ready none)):=by rw[jL,<-hs1];exact heap_alloc2_new _ _ _
  refine(z6f (lo:=s c) (hi:=s c+2) (b:=s c+1) (n:=64*n) (g:=w.heap.size+1+1) (l:=w.heap.size+3+1)
   (fun p W=>p<=64*n/\(∃ v:Int,Box W (w.heap.size+1) 3 (.int .i64 v)/\Pend S I p v W)/\Box W w.heap.size 90 (.func (.yield l) #[] #[])/\Box W (w.heap.size+1+1) 137 (.pointer (some ⟨s c+1,0,none⟩))/\W.heap[w.heap.size+3]? = some (.deferred (some []))/\W.heap[w.heap.size+3+1]? = some (.loop (cX .ready none)))
   (fun W=>(∃ v:Int,Box W (w.heap.size+1) 3 (.int .i64 v)/\Pend S I (64*n) v W/\Box W w.heap.size 90 (.func (.yield l) #[] #[]))/\W.heap[w.heap.size+3]? = some (.deferred (some []))/\W.heap[w.heap.size+3+1]? = some (.loop (cX .ready none)))
   (fun W=>Jx W/\W.heap[w.heap.size+3]? = some (.deferred (some []))/\W.heap[w.heap.size+3+1]? = some (.loop (cX .done (some .ret)))) ?hm1 ?hq1 ?hy1 ?he1 (w:=W2) ?hz1).mono ?_
  case hm1=>
   rintro p W ⟨a0,⟨v,a1,a2⟩,a3,a4,a5,a6⟩;obtain⟨q,hIq⟩:=a2.some;obtain⟨r,b1,b2,b3,b4⟩:=HM.out q W hIq;exact⟨a0,S,by rw[<-b2];exact b1.free c HC.out,a4⟩
  case hq1=>
   rintro p W W' ⟨a0,⟨v,a1,a2⟩,a3,a4,a5,a6⟩ o;exact⟨a0,⟨v,a1.kept o z0,a2.map (fun q h=>HQ.out q W W' 0 0 h o (.inr rfl))⟩,a3.kept o z0,a4.kept o z0,o.heap a5 z0,o.heap a6 z0⟩
  case hz1=>
   exact⟨Nat.zero_le _,⟨-1,HX1.out.kept eH z0,.inl ⟨rfl,(fun j hj=>by omega),HQ.out 0 W1 W2 0 0 (HQ.out 0 w W1 0 0 HI.out bM.out (.inr rfl)) eH (.inr rfl)⟩⟩,HY1.out.kept eH z0,HZ1.out.kept eH z0,lD,lX⟩
  case he1=>
   rintro p W S' ⟨a0,⟨v,a1,a2⟩,a3,a4,a5,a6⟩ hS hn;obtain⟨q,hIq⟩:=a2.some;obtain⟨r,b1,b2,b3,b4⟩:=HM.out q W hIq;have e:=hS.only (b1.free c HC.out);rw[b2] at e;rw[e] at hn;refine⟨⟨v,a1,a2.to_end a0 ?_,a3⟩,a5,a6⟩;rcases U4 S (64*n) p with ⟨_,e2⟩ | ⟨k,e1,_⟩
   ·exact e2
   ·omega
  case hy1=>
   rintro p W S' k ⟨a0,⟨v,a1,a2⟩,a3,a4,a5,a6⟩ hS hn;obtain⟨q,hIq⟩:=a2.some;obtain⟨r,b1,b2,b3,b4⟩:=HM.out q W hIq;have e:=hS.only (b1.free c HC.out);rw[b2] at e;rw[e] at hn;have hk:k<64*n/\p<=k/\S k=true/\∀ j,p<=j->j<k->S j=false:=by
    rcases U4 S (64*n) p with ⟨e1,_⟩ | ⟨i,e1,e2,e3,e4,e5⟩
    ·omega
    ·obtain rfl:k=i:=by omega
     exact⟨e2,e3 a0,e4,e5⟩
   have A:=Q3 (And.intro a1 (And.intro a3 (And.intro a4 a5)));have HP:=Q3 a2;have HK:=Q3 hk;have HL5:=Q3 a6;have oP:(0:Int)<=(k:Int):=by omega
   refine z2x HR.out a6 rfl ?_;clear a0 a1 a2 a3 a4 a5 a6 b1 b2 b3 b4 hS hn hk hIq e;gi_wp2;refine⟨HL5.out,?_⟩;intro W3 dU hl3;have bU:=Q3 dU;have HL3:=Q3 hl3;have mU:=A.out.1.kept dU (.inl (by omega));have c1:=mU.cell;have c2:=(A.out.2.1.kept dU (.inl (by omega))).cell;have f1:=mU.frozen;have HB1:=Q3 mU;clear dU hl3 mU;rcases HP.out with ⟨rfl,p2,p3⟩ | ⟨a,rfl,p1,p2,p3,p4⟩
   ·have HP2:=Q3 p2;have HP3:=Q3 p3;clear p2 p3;gi_wp2;refine⟨fun _ h=>(by cases h),?_⟩;gi_wp2;have jB:Out (w.heap.size+1) (w.heap.size+1+1) W3 (W3.setCell ⟨w.heap.size+1,0,none⟩ (.int .i64 (k:Int))):=(Out.refl _ _ _).setCell z1 _;refine⟨jB.heap HL3.out (.inr (by omega)),?_⟩;intro W5 cZ hl6;refine .inl ⟨rfl,by have:=HK.out.1;omega,⟨(k:Int),(HB1.out.set _).kept cZ (.inl (by omega)),.inr ⟨k,rfl,Nat.lt_succ_self _,HK.out.2.2.1,(fun j j1 j2=>by omega),HQ.out _ _ _ _ _ (HQ.out _ _ _ _ _ (HS.out 0 k W3 (HQ.out _ _ _ _ _ HP3.out bU.out (.inl (by omega))) (Nat.zero_le _) (fun j _ j2=>by by_cases e:j<p;exact HP2.out j e;exact HK.out.2.2.2 j (by omega) j2)) jB (.inl (by omega))) cZ (.inl (by omega))⟩⟩,
     ((A.out.2.1.kept bU.out (.inl (by omega))).kept jB (.inl (by omega))).kept cZ (.inl (by omega)),((A.out.2.2.1.kept bU.out (.inl (by omega))).kept jB (.inr (by omega))).kept cZ (.inl (by omega)),cZ.heap (jB.heap (bU.out.heap A.out.2.2.2 (.inl (by omega))) (.inr (by omega))) (.inl (by omega)),hl6⟩
   ·have dC:nxr S (64*n) (a+1)=(k:Int):=x6x HK.out.1 (by have:=HK.out.2.1;omega) HK.out.2.2.1 (fun j j1 j2=>by by_cases e:j<p;exact p3 j (by omega) e;exact HK.out.2.2.2 j (by omega) j2);obtain⟨fn,tmps,assign,body,hy,hR⟩:=HY.out a W3 (HQ.out a W W3 _ _ p4 bU.out (.inl (by omega))) p2 (by have:=HK.out;omega);rw[dC] at hy;have pI:=Q3 (z1k (m:=0) hR);have ha0:(0:Int)<=(a:Int):=by omega
    have HP3:=Q3 p3;have HP1:=Q3 p1;clear hR dC p1 p2 p3 p4;gi_wp2;refine⟨rfl,RoundIn.mono (F:=Fence.wide.inRound (w.heap.size+3+1)) pI.out ?_⟩;clear pI hy;rintro e W4 ⟨dR,⟨rfl,hI4⟩ | ⟨rfl,hx4⟩⟩
    ·have dE:=HB1.out.kept dR (.inr (by omega));have c4:=dE.cell;have f4:=dE.frozen;have lT:=Q3 dE;have bJ:=Q3 dR;have HI4:=Q3 hI4;clear dE dR hI4 c1 c2 f1;gi_wp2;have jB:Out (w.heap.size+1) (w.heap.size+1+1) W4 (W4.setCell ⟨w.heap.size+1,0,none⟩ (.int .i64 (k:Int))):=(Out.refl _ _ _).setCell z1 _;refine⟨jB.heap (bJ.out.heap HL3.out (.inr (by omega))) (.inr (by omega)),?_⟩;intro W5 cZ hl6;refine .inl ⟨rfl,by have:=HK.out.1;omega,⟨(k:Int),(lT.out.set _).kept cZ (.inl (by omega)),.inr ⟨k,rfl,Nat.lt_succ_self _,HK.out.2.2.1,(fun j j1 j2=>by omega),HQ.out _ _ _ _ _ (HQ.out _ _ _ _ _ (HS.out (a+1) k W4 HI4.out (by have:=HP1.out;have:=HK.out.2.1;omega) (fun j j1 j2=>by by_cases e:j<p;exact HP3.out j (by omega) e;exact HK.out.2.2.2 j (by omega) j2)) jB (.inl (by omega))) cZ (.inl (by omega))⟩⟩,
      (((A.out.2.1.kept bU.out (.inl (by omega))).kept bJ.out (.inr (by omega))).kept jB (.inl (by omega))).kept cZ (.inl (by omega)),(((A.out.2.2.1.kept bU.out (.inl (by omega))).kept bJ.out (.inr (by omega))).kept jB (.inr (by omega))).kept cZ (.inl (by omega)),cZ.heap (jB.heap (bJ.out.heap (bU.out.heap A.out.2.2.2 (.inl (by omega))) (.inr (by omega))) (.inr (by omega))) (.inl (by omega)),hl6⟩
    ·have HX4:=Q3 hx4;have bJ:=Q3 dR;clear hx4 dR;gi_wp2;refine⟨bJ.out.heap HL3.out (.inr (by omega)),?_⟩;intro W5 cZ hl6;exact .inr ⟨rfl,HQX.out _ _ _ _ HX4.out cZ (by omega),cZ.heap (bJ.out.heap (bU.out.heap A.out.2.2.2 (.inl (by omega))) (.inr (by omega))) (.inl (by omega)),hl6⟩
  ·rintro e W ⟨hv,⟨a1,a2,a3⟩ | ⟨a1,a2,a3⟩⟩
   ·exact⟨hv,a2,.inl ⟨a1,a3⟩⟩
   ·exact⟨hv,a2,.inr ⟨.ret,⟨rfl,a1⟩,a3⟩⟩
 case done=>
  rintro W W' ⟨v,d1,d2,d3⟩ ho hd;have mU:=d1.kept ho (.inl (by omega));have c1:=mU.cell;have c2:=(d3.kept ho (.inl (by omega))).cell;have HD:=Q3 hd;have HO:=Q3 ho;have HP:=Q3 (d2.map (fun q h=>HQ.out q W W' _ _ h ho (.inl (by omega))));clear d1 d2 d3 ho hd mU;rcases HP.out with ⟨rfl,p2,p3⟩ | ⟨a,rfl,p1,p2,p3,p4⟩
  ·have HJ:=Q3 (HE.out 0 W' p3 (fun j _ j2=>p2 j j2));clear p2 p3;gi_wp2;refine⟨by simp,.inl ⟨_,_,rfl,run_takeDeferred HD.out,?_⟩⟩;exact⟨_,results_none rfl _ _ _,⟨_,rfl⟩,.inl (HQJ.out _ _ _ _ HJ.out (W6 _ _ _) (by omega))⟩
  ·have dC:nxr S (64*n) (a+1) = -1:=by
    rcases U4 S (64*n) (a+1) with ⟨e1,_⟩ | ⟨i,e1,e2,e3,e4,e5⟩
    ·exact e1
    ·have:=p3 i (by have:=e3 (by omega);omega) e2;rw[e4] at this;cases this
   obtain⟨fn,tmps,assign,body,hy,hR⟩:=HY.out a W' p4 p2 p1;rw[dC] at hy;have pI:=Q3 (z1k (m:=0) hR);have ha0:(0:Int)<=(a:Int):=by omega
   have HZ:=Q3 p3;clear hR dC p1 p2 p3 p4;gi_wp2;refine⟨rfl,pI.out.mono ?_⟩;clear pI hy;rintro e W4 ⟨dR,⟨rfl,hI4⟩ | ⟨rfl,hx4⟩⟩
   ·have HJ:=Q3 (HE.out _ _ hI4 (fun j j1 j2=>HZ.out j (by omega) j2));have HD4:=Q3 (dR.heap HD.out (.inr (by omega)));clear dR hI4;gi_wp2;refine⟨by simp,.inl ⟨_,_,rfl,run_takeDeferred (by rw[<-hs1];exact HD4.out),?_⟩⟩;exact⟨_,results_none rfl _ _ _,⟨_,rfl⟩,.inl (HQJ.out _ _ _ _ HJ.out (W6 _ _ _) (by omega))⟩
   ·have HJ:=Q3 hx4;have HD4:=Q3 (dR.heap HD.out (.inr (by omega)));clear dR hx4;gi_wp2;refine⟨by simp,.inl ⟨_,_,rfl,run_takeDeferred (by rw[<-hs1];exact HD4.out),?_⟩⟩;exact⟨_,results_none rfl _ _ _,⟨_,rfl⟩,.inr (HQX.out _ _ _ _ HJ.out (W6 _ _ _) (by omega))⟩
 case stop=>
  rintro c W W' ⟨rfl,hJ⟩ ho hd;have HJ:=Q3 (HQX.out W W' _ _ hJ ho (by omega));have HD:=Q3 hd;clear hJ ho hd;gi_wp2;refine⟨by simp,.inl ⟨_,_,rfl,run_takeDeferred HD.out,?_⟩⟩;exact⟨_,results_none rfl _ _ _,⟨_,rfl⟩,.inr (HQX.out _ _ _ _ HJ.out (W6 _ _ _) (by omega))⟩
end Go.Proofs.YtjgnogflgoihfaaGreatDoor
namespace Go.Proofs.YtjgnogflgoihfaaGreatDoor
open Go.RowKit
attribute [local go_sem] Oper.semAt_some
def z5p (n:Nat) (r:Raw) (c:Nat):Nat->Int:=fun i=>if r.F c i then z0e (nxr (r.F c) (64*n) (i+1)) else r.W i
def lwR (n:Nat) (r:Raw) (c p:Nat):Nat->Int:=fun i=>if r.F c i=true/\i<p then z0e (nxr (r.F c) (64*n) (i+1)) else r.W i
theorem x4c (n:Nat) (r:Raw) (c:Nat):lwR n r c 0=r.W:=by funext i;unfold lwR;rw[if_neg (by omega)]
theorem q7h {n:Nat} {r:Raw} {c p q:Nat} (h:p<=q) (hz:∀ j,p<=j->j<q->r.F c j=false):lwR n r c p=lwR n r c q:=by
 funext i
 unfold lwR;by_cases e:r.F c i=true/\i<q
 ·have:i<p:=by
   by_cases e2:i<p
   ·exact e2
   ·have:=hz i (by omega) e.2;rw[e.1] at this;cases this
  rw[if_pos ⟨e.1,this⟩,if_pos e]
 ·rw[if_neg e,if_neg (fun h'=>e ⟨h'.1,by omega⟩)]
theorem x4b {n:Nat} {r:Raw} {c a:Nat} (h:r.F c a=true):z2p (lwR n r c a) a (z0e (nxr (r.F c) (64*n) (a+1)))=lwR n r c (a+1):=by
 funext i
 unfold z2p lwR;by_cases e:i=a
 ·subst e;rw[if_pos rfl,if_pos ⟨h,Nat.lt_succ_self _⟩]
 ·rw[if_neg e];by_cases e2:r.F c i=true/\i<a
  ·rw[if_pos e2,if_pos ⟨e2.1,by omega⟩]
  ·rw[if_neg e2,if_neg (fun h'=>e2 ⟨h'.1,by omega⟩)]
theorem x6m {n:Nat} {r:Raw} {c:Nat} (hz:∀ j,64*n<=j->r.F c j=false):lwR n r c (64*n)=z5p n r c:=by
 funext i
 unfold lwR z5p;cases e:r.F c i with
 | false=>simp
 | true=>
  have:i<64*n:=by
   by_cases e2:i<64*n
   ·exact e2
   ·rw[hz i (by omega)] at e;cases e
  simp[this]
theorem q7f (v:Int) (w:World):Calls Tryz.prog 200 #[.int .i64 v] w fun e w'=>e=.returned (.int .i64 (z0e v))/\w'=w:=j9s v w
theorem q0z {w:World} {lo hi n cap:Nat} {s:Nat->Nat} {r:Raw} (h:RawAt w lo hi s n cap r) {c:Nat} (hc:c<8) :
  Calls Tryz.prog 191 #[.pointer (some ⟨s 14,0,none⟩),.int .i64 (c:Int)] w fun e w'=>(∃ v,e=.returned v)/\RawAt w' lo hi s n cap { r with W:=z5p n r c }/\Out lo hi w w':=by
 have kQ:=Q3 h;have HC:=Q3 hc;have HZ:=Q3 (h.free c hc).bounds;have h11:s 11<hi:=by have:=(h.inn 11 (by omega)).2;simp[ln] at this;omega
 have h14:s 14<hi/\s 11 ≠ s 14:=by have a:=(h.inn 14 (by omega)).2;have b:=h.apart 11 14 (by omega) (by omega) (by omega);simp[ln] at a b;omega
 have HT:Hid (hi<=w.heap.size/\4<=w.heap.size/\s 11<hi/\s 14<hi/\s 11 ≠ s 14/\4<=lo/\n<=4096):=⟨h.top,h.tab.lt,h11,h14.1,h14.2,h.glob,h.n2⟩
 have HL:=Q3 (fun w=>j5g (s 14) (c:Int) w);clear h hc h11 h14;refine(callsIn_wide (n:=0)).1 ?_;refine callsIn_of_wp_marks Tryz.func191 rfl trivial ?_ rfl;simp only[Tryz.ntmps191,List.size_toArray,List.length_cons,List.length_nil,Nat.reduceAdd,Nat.reduceSub,Array.replicate_succ,Array.replicate_zero,List.push_toArray,List.append_toArray,List.nil_append,List.cons_append];gi_wp2_with (refine⟨trivial,rfl,?_⟩;gi_at_call 211;refine(callsIn_wide.2 (HL.out _)).mono ?_;rintro e w1 ⟨rfl,rfl⟩);obtain⟨W1,cC⟩:∃ W1,((w.alloc (.cells #[.pointer (some ⟨s 14,0,none⟩)] 76)).alloc (.cells #[.pointer (some ⟨s 14,0,none⟩)] 76)).alloc (.cells #[.int .i64 (c:Int)] 3)=W1:=⟨_,rfl⟩
 have hs1:W1.heap.size=w.heap.size+3:=by rw[<-cC];simp
 have gJ:Out 0 0 w W1:=by rw[<-cC];exact((((Out.refl 0 0 w).alloc _).alloc _).alloc _)
 have hy1:Box W1 w.heap.size 76 (.pointer (some ⟨s 14,0,none⟩)):=by rw[<-cC];exact Box.alloc (w:=(w.alloc (.cells #[.pointer (some ⟨s 14,0,none⟩)] 76)).alloc (.cells #[.pointer (some ⟨s 14,0,none⟩)] 76)) J0 _
 have lS:Box W1 (w.heap.size+1) 76 (.pointer (some ⟨s 14,0,none⟩)):=by rw[<-cC];exact Box.alloc (w:=(w.alloc (.cells #[.pointer (some ⟨s 14,0,none⟩)] 76)).alloc (.cells #[.pointer (some ⟨s 14,0,none⟩)] 76)) (heap_alloc2_new _ _ _) _
 have hz1:Box W1 (w.heap.size+1+1) 3 (.int .i64 (c:Int)):=by
  rw[<-cC];have:=heap_alloc_new ((w.alloc (.cells #[.pointer (some ⟨s 14,0,none⟩)] 76)).alloc (.cells #[.pointer (some ⟨s 14,0,none⟩)] 76)) (.cells #[.int .i64 (c:Int)] 3);rw[World.size_alloc,World.size_alloc] at this;exact this
 rw[cC];clear cC;have bM:=Q3 gJ;have HY1:=Q3 hy1;have HX1:=Q3 lS;have HZ1:=Q3 hz1;clear gJ hy1 lS hz1;refine z2w (gf:=219) (lb:=#[.pointer (some ⟨w.heap.size+1,0,none⟩),.pointer (some ⟨w.heap.size+1+1,0,none⟩)]) rfl (enters_of Tryz.func219 (by kernel_rfl) rfl)
  (fun W=>RawAt W lo hi s n cap { r with W:=lwR n r c (64*n) }/\Out lo hi w W) (fun c W=>False) ?H ?done ?stop
 case H=>
  intro cX eN W2 jL;rw[hs1];have HR:=Q3 eN;have eH:Out 0 0 W1 W2:=by rw[jL];exact((Out.refl 0 0 W1).alloc _).alloc _
  have eL:W2.heap.size=w.heap.size+5:=by rw[jL];simp[hs1]
  have lD:W2.heap[w.heap.size+3]? = some (.deferred (some [])):=by rw[jL,<-hs1];exact J0
  have lX:W2.heap[w.heap.size+3+1]? = some (.loop (cX .ready none)):=by rw[jL,<-hs1];exact heap_alloc2_new _ _ _
  refine(q7g (lo:=lo) (hi:=hi) (n:=n) (cap:=cap) (s:=s) (S:=r.F c) (c:=c) (g:=w.heap.size+1) (gc:=w.heap.size+1+1) (l:=w.heap.size+3+1) HC.out
   (fun p W=>RawAt W lo hi s n cap { r with W:=lwR n r c p }/\Box W w.heap.size 76 (.pointer (some ⟨s 14,0,none⟩))/\Box W (w.heap.size+1) 76 (.pointer (some ⟨s 14,0,none⟩))/\Box W (w.heap.size+1+1) 3 (.int .i64 (c:Int))/\W.heap[w.heap.size+3]? = some (.deferred (some []))/\W.heap[w.heap.size+3+1]? = some (.loop (cX .ready none))/\Out lo hi w W)
   (fun W=>RawAt W lo hi s n cap { r with W:=lwR n r c (64*n) }/\W.heap[w.heap.size+3]? = some (.deferred (some []))/\W.heap[w.heap.size+3+1]? = some (.loop (cX .ready none))/\Out lo hi w W)
   (fun W=>False) (w:=W2) ?hm1 ?hq1 ?hs1 ?hqj1 ?hqx1 ?hy1 ?he1 ?hz1).mono ?_
  case hm1=>
   rintro p W ⟨a1,a2,a3,a4,a5,a6,a7⟩;exact⟨_,a1,rfl,a3,a4⟩
  case hq1=>
   rintro p W W' x y ⟨a1,a2,a3,a4,a5,a6,a7⟩ o hx;exact⟨a1.kept o (by have:=HT.out;omega) (by have:=HT.out;omega),a2.kept o (by omega),a3.kept o (by omega),a4.kept o (by omega),o.heap a5 (by omega),o.heap a6 (by omega),Y5 a7 o (by omega)⟩
  case hs1=>
   rintro p q W ⟨a1,a2,a3,a4,a5,a6,a7⟩ hpq hz;exact⟨by rw[<-q7h hpq hz];exact a1,a2,a3,a4,a5,a6,a7⟩
  case hqj1=>
   rintro W W' x y ⟨a1,a2,a3,a4⟩ o hx;exact⟨a1.kept o (by have:=HT.out;omega) (by have:=HT.out;omega),o.heap a2 (by omega),o.heap a3 (by omega),Y5 a4 o (by omega)⟩
  case hqx1=>
   rintro W W' x y h _ _;exact h
  case he1=>
   rintro p W ⟨a1,a2,a3,a4,a5,a6,a7⟩ hz;refine⟨?_,a5,a6,a7⟩;by_cases e:p<=64*n
   ·rw[<-q7h e hz];exact a1
   ·rw[q7h (p:=64*n) (q:=p) (by omega) (fun j j1 _=>HZ.out.2.2.2.2.2 j j1)];exact a1
  case hz1=>
   have:=(kQ.out.quiet (bM.out.trans eH))
   exact⟨by rw[x4c];exact this,HY1.out.kept eH z0,HX1.out.kept eH z0,HZ1.out.kept eH z0,lD,lX,(bM.out.trans eH).any _ _⟩
  case hy1=>
   rintro a W ⟨a1,a2,a3,a4,a5,a6,a7⟩ hSa haN;have A:=Q3 (And.intro a1 (And.intro a2 (And.intro a3 (And.intro a4 (And.intro a5 a7)))));have HSa:=Q3 hSa;have HaN:=Q3 haN;have HL5:=Q3 a6;have k0:(0:Int)<=(a:Int):=by omega
   have k1:(a:Int)<((64*n:Nat):Int):=by omega
   have k2:((64*n:Nat):Int)<=262144:=by have:=HT.out;omega
   have k3:(a:Int)<64*(n:Int):=by omega
   refine z2x HR.out a6 rfl ?_;clear a1 a2 a3 a4 a5 a6 a7 hSa haN;gi_wp2;refine⟨HL5.out,?_⟩;intro W3 dU hl3;have bU:=Q3 dU;have HL3:=Q3 hl3;have c0:=(A.out.2.1.kept dU (.inl (by omega))).cell;have hr3:=A.out.1.kept dU (.inl (by have:=HT.out;omega)) (.inl (by have:=HT.out;omega));have c1:=hr3.cells.1;have d0:=hr3.words.cell HaN.out;have d1:=hr3.words.frozen a;have fY:=Q3 hr3;have ho9:∀ v,Out (s 11) (s 11+1) W3.drew (W3.drew.setCell ⟨s 11,a,none⟩ v):=fun v=>(Out.refl _ _ _).setCell z1 _
   have n1:s 14<s 11\/s 11+1<=s 14:=by have:=HT.out;omega
   have n2:w.heap.size<s 11\/s 11+1<=w.heap.size:=by have:=HT.out;omega
   clear dU hl3 hr3;gi_wp2_with fail;refine z3m (S:=fun w'=>w'.cell? ⟨w.heap.size,0,none⟩=some (.pointer (some ⟨s 14,0,none⟩))/\w'.cell? ⟨s 14,0,none⟩=some (.slice (some ⟨s 11,0,none⟩) (64*n) cap)) (by kernel_rfl) (by kernel_rfl) ?hS1 (fun aB=>?rest1)
   case hS1=>exact⟨c0,c1⟩
   refine tk 0 ?_;refine tk 1 ?_;refine tk 2 ?_;refine tk 3 ?_;refine tk 4 ?_;refine tk 5 ?_;refine rd1 6 fun KK hK=>?_
   go_simp;refine(q7f (nxr (r.F c) (64*n) (a+1)) _).mono ?_;rintro e w5 ⟨rfl,rfl⟩;refine hK.out _ _ (aB) fun aB=>?_
   clear hK KK;refine tk 7 ?_;refine rd1 8 fun KK hK=>?_
   go_simp;refine hK.out _ _ ⟨(ho9 _).cell aB.1 (by omega),(ho9 _).cell aB.2 (by omega)⟩ fun aB=>?_
   clear hK KK;refine dn ?_;clear aB;simp only[q7k,q2f];gi_wp2;have hp:=fY.out.poke a (z0e (nxr (r.F c) (64*n) (a+1)));have jB:=hp.2.drew;refine⟨jB.heap HL3.out (.inr (by have:=HT.out;omega)),?_⟩;intro W5 cZ hl6;have hr5:RawAt W5 lo hi s n cap { r with W:=lwR n r c (a+1) }:=by
    rw[<-x4b HSa.out];exact(hp.1.quiet ((Out.refl 0 0 _).drew)).kept cZ (by have:=HT.out;omega) (by have:=HT.out;omega)
   have hA:=A.out;have hT:=HT.out;have ho7:=bU.out;exact⟨⟨(cZ.1.trans jB.1).trans ho7.1,(cZ.2.1.trans jB.2.1).trans ho7.2.1,(cZ.2.2.1.trans jB.2.2.1).trans ho7.2.2.1,Nat.le_trans ho7.size (Nat.le_trans jB.size cZ.size),fun k h1 h2=>((cZ.block (Nat.lt_of_lt_of_le (Nat.lt_of_lt_of_le h1 ho7.size) jB.size) (by omega)).trans (jB.block (Nat.lt_of_lt_of_le h1 ho7.size) (by omega))).trans (ho7.block h1 (by omega))⟩,.inl ⟨rfl,hr5,((hA.2.1.kept ho7 (by omega)).kept jB (by omega)).kept cZ (by omega),((hA.2.2.1.kept ho7 (by omega)).kept jB (by omega)).kept cZ (by omega),((hA.2.2.2.1.kept ho7 (by omega)).kept jB (by omega)).kept cZ (by omega),cZ.heap (jB.heap (ho7.heap hA.2.2.2.2.1 (by omega)) (by omega)) (by omega),hl6,Y5 ((Y5 hA.2.2.2.2.2 ho7 (by omega)).trans (fY.out.wide (i:=11) (by omega) jB)) cZ (by omega)⟩⟩
  ·rintro e W ⟨hv,⟨a1,a2,a3,a4⟩ | h⟩
   ·exact⟨hv,a2,.inl ⟨⟨a1,a4⟩,a3⟩⟩
   ·exact h.elim
 case done=>
  rintro W W' ⟨a1,a2⟩ ho hd;have HJ:=Q3 (And.intro (a1.kept ho (by have:=HT.out;omega) (by have:=HT.out;omega)) (Y5 a2 ho (by omega)));have HD:=Q3 hd;clear a1 a2 ho hd;gi_wp2;refine⟨by simp,.inl ⟨_,_,rfl,run_takeDeferred HD.out,?_⟩⟩;refine⟨_,results_none rfl _ _ _,⟨_,rfl⟩,?_,Y5 HJ.out.2 (W6 _ _ _) (by omega)⟩;rw[<-x6m HZ.out.2.2.2.2.2];exact HJ.out.1.kept (W6 _ _ _) (by have:=HT.out;omega) (by have:=HT.out;omega)
 case stop=>
  rintro c W W' h ho hd;exact h.elim
end Go.Proofs.YtjgnogflgoihfaaGreatDoor
namespace Go.Proofs.YtjgnogflgoihfaaGreatDoor
open Go.RowKit
theorem z1h:Tryz.prog.elem 70=3:=by kernel_rfl
theorem z8e (w:World):(sizeOf 3).run Tryz.prog w=.ok 1 w:=by kernel_rfl
theorem z8x (bw n cap lo hi:Nat) (h1:lo<=hi) (h2:hi<=cap):∃ o cp:Nat,(∀ wx,(Instr.slice 70 (.slice (some ⟨bw,0,none⟩) n cap) (some (.int .i64 (lo:Int))) (some (.int .i64 (hi:Int))) none).run Tryz.prog wx=.ok (.slice (some ⟨bw,o,none⟩) (hi-lo) cp) wx)/\(0<hi-lo->o=lo):=by
 by_cases e:cap=lo
 ·refine⟨0,cap-lo,fun wx=>?_,fun h=>by omega⟩;rw[run_slice_lh wx 70 _ n cap (by rw[z1h];exact Tryz.underlying70) .i64 .i64 (lo:Int) (hi:Int) (by omega) (by omega) (by omega),z1h,z8e];simp[Result.andThen,sliced,e]
 ·refine⟨lo,cap-lo,fun wx=>?_,fun h=>rfl⟩;rw[run_slice_lh wx 70 _ n cap (by rw[z1h];exact Tryz.underlying70) .i64 .i64 (lo:Int) (hi:Int) (by omega) (by omega) (by omega),z1h,z8e];have e2:(⟨bw,0,none⟩:Addr).add lo=⟨bw,lo,none⟩:=by rw[Addr.add_lit,Nat.zero_add]
  simp[Result.andThen,sliced,e,e2]
section
variable {w:World} {lo hi n cap:Nat} {s:Nat->Nat} {r:Raw}
theorem RawAt.clear (h:RawAt w lo hi s n cap r) {a k o cp:Nat} (hk:a+k<=64*n) (ho:0<k->o=a) :
  ∃ w',(∀ ty,(Builtin.clear_ #[70] ty #[.slice (some ⟨s 11,o,none⟩) k cp]).run Tryz.prog w=.ok (.tuple #[]) w')/\RawAt w' lo hi s n cap { r with W:=z0b r.W a k }/\Out (s 11) (s 11+1) w w':=by
 by_cases h0:0<k
 ·obtain rfl:=ho h0;have hO:Out (s 11) (s 11+1) w (w.setCells (s 11) o (List.replicate k (.int .i64 0))):=Out.setAll ⟨Nat.le_refl _,Nat.lt_succ_self _⟩ _ _ _ _ _ (Out.refl _ _ _);refine⟨w.setCells (s 11) o (List.replicate k (.int .i64 0)),fun ty=>Lib.run_clear_slice w 70 3 ty (.int .i64 0) Tryz.underlying70 x1j rfl rfl (s 11) o k cp h0 (fun j hj=>by rw[h.words.cell (i:=o+j) (by omega)];rfl) (fun j hj=>h.words.frozen _),h.setW hO ((Row.fillAll _ _ _ _ _ h.words).congr fun i hi=>?_),hO⟩;unfold z0b;by_cases e:o<=i/\i<o+k
  ·rw[if_pos e,if_pos e]
  ·rw[if_neg e,if_neg e]
 ·obtain rfl:k=0:=by omega
  refine⟨w,fun ty=>by simp[Builtin.clear_,run_underlying Tryz.underlying70],?_,Out.refl _ _ _⟩;have:z0b r.W a 0=r.W:=by funext i;unfold z0b;rw[if_neg (by omega)]
  rw[this];exact h
def fuF (r:Raw) (c p i:Nat):Nat->Bool:=fun j=>r.F c j || (decide (j / 64=p/\(j % 64) % wN (c:Int)=0/\(j % 64) / wN (c:Int)<i) && !r.P j)
def fuR (r:Raw) (c p:Nat):Nat->Bool:=fun j=>r.F c j || (decide (j / 64=p) && F6 (c:Int) (j % 64) && !r.P j)
theorem z2q {c:Nat} (hc:c<8):∃ x y:Nat,W8 (c:Int)=x/\wN (c:Int)=x/\B4 (c:Int)=y/\((c=0/\x=2/\y=32)\/(c=1/\x=4/\y=16)\/(c=2/\x=6/\y=10)\/(c=3/\x=8/\y=8)\/(c=4/\x=12/\y=5)\/(c=5/\x=16/\y=4)\/(c=6/\x=20/\y=3)\/(c=7/\x=32/\y=2)):=by
 have:c=0\/c=1\/c=2\/c=3\/c=4\/c=5\/c=6\/c=7:=by omega
 rcases this with rfl | rfl | rfl | rfl | rfl | rfl | rfl | rfl
 ·exact⟨2,32,rfl,rfl,rfl,by omega⟩
 ·exact⟨4,16,rfl,rfl,rfl,by omega⟩
 ·exact⟨6,10,rfl,rfl,rfl,by omega⟩
 ·exact⟨8,8,rfl,rfl,rfl,by omega⟩
 ·exact⟨12,5,rfl,rfl,rfl,by omega⟩
 ·exact⟨16,4,rfl,rfl,rfl,by omega⟩
 ·exact⟨20,3,rfl,rfl,rfl,by omega⟩
 ·exact⟨32,2,rfl,rfl,rfl,by omega⟩
theorem j7h {c:Nat} (hc:c<8) {o:Nat} (ho:o<64):F6 (c:Int) o=decide (o % wN (c:Int)=0/\o / wN (c:Int)<(B4 (c:Int)).toNat):=by
 obtain⟨x,y,h1,h2,h3,h4⟩:=z2q hc;unfold F6;rw[h2,h3,Bool.eq_iff_iff];simp;intro hm;rcases h4 with ⟨_,rfl,rfl⟩ | ⟨_,rfl,rfl⟩ | ⟨_,rfl,rfl⟩ | ⟨_,rfl,rfl⟩ | ⟨_,rfl,rfl⟩ | ⟨_,rfl,rfl⟩ | ⟨_,rfl,rfl⟩ | ⟨_,rfl,rfl⟩ <;> omega
theorem x3n (r:Raw) (c p:Nat):fuF r c p 0=r.F c:=by funext j;unfold fuF;simp
theorem x6d (r:Raw) {c:Nat} (hc:c<8) (p:Nat):fuF r c p (B4 (c:Int)).toNat=fuR r c p:=by
 funext j
 unfold fuF fuR;rw[j7h hc (show j % 64<64 from by omega)];congr 2
 rw[Bool.eq_iff_iff];simp
theorem x3m (r:Raw) {c:Nat} (hc:c<8) (p i:Nat) (hi:(i:Int)<B4 (c:Int)):∃ a:Nat,64*p+i*wN (c:Int)=a/\a<64*p+64/\z1s (c:Int) (i:Int)=((i*wN (c:Int):Nat):Int) ∧
  fuF r c p (i+1)=(fun j=>if j=a then (fuF r c p i a || !r.P a) else fuF r c p i j):=by
 obtain⟨x,y,h1,h2,h3,h4⟩:=z2q hc;have hix:i*x+x<=64/\2<=x:=by
  rw[h3] at hi;rcases h4 with ⟨_,rfl,rfl⟩ | ⟨_,rfl,rfl⟩ | ⟨_,rfl,rfl⟩ | ⟨_,rfl,rfl⟩ | ⟨_,rfl,rfl⟩ | ⟨_,rfl,rfl⟩ | ⟨_,rfl,rfl⟩ | ⟨_,rfl,rfl⟩ <;> omega
 refine⟨64*p+i*x,by rw[h2],by omega,?_,?_⟩
 ·unfold z1s;rw[if_pos ⟨by omega,hi⟩,h1,h2];simp
 ·have hq:∀ j:Nat,(j / 64=p/\(j % 64) % x=0/\(j % 64) / x=i) ↔ j=64*p+i*x:=by
   intro j;have hd:=Nat.div_add_mod (j % 64) x;constructor
   ·rintro⟨e1,e2,e3⟩;rw[e3,e2,Nat.add_zero,Nat.mul_comm x i] at hd;clear e2 e3;generalize i*x=t at *
    omega
   ·intro e;have e4:j % 64=i*x:=by omega
    refine⟨by omega,by rw[e4];exact Nat.mul_mod_left _ _,by rw[e4];exact Nat.mul_div_cancel _ (by omega)⟩
  funext j
  unfold fuF;rw[h2];by_cases e:j=64*p+i*x
  ·rw[if_pos e,<-e];have:=(hq j).2 e;have e5:decide (j / 64=p/\(j % 64) % x=0/\(j % 64) / x<i+1)=true:=by simp;omega
   have e6:decide (j / 64=p/\(j % 64) % x=0/\(j % 64) / x<i)=false:=by simp;omega
   rw[e5,e6];cases r.F c j <;> cases r.P j <;> rfl
  ·rw[if_neg e];have e5:decide (j / 64=p/\(j % 64) % x=0/\(j % 64) / x<i+1)=decide (j / 64=p/\(j % 64) % x=0/\(j % 64) / x<i):=by
    rw[Bool.eq_iff_iff];simp;intro e1 e2;have:¬ ((j % 64) / x=i):=fun e3=>e ((hq j).1 ⟨e1,e2,e3⟩)
    omega
   rw[e5]
theorem q0n (h:RawAt w lo hi s n cap r) {c p:Nat} (hc:c<8) (hp:p<n) :
  Kz 190 #[Pq (s 14),Iz (p:Int),Iz (c:Int)] w fun e w'=>(∃ v,e=.returned v)/\RawAt w' lo hi s n cap { r with F:=fun d=>if d=c then fuR r c p else r.F d }/\Out lo hi w w':=by
 have HC:=Q3 hc;have HP:=Q3 hp;have HR:=Q3 h;have HN:Hid (n<=4096):=h.n2;have HB:=Q3 (z0q (q0f (c:Int) w) (Out.refl 0 0 w));obtain⟨y,hy⟩:∃ y:Nat,B4 (c:Int)=y:=by obtain⟨x,y,h1,h2,h3,h4⟩:=z2q hc;exact⟨y,h3⟩
 rw[hy] at HB;have k0:(0:Int)<=(p:Int):=by omega
 have k1:(p:Int)<4096:=by have:=h.n2;omega
 have k2:(0:Int)<=(c:Int):=by omega
 have k3:(c:Int)<8:=by omega
 have k4:(y:Int)<=32:=by obtain⟨x,y',h1,h2,h3,h4⟩:=z2q hc;omega
 have HY:=Q3 hy;clear h hc hp hy;go_enter Tryz.func190,Tryz.ntmps190
 go_wp2_with (first | (go_at_call 209;refine HB.out.mono ?_;rintro e w1 ⟨rfl,ho⟩));have cD:=Q3 (HR.out.quiet ho);have bM:=Q3 ho;clear ho;go_loopw [10] (fun u wr=>∃ i:Nat,u=Iz (i:Int)/\i<=y/\RawAt wr lo hi s n cap { r with F:=fun d=>if d=c then fuF r c p i else r.F d }/\Out lo hi w wr) (fun u _=>((y:Int)-intOf u).toNat)
 case atStart=>
  refine⟨0,rfl,Nat.zero_le _,cD.out.congr ?_,bM.out.any _ _⟩;refine Raw.eq rfl rfl ?_ rfl rfl rfl rfl;funext d
  show r.F d=if d=c then fuF r c p 0 else r.F d
  by_cases e:d=c
  ·rw[if_pos e,x3n,e]
  ·rw[if_neg e]
 case round=>
  clear cD bM HB HR;obtain⟨i,rfl,i1,i2,i3⟩:=hrel;have cV:=Q3 i2;have aH:=Q3 i3;by_cases dD:(i:Int)<(y:Int)
  ·obtain⟨a,e1,e2,e3,e4⟩:=x3m r HC.out p i (by rw[HY.out];exact dD);have j0:(0:Int)<=(i:Int):=by omega
   have HS:=Q3 (z0q (j7g (c:Int) (i:Int) wr) (Out.refl 0 0 wr));rw[e3] at HS;obtain⟨q,hq⟩:∃ q:Nat,i*wN (c:Int)=q:=⟨_,rfl⟩
   rw[hq] at HS e1;have m0:(0:Int)<=(q:Int):=by omega
   have m1:(q:Int)<64:=by omega
   have m2:(p:Int)*64+(q:Int)=(a:Int):=by omega
   have HA:Hid (a<64*n):=by show _<_;have:=HP.out;omega
   have HE4:=Q3 e4;have HM2:=Q3 m2;clear i2 i3 e1 e2 e3 e4 hq m2;go_wp2_with (first
    | (go_at_call 210;refine HS.out.mono ?_;rintro e w2 ⟨rfl,ho⟩;have fY:=Q3 (cV.out.quiet ho);have bU:=Q3 (aH.out.trans (ho.any lo hi));obtain⟨d0,d1,d2,d3,d4,d5⟩:=fY.out.cells;have dF:=fY.out.cellF HC.out;clear ho cV aH)
    | (go_at_call 138;rw[HM2.out];refine(j4s fY.out.places (a:Int)).mono ?_;rintro e w3 ⟨rfl,ho⟩;have dY:=Q3 (fY.out.quiet ho);have bJ:=Q3 (bU.out.trans (ho.any lo hi));have eF:=dY.out.cellF HC.out;clear ho dF d0 d1 d2 d3 d4 d5;obtain⟨bb,hbb⟩:∃ bb,j9f r.P (64*n) (a:Int)=bb:=⟨_,rfl⟩;simp only[hbb])
    | (go_at_call 136;refine(q8i (dY.out.free c HC.out) (a:Int)).mono ?_;rintro e w4 ⟨rfl,hm,ho⟩;have eR:=Q3 (dY.out.setF HC.out ho hm);have bL:=Q3 (bJ.out.trans (dY.out.wide (i:=c) (by have:=HC.out;omega) (by unfold ln;rw[if_pos (by have:=HC.out;omega)];exact ho)));clear hm ho))
   ·have hP:r.P a=false:=by
     have h1:j9f r.P (64*n) (a:Int)=false:=by rw[hbb];rename_i hq;simpa using hq
     unfold j9f at h1;rw[show inB (64*n) (a:Int)=true from by unfold inB;simp;have:=HA.out;omega] at h1;simpa using h1
    refine⟨⟨i+1,by congr 1,by omega,eR.out.congr ?_,bL.out⟩,by simp[intOf];omega⟩;refine Raw.eq rfl rfl ?_ rfl rfl rfl rfl;funext d
    simp only[if_true];by_cases e:d=c
    ·rw[if_pos e,if_pos e,HE4.out];funext j
     unfold q5c;rw[if_pos (show inB (64*n) (a:Int)=true from by unfold inB;simp;have:=HA.out;omega)];unfold upd;rw[show (a:Int).toNat=a from by omega,hP];by_cases e2:j=a
     ·rw[if_pos e2,if_pos e2];simp
     ·rw[if_neg e2,if_neg e2]
    ·rw[if_neg e,if_neg e,if_neg e]
   ·have hP:r.P a=true:=by
     have h1:j9f r.P (64*n) (a:Int)=true:=by rw[hbb];rename_i hq;simpa using hq
     unfold j9f at h1;simp at h1;exact h1.2
    refine⟨⟨i+1,by congr 1,by omega,dY.out.congr ?_,bJ.out⟩,by simp[intOf];omega⟩;refine Raw.eq rfl rfl ?_ rfl rfl rfl rfl;funext d
    show (if d=c then fuF r c p i else r.F d)=if d=c then fuF r c p (i+1) else r.F d
    by_cases e:d=c
    ·rw[if_pos e,if_pos e,HE4.out];funext j
     by_cases e2:j=a
     ·rw[if_pos e2,hP,e2];simp
     ·rw[if_neg e2]
    ·rw[if_neg e,if_neg e]
  ·have e:i=y:=by omega
   subst e;clear i2 i3;have hge:(i:Int)<=(i:Int):=Int.le_refl _;go_wp2;refine bodyPost_end (results_none Tryz.results190 _ _ _) rfl ⟨⟨_,rfl⟩,cV.out.congr ?_,aH.out⟩;refine Raw.eq rfl rfl ?_ rfl rfl rfl rfl;funext d
   show (if d=c then fuF r c p i else r.F d)=if d=c then fuR r c p else r.F d
   rw[<-x6d r HC.out p,HY.out];rfl
end
theorem z7q {fn:Func} {p u:Tmp} {ty:TypeId} (h:fn.results = #[.tmp u,.cell p ty]) (tmps:Array Value) (P:Program) (w:World) :
  (results fn tmps).run P w=((asAddr (tmps.getD p undef)).run P w).andThen fun ad w1=>((loadVar ty ad).run P w1).andThen fun v w2=>.ok (.tuple #[tmps.getD u undef,v]) w2:=by
 unfold results;simp[h,Sem.run_bind,Result.andThen]
theorem z6u {fn:Func} {p u:Tmp} {a:Act} {w:World} {g:Nat} {x1 x2 v:Int} {post:Ending->World->Prop} (hr:fn.results = #[.tmp u,.cell p 46]) (hp:a.tmps.getD p undef=.pointer (some ⟨g,0,none⟩)) (hu:a.tmps.getD u undef=.int .i64 v)
  (hd:a.defers=[]) (hg:w.heap[g]? = some (.cells #[.int .i64 x1,.int .i64 x2] 46 (0,0))) (h:post (.returned (.tuple #[.int .i64 v,.agg #[.int .i64 x1,.int .i64 x2]])) w):bodyPost Tryz.prog fn post Exit.ret a w:=by
 refine bodyPost_ret (v:=.tuple #[.int .i64 v,.agg #[.int .i64 x1,.int .i64 x2]]) ?_ hd h;rw[z7q hr,hp];simp[asAddr,run_loadVar_row w g 46 46 _ (0,0) _ hg Tryz.underlying46 rfl (x3t x1 x2),Result.andThen];simpa using hu
theorem j6p {a b:Int} {v:Value} (h:a=b):Ending.returned (.tuple #[.int .i64 a,v])=.returned (.tuple #[.int .i64 b,v]):=by rw[h]
section
variable {w:World} {lo hi n cap:Nat} {s:Nat->Nat} {r:Raw}
theorem q7r (h:RawAt w lo hi s n cap r) (k:Nat) (h1:1<=k) (h2:k<=16) :
  Calls Tryz.prog 198 #[.pointer (some ⟨s 9,0,none⟩),.int .i64 (k:Int)] w fun e w'=>e=.returned (.tuple #[.int .i64 (((z0a r.S n k).getD 0:Nat):Int),.int .i64 (if (z0a r.S n k).isSome then 0 else 20)]) ∧
   RawAt w' lo hi s n cap { r with S:=match z0a r.S n k with | some p=>setR r.S p k | none=>r.S }/\Out lo hi w w':=by
 refine(q8l h.tbl h.tab (k:Int)).mono ?_;rintro e w' ⟨rfl,ht,ho⟩;have hb:j2f (k:Int)=true:=by unfold j2f;simp;omega
 unfold trP trE;unfold trS at ht;rw[hb] at ht ⊢;simp only[if_true,Int.toNat_natCast] at ht ⊢;exact⟨by first | trivial | rfl,h.setT ho ht,h.wide (i:=10) (by omega) ho⟩
theorem q2l (h:RawAt w lo hi s n cap r) (c:Nat) (hc:c<8) :
  Calls Tryz.prog 213 #[.pointer (some ⟨s 9,0,none⟩),.int .i64 (c:Int)] w fun e w'=>e=.returned (.tuple #[.int .i64 (((z0a r.S n 1).getD 0:Nat):Int),.int .i64 (if (z0a r.S n 1).isSome then 0 else 20)]) ∧
   RawAt w' lo hi s n cap { r with S:=match z0a r.S n 1 with | some p=>q2t r.S p (c:Int) | none=>r.S }/\Out lo hi w w':=by
 refine(q2w h.tbl h.tab (c:Int)).mono ?_;rintro e w' ⟨rfl,ht,ho⟩;have hb:H9 (c:Int)=true:=by unfold H9;simp;omega
 unfold tcP tcE;unfold tcS at ht;rw[hb] at ht ⊢;simp only[if_true] at ht ⊢;exact⟨by first | trivial | rfl,h.setT ho ht,h.wide (i:=10) (by omega) ho⟩
theorem q3p (w:World):(w.alloc (.cells #[.int .i64 0,.int .i64 0] 46)).heap[w.heap.size]? = some (.cells #[.int .i64 0,.int .i64 0] 46 (0,0)):=heap_alloc_new _ _
theorem q2u (h:RawAt w lo hi s n cap r) (k:Nat) (h1:1<=k) (h2:k<=16) :
  Kz 176 #[Pq (s 14),Iz (k:Int)] w fun e w'=>
   (match z0a r.S n k with
    | some p=>e=.returned (.tuple #[Iz ((64*p:Nat):Int),Vz 0 0])/\RawAt w' lo hi s n cap { r with S:=setR r.S p k }
    | none=>e=.returned (.tuple #[Iz 0,Vz 20 0])/\RawAt w' lo hi s n cap r)/\Out lo hi w w':=by
 have h0:Out 0 0 w (w.alloc (Dz 0 0 46)):=(Out.refl 0 0 w).alloc _;have HZ:=Q3 (q3p w);have H0:=Q3 h0;have HK:=Q3 (q7r (h.quiet h0) k h1 h2);obtain⟨c0,c1,c2,c3,c4,c5⟩:=(h.quiet h0).cells;have HT:Hid (hi<=w.heap.size/\4<=w.heap.size/\n<=4096):=⟨h.top,h.tab.lt,h.n2⟩
 cases hf:z0a r.S n k with
 | none=>
  rw[hf] at HK;simp only[Option.getD_none,Option.isSome_none] at HK;have e4:((20:Int) != 0)=true:=rfl;clear h h0 hf h1 h2;go_enter Tryz.func176,Tryz.ntmps176
  go_wp2_with (first | (go_at_call 198;refine HK.out.mono ?_;rintro e w1 ⟨rfl,hr,ho⟩;obtain⟨q4,q5,q6,q7⟩:=flt_facts (ho.heap HZ.out (.inr HT.out.1));have cD:=Q3 hr;have HO:=Q3 ho;clear hr ho));refine z6u Tryz.results176 rfl rfl rfl (J3 (HO.out.heap HZ.out (.inr HT.out.1))) ⟨⟨rfl,cD.out.kept ((Out.refl w.heap.size (w.heap.size+1) _).set2 z1 _ _) (.inl HT.out.1) (.inl HT.out.2.1)⟩,((H0.out.any lo hi).trans HO.out).set2 (.inr (Nat.le_refl _)) _ _⟩
 | some p=>
  rw[hf] at HK;simp only[Option.getD_some,Option.isSome_some,if_true] at HK;have hp:=z0v hf;have b0:(0:Int)<=(p:Int):=by omega
  have b1:(p:Int)<4096:=by have:=HT.out;omega
  have e4:((0:Int) != 0)=false:=rfl;clear h h0 hf h1 h2 hp;go_enter Tryz.func176,Tryz.ntmps176
  go_wp2_with (first | (go_at_call 198;refine HK.out.mono ?_;rintro e w1 ⟨rfl,hr,ho⟩;obtain⟨q4,q5,q6,q7⟩:=flt_facts (ho.heap HZ.out (.inr HT.out.1));have cD:=Q3 hr;have HO:=Q3 ho;clear hr ho));refine z6u Tryz.results176 rfl rfl rfl (J3 (HO.out.heap HZ.out (.inr HT.out.1))) ⟨⟨j6p (by omega),cD.out.kept ((Out.refl w.heap.size (w.heap.size+1) _).set2 z1 _ _) (.inl HT.out.1) (.inl HT.out.2.1)⟩,((H0.out.any lo hi).trans HO.out).set2 (.inr (Nat.le_refl _)) _ _⟩
end
end Go.Proofs.YtjgnogflgoihfaaGreatDoor
