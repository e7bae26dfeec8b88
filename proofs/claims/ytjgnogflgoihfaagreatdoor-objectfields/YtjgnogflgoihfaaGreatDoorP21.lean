import Derived.Test.YtjgnogflgoihfaaGreatDoorP13
set_option linter.unusedSimpArgs false
set_option linter.unusedVariables false
set_option maxHeartbeats 16000000
set_option maxRecDepth 100000
namespace Go.Proofs.YtjgnogflgoihfaaGreatDoor
open Go.RowKit
attribute [local go_sem] Oper.semAt_some
theorem q8f {lo hi n cap g l:Nat} {s:Nat->Nat} (I:Nat->World->Prop) (J Jx:World->Prop) {w:World}
  (hm:∀ p w,I p w->p<=64*n/\∃ r,RawAt w lo hi s n cap r/\q1g r/\Box w g 76 (.pointer (some ⟨s 14,0,none⟩)))
  (hq:∀ p w1 w2 x y,I p w1->Out x y w1 w2->((w.heap.size<=x/\y<=w.heap.size+4)\/y=0)->I p w2)
  (hqJ:∀ w1 w2 x y,J w1->Out x y w1 w2->w.heap.size<=x/\y<=w.heap.size+4->J w2) (hqX:∀ w1 w2 x y,Jx w1->Out x y w1 w2->w.heap.size<=x/\y<=w.heap.size+4->Jx w2)
  (hy:∀ p w1 r (k:Nat) b,I p w1->RawAt w1 lo hi s n cap r->nxr r.P (64*n) p=k->r.M (k:Int)=some b->w.heap.size+4<=w1.heap.size->YieldAt Fence.wide 0 Tryz.prog l #[j0t k b] w1 fun e w'=>Sv w.heap.size 4 w1 w'/\((e=.returned (.bool true)/\I (k+1) w')\/(e=.returned (.bool false)/\Jx w')))
  (he:∀ p w1 r,I p w1->RawAt w1 lo hi s n cap r->nxr r.P (64*n) p = -1->J w1) (h0:I 0 w) :
  Calls Tryz.prog 184 #[.func (.yield l) #[] #[],.pointer (some ⟨g,0,none⟩)] w fun e w'=>(∃ v,e=.returned v)/\(J w'\/Jx w'):=by
 obtain⟨_,r0,jQ,_,gV⟩:=hm 0 w h0;have jM:Out 0 0 w (w.alloc (.cells #[.func (.yield l) #[] #[]] 203)):=(Out.refl 0 0 w).alloc _;have iR:=jQ.quiet jM;have c0:=(gV.kept jM z0).cell;obtain⟨d0,d1,d2,d3,d4,d5⟩:=iR.cells;have HM:=Q3 hm;have HQ:=Q3 hq;have HQJ:=Q3 hqJ;have HQX:=Q3 hqX;have HY:=Q3 hy;have HE:=Q3 he;have HI:=Q3 h0;have HG:Hid (g<w.heap.size):=gV.lt;have HT:Hid (hi<=w.heap.size/\4<=w.heap.size):=⟨jQ.top,jQ.tab.lt⟩
 clear hm hq hy he h0 gV jQ iR hqJ hqX jM;refine(callsIn_wide (n:=0)).1 ?_;refine callsIn_of_wp_marks Tryz.func184 rfl trivial ?_ rfl;simp only[Tryz.ntmps184,List.size_toArray,List.length_cons,List.length_nil,Nat.reduceAdd,Nat.reduceSub,Array.replicate_succ,Array.replicate_zero,List.push_toArray,List.append_toArray,List.nil_append,List.cons_append];gi_wp2_with (first
  | (refine⟨trivial,rfl,?_⟩;gi_at_call 85;refine(callsIn_wide.2 (z2i _ _)).mono ?_;rintro e w1 ⟨rfl,rfl⟩)
  | (refine⟨trivial,rfl,?_⟩;gi_at_call 185;refine(callsIn_wide.2 (q1j _ _)).mono ?_;rintro e w1 ⟨rfl,rfl⟩))
 obtain⟨W1,cC⟩:∃ W1,(w.alloc (.cells #[.func (.yield l) #[] #[]] 203)).alloc (.cells #[.pointer (some ⟨s 8+1,0,none⟩)] 137)=W1:=⟨_,rfl⟩
 have hs1:W1.heap.size=w.heap.size+2:=by rw[<-cC];simp
 have gJ:Out 0 0 w W1:=by rw[<-cC];exact((Out.refl 0 0 w).alloc _).alloc _
 have hy1:Box W1 w.heap.size 203 (.func (.yield l) #[] #[]):=by rw[<-cC];exact J0
 have lS:Box W1 (w.heap.size+1) 137 (.pointer (some ⟨s 8+1,0,none⟩)):=by rw[<-cC];exact heap_alloc2_new _ _ _
 rw[cC];clear c0 d0 d1 d2 d3 d4 d5 cC;have bM:=Q3 gJ;have HY1:=Q3 hy1;have HX1:=Q3 lS;have HS1:=Q3 hs1;clear gJ hy1 lS;refine z2w (gf:=205) (lb:=#[.pointer (some ⟨w.heap.size+1,0,none⟩)]) rfl (enters_of Tryz.func205 (by kernel_rfl) rfl) J (fun c W=>c=.ret/\Jx W) ?H ?done ?stop
 case H=>
  intro cX eN W2 jL;rw[hs1];have HR:=Q3 eN;have eH:Out 0 0 W1 W2:=by rw[jL];exact((Out.refl 0 0 W1).alloc _).alloc _
  have lD:W2.heap[w.heap.size+2]? = some (.deferred (some [])):=by rw[jL,<-hs1];exact J0
  have lX:W2.heap[w.heap.size+2+1]? = some (.loop (cX .ready none)):=by rw[jL,<-hs1];exact heap_alloc2_new _ _ _
  refine(z6f (lo:=s 8) (hi:=s 8+2) (b:=s 8+1) (n:=64*n) (g:=w.heap.size+1) (l:=w.heap.size+2+1)
   (fun p W=>I p W/\Box W w.heap.size 203 (.func (.yield l) #[] #[])/\Box W (w.heap.size+1) 137 (.pointer (some ⟨s 8+1,0,none⟩))/\W.heap[w.heap.size+2]? = some (.deferred (some []))/\W.heap[w.heap.size+2+1]? = some (.loop (cX .ready none)))
   (fun W=>J W/\W.heap[w.heap.size+2]? = some (.deferred (some []))/\W.heap[w.heap.size+2+1]? = some (.loop (cX .ready none)))
   (fun W=>Jx W/\W.heap[w.heap.size+2]? = some (.deferred (some []))/\W.heap[w.heap.size+2+1]? = some (.loop (cX .done (some .ret)))) ?hm1 ?hq1 ?hy1 ?he1 (w:=W2) ?hz1).mono ?_
  case hm1=>
   rintro p W ⟨a1,a2,a3,a4,a5⟩;obtain⟨b1,r,b2,b3,b4⟩:=HM.out p W a1;exact⟨b1,r.P,b2.places,a3⟩
  case hq1=>
   rintro p W W' ⟨a1,a2,a3,a4,a5⟩ o;exact⟨HQ.out p W W' 0 0 a1 o (.inr rfl),a2.kept o z0,a3.kept o z0,o.heap a4 z0,o.heap a5 z0⟩
  case hz1=>exact⟨HQ.out 0 W1 W2 0 0 (HQ.out 0 w W1 0 0 HI.out bM.out (.inr rfl)) eH (.inr rfl),HY1.out.kept eH z0,HX1.out.kept eH z0,lD,lX⟩
  case he1=>
   rintro p W S ⟨a1,a2,a3,a4,a5⟩ hS hn;obtain⟨b1,r,b2,b3,b4⟩:=HM.out p W a1;rw[hS.one b2.places] at hn;exact⟨HE.out p W r a1 b2 hn,a4,a5⟩
  case hy1=>
   rintro p W S k ⟨a1,a2,a3,a4,a5⟩ hS hn;obtain⟨b1,r,b2,b3,b4⟩:=HM.out p W a1;rw[hS.one b2.places] at hn;have hk:r.P k=true:=by
    rcases U4 r.P (64*n) p with ⟨e1,_⟩ | ⟨i,e1,_,_,e3,_⟩
    ·omega
    ·rw[show k=i from by omega];exact e3
   obtain⟨⟨kd,sz,se,tg⟩,hb⟩:=b3 k hk;have HYY:=Q3 (fun W' (o:Out (w.heap.size+2+1) (w.heap.size+2+1+1) W W')=>HY.out p W' r k _ (HQ.out p W W' _ _ a1 o (.inl (by omega))) (b2.kept o (.inl (by have:=HT.out;omega)) (.inl (by have:=HT.out;omega))) hn hb (by have:=Q7 a5;have:=o.size;omega));have A:=Q3 (And.intro a2 (And.intro a4 b4));have AX:=Q3 a3;have B2:=Q3 b2;have HB:=Q3 hb;have HL5:=Q3 a5;have oP:(0:Int)<=(k:Int):=by omega
   refine z2x HR.out a5 rfl ?_;clear a1 a2 a3 a4 a5 b1 b2 b3 b4 hS hn hk hb;gi_wp2;refine⟨HL5.out,?_⟩;intro W3 dU hl3;have dR:Out (w.heap.size+2+1) (w.heap.size+2+1+1) W W3.drew:=dU.drew;have B3:=B2.out.kept dR (.inl (by have:=HT.out;omega)) (.inl (by have:=HT.out;omega));obtain⟨d0,d1,d2,d3,d4,d5⟩:=B3.cells;have c0:=(A.out.1.kept dR (.inl (by omega))).cell;have c1:=(A.out.2.2.kept dR (.inl (by have:=A.out.2.2.lt;have:=B2.out.top;have:=HT.out;have:=HG.out;omega))).cell;have lW:=B3.look false (k:Int);rw[show z7f r.M (k:Int)=some (.agg #[.int .i64 (k:Int),.int .i64 kd,.int .i64 sz,.int .i64 se,.int .i64 tg]) from by unfold z7f;rw[HB.out];rfl] at lW;simp only[Option.getD_some,Bool.false_eq_true,if_false] at lW;obtain⟨fn,tmps,assign,body,hy,hR⟩:=HYY.out W3.drew dR;have pI:=Q3 ((z1k (m:=0) hR).mono (R':=fun e W4=>∃ bb:Bool,e=.returned (.bool bb)/\Sv w.heap.size 4 W3.drew W4/\(bb=true->I (k+1) W4)/\(bb=false->Jx W4)) (fun e W4 h=>q1d h));have hmx:Tryz.prog.follows .mixedOrders=true:=by kernel_rfl
   have bJ:=Q3 dR;have HL3:=Q3 hl3;unfold j0t at hy;clear hR dU dR B3 hl3;gi_wp2_with fail;gi_region_with_o (first | (refine⟨rfl,?_⟩;refine RoundIn.mono (F:=Fence.wide.inRound (w.heap.size+2+1)) pI.out ?_;rintro e W4 ⟨bb,rfl,jB,hI4,hx4⟩))
   all_goals
    have bL:=Q3 (jB);have bY:=Q3 (And.intro hI4 hx4);clear jB hI4 hx4;cases bb
    ·gi_wp2;refine⟨bL.out.heap HL3.out (by omega) (by omega),?_⟩;intro W5 cZ hl6;exact .inr ⟨rfl,HQX.out _ _ _ _ (bY.out.2 (by first | rfl | trivial)) cZ (by omega),cZ.heap (bL.out.heap ((bJ.out.heap A.out.2.1 (.inl (by omega)))) (by omega) (by omega)) (.inl (by omega)),hl6⟩
    ·gi_wp2;refine⟨bL.out.heap HL3.out (by omega) (by omega),?_⟩;intro W5 cZ hl6;exact .inl ⟨rfl,HQ.out _ _ _ _ _ (bY.out.1 (by first | rfl | trivial)) cZ (.inl (by omega)),(cZ.heap (bL.out.heap (A.out.1.kept bJ.out (.inl (by omega))) (by omega) (by omega)) (.inl (by omega))),(cZ.heap (bL.out.heap (AX.out.kept bJ.out (.inl (by omega))) (by omega) (by omega)) (.inl (by omega))),cZ.heap (bL.out.heap ((bJ.out.heap A.out.2.1 (.inl (by omega)))) (by omega) (by omega)) (.inl (by omega)),hl6⟩
  ·rintro e W ⟨hv,⟨a1,a2,a3⟩ | ⟨a1,a2,a3⟩⟩
   ·exact⟨hv,a2,.inl ⟨a1,a3⟩⟩
   ·exact⟨hv,a2,.inr ⟨.ret,⟨rfl,a1⟩,a3⟩⟩
 case done=>
  intro W W' hJ ho hd;have HJ:=Q3 (HQJ.out W W' _ _ hJ ho (by omega));have HD:=Q3 hd;clear hJ ho hd;gi_wp2;refine⟨by simp,.inl ⟨_,_,rfl,run_takeDeferred HD.out,?_⟩⟩;exact⟨_,results_none rfl _ _ _,⟨_,rfl⟩,.inl (HQJ.out _ _ _ _ HJ.out (W6 _ _ _) (by omega))⟩
 case stop=>
  rintro c W W' ⟨rfl,hJ⟩ ho hd;have HJ:=Q3 (HQX.out W W' _ _ hJ ho (by omega));have HD:=Q3 hd;clear hJ ho hd;gi_wp2;refine⟨by simp,.inl ⟨_,_,rfl,run_takeDeferred HD.out,?_⟩⟩;exact⟨_,results_none rfl _ _ _,⟨_,rfl⟩,.inr (HQX.out _ _ _ _ HJ.out (W6 _ _ _) (by omega))⟩
end Go.Proofs.YtjgnogflgoihfaaGreatDoor
