import Derived.Test.YtjbbkeoolodeaabGreatDoorB31
import Derived.Test.YtjbbkeoolodeaabGreatDoorB18
import Derived.Test.YtjbbkeoolodeaabGreatDoorB23
import Derived.Test.YtjbbkeoolodeaabGreatDoorB16
import Derived.Test.YtjbbkeoolodeaabGreatDoorB09
import Derived.Test.YtjbbkeoolodeaabGreatDoorB10
namespace Go.Proofs.YtjbbkeoolodeaabGreatDoor
open Go.RowKit
set_option linter.unusedVariables false
set_option maxRecDepth 100000
set_option maxHeartbeats 16000000
set_option linter.unusedSimpArgs false
section
variable {w:World} {lo hi n cw co:Nat} {s:Nat->Nat} {st:Sp}
theorem z2n (h:RfAt w lo hi s n cw co st) (hI:Inv n st) (a:Int):Calls Tryz.prog 70 #[.pointer (some ⟨s 0,0,none⟩),.int .i64 a] w fun e w'=>e=.returned (z3l (z8k (Z6 n st) a) (z3w (Z6 n st) a))/\Out 0 0 w w':=by
 by_cases hb:0<=a/\Q7 (st.O a.toNat)=true
 ·obtain⟨k,rfl⟩:∃ k:Nat,a=(k:Int):=⟨a.toNat,by omega⟩
  have e:((k:Nat):Int).toNat=k:=by omega
  rw[e] at hb;have hm:(Z6 n st).M (k:Int)=some (st.O k):=by
   show obM st (k:Int)=_
   unfold obM;rw[e,if_pos hb]
  refine(z9z h (hI.objs k hb.2).1 hb.2).mono ?_;rintro e1 w' ⟨rfl,ho⟩;refine⟨?_,ho⟩;unfold z8k z3w;rw[hm,e]
  show Ending.returned (if st.W k=_ then _ else _)=.returned (z3l (if st.W k=X9 k (st.O k).1 (st.O k).2.1 then 0 else 21) (if st.W k=X9 k (st.O k).1 (st.O k).2.1 then 0 else k))
  split <;> rfl
 ·have hm:(Z6 n st).M a=none:=by
   show obM st a=_
   unfold obM;rw[if_neg hb]
  refine(q0i h fun k e hk=>?_).mono ?_
  ·cases hh:Q7 (st.O k) with
   | false=>rfl
   | true=>exact absurd ⟨by omega,by rw[e,show ((k:Nat):Int).toNat=k from by omega];exact hh⟩ hb
  ·rintro e1 w' ⟨rfl,ho⟩;refine⟨?_,ho⟩;unfold z8k z3w;rw[hm]
theorem z8e (h:RfAt w lo hi s n cw co st) (hI:Inv n st) (a i:Int):Calls Tryz.prog 62 #[.pointer (some ⟨s 0,0,none⟩),.int .i64 a,.int .i64 i] w fun e w'=>e=.returned (z3l (z4v (Z6 n st) a i) (z3w (Z6 n st) a))/\Out 0 0 w w':=by
 have h2:=h.n2;have o1:Out 0 0 w (w.alloc (.cells #[.int .i64 0,.int .i64 0] 56)):=(Out.refl 0 0 w).alloc _;have f1:(w.alloc (.cells #[.int .i64 0,.int .i64 0] 56)).heap[w.heap.size]? = some (.cells #[.int .i64 0,.int .i64 0] 56 (0,0)):=heap_alloc_new _ _;have hC:=z2n (h.quiet o1) hI a;obtain⟨e1,he1⟩:∃ e1,z8k (Z6 n st) a=e1:=⟨_,rfl⟩
 obtain⟨e2,he2⟩:∃ e2,z3w (Z6 n st) a=e2:=⟨_,rfl⟩
 obtain⟨e3,he3⟩:∃ e3,z4v (Z6 n st) a i=e3:=⟨_,rfl⟩
 rw[he1,he2] at hC;unfold z3l at hC;rw[he2,he3];have HC:=Z0 hC;have H1:=Z0 (And.intro o1 f1);have HR:=Z0 (And.intro h hI);have HE:=Z0 (And.intro he1 (And.intro he2 he3));clear h hI hC o1 f1 he1 he2 he3;go_enter Tryz.func62,Tryz.ntmps62
 go_wp2_with fail;refine HC.out.mono ?_;rintro e w1 ⟨rfl,ho⟩;have fF:=ho.heap H1.out.2 z0;have oB:Out 0 0 w1 (w1.alloc (.cells #[.int .i64 e1,.int .i64 e2] 56)):=(Out.refl 0 0 w1).alloc _;have fB:=oB.heap fF z0;obtain⟨F,hF⟩:∃ F,w.heap.size=F:=⟨_,rfl⟩
 rw[hF] at fF fB ⊢;have hlt:=Q4 fF;have HFF:=Z0 fB;have HO:=Z0 ((H1.out.1.trans ho).trans oB);have HSz:Hid (w.heap.size=F):=hF;obtain⟨x0,x1,x2,x3⟩:=Z7 fB;have hne:w1.heap.size ≠ F:=by omega
 by_cases h0:e1=0
 ·subst h0;have hRw:=HR.out.1.quiet HO.out;obtain⟨b,hb,hM⟩:∃ b,(Z6 n st).M a=some b/\e2=0:=by
   have q1:=HE.out.1;have q2:=HE.out.2.1;unfold z8k at q1;unfold z3w at q2;cases hm:(Z6 n st).M a with
   | none=>rw[hm] at q1;cases q1
   | some b=>
    rw[hm] at q1 q2;dsimp only at q1 q2;refine⟨b,rfl,?_⟩;split at q1
    ·next hc=>rw[if_pos hc] at q2;omega
    ·cases q1
  subst hM;obtain⟨k,rfl,hk⟩:=j2l HR.out.2 a b hb;have hb':Q7 (st.O k)=true/\b=st.O k:=by
   have:obM st (k:Int)=some b:=hb;unfold obM at this;rw[show ((k:Nat):Int).toNat=k from by omega] at this;split at this
   ·next hc=>injection this with this;exact⟨hc.2,this.symm⟩
   ·cases this
  obtain⟨o0,p1,p2,p3,p4⟩:=q2o (st:=st) hb'.1;have c2:=hRw.cells.2.2.1;obtain⟨M,hM⟩:∃ M,64*n=M:=⟨_,rfl⟩
  rw[hM] at c2;have d2:=hRw.ro.cell (i:=k*5+2) (by omega);rw[p2,<-hb'.2] at d2;obtain⟨z,hz⟩:∃ z,b.2.1=z:=⟨_,rfl⟩
  rw[hz] at d2;have k0:(0:Int)<=(k:Int):=by omega
  have k1:(k:Int)<(M:Int):=by omega
  have k2:(M:Int)<=262144:=by omega
  have hq:e3=if i<1\/z<=i then 23 else 0:=by
   rw[<-HE.out.2.2];have q1:=HE.out.1;unfold z8k at q1;unfold z4v;rw[hb] at q1 ⊢;dsimp only at q1 ⊢;split at q1
   ·next hc=>rw[if_pos hc,hz]
   ·cases q1
  have HQ:=Z0 hq;clear fF fB oB ho hF hRw hb hk hb' o0 p1 p2 p3 p4 hM hz hlt h2;by_cases hi1:i<1
  ·go_wp2;refine z9r (g:=F) Tryz.results62 rfl rfl (z2i HFF.out _ _) ⟨by rw[HQ.out,if_pos (.inl hi1)],?_⟩;exact Z9 HO.out (((Out.refl F (F+1) _).setCell (p:=⟨F,0,none⟩) z1 _).setCell (p:=⟨F,1,none⟩) z1 _) (.inl (by have:=HSz.out;omega))
  ·by_cases hi2:z<=i
   ·go_wp2;refine z9r (g:=F) Tryz.results62 rfl rfl (z2i HFF.out _ _) ⟨by rw[HQ.out,if_pos (.inr hi2)],?_⟩;exact Z9 HO.out (((Out.refl F (F+1) _).setCell (p:=⟨F,0,none⟩) z1 _).setCell (p:=⟨F,1,none⟩) z1 _) (.inl (by have:=HSz.out;omega))
   ·go_wp2;refine z9r (g:=F) Tryz.results62 rfl rfl (z2i HFF.out _ _) ⟨by rw[HQ.out,if_neg (by omega)],?_⟩;exact Z9 HO.out (((Out.refl F (F+1) _).setCell (p:=⟨F,0,none⟩) z1 _).setCell (p:=⟨F,1,none⟩) z1 _) (.inl (by have:=HSz.out;omega))
 ·have hq:e3=e1:=by
   rw[<-HE.out.2.2,<-HE.out.1];exact wrdA _ _ _ (by rw[HE.out.1];exact h0)
  have HQ:=Z0 hq;have h0b:(e1 != 0)=true:=by simpa using h0
  clear fF fB oB ho hF hq hlt h2;go_wp2;refine z9r (g:=F) Tryz.results62 rfl rfl (z2i HFF.out _ _) ⟨by rw[HQ.out],?_⟩;exact Z9 HO.out (((Out.refl F (F+1) _).setCell (p:=⟨F,0,none⟩) z1 _).setCell (p:=⟨F,1,none⟩) z1 _) (.inl (by have:=HSz.out;omega))
end
section
variable {w:World} {lo hi n cw co:Nat} {s:Nat->Nat} {st:Sp}
theorem z5r (h:RfAt w lo hi s n cw co st) (hI:Inv n st) (a i v:Int):Calls Tryz.prog 20 #[.pointer (some ⟨s 0,0,none⟩),.int .i64 a,.int .i64 i,.int .i64 v] w fun e w'=>e=.returned (z3l (z4v (Z6 n st) a i) (z3w (Z6 n st) a))/\RfAt w' lo hi s n cw co { st with W:=wrW (Z6 n st) a i v }/\Out lo hi w w':=by
 have h2:=h.n2;have ht:=h.top;have o1:Out 0 0 w (w.alloc (.cells #[.int .i64 0,.int .i64 0] 56)):=(Out.refl 0 0 w).alloc _;have f1:(w.alloc (.cells #[.int .i64 0,.int .i64 0] 56)).heap[w.heap.size]? = some (.cells #[.int .i64 0,.int .i64 0] 56 (0,0)):=heap_alloc_new _ _;have hC:=z8e (h.quiet o1) hI a i;obtain⟨e2,he2⟩:∃ e2,z3w (Z6 n st) a=e2:=⟨_,rfl⟩
 obtain⟨e3,he3⟩:∃ e3,z4v (Z6 n st) a i=e3:=⟨_,rfl⟩
 rw[he2,he3] at hC;unfold z3l at hC;have HC:=Z0 hC;have hW:Hid (wrW (Z6 n st) a i v=if e3=0 then z5b st.W (a+i).toNat v else st.W):=by
  show _=_
  unfold wrW;rw[he3];rfl
 rw[he2,he3];have H1:=Z0 (And.intro o1 f1);have HR:=Z0 (And.intro h hI);have HE:=Z0 (And.intro he2 he3);have HT:=Z0 ht;clear h hI hC o1 f1 he2 he3 ht;go_enter Tryz.func20,Tryz.ntmps20
 go_wp2_with fail;refine HC.out.mono ?_;rintro e w1 ⟨rfl,ho⟩;have fF:=ho.heap H1.out.2 (.inr (Nat.zero_le _));have oB:Out 0 0 w1 (w1.alloc (.cells #[.int .i64 e3,.int .i64 e2] 56)):=(Out.refl 0 0 w1).alloc _;have fB:=oB.heap fF (.inr (Nat.zero_le _));have fN:(w1.alloc (.cells #[.int .i64 e3,.int .i64 e2] 56)).heap[w1.heap.size]? = some (.cells #[.int .i64 e3,.int .i64 e2] 56 (0,0)):=heap_alloc_new _ _;obtain⟨F,hF⟩:∃ F,w.heap.size=F:=⟨_,rfl⟩
 rw[hF] at fF fB ⊢;have hlt:=Q4 fF;have HO:=Z0 ((H1.out.1.trans ho).trans oB);have hs1:=HR.out.1.inn 1 (by omega);have htop:=HT.out;have HSz:Hid (w.heap.size=F/\F<w1.heap.size/\s 1<F/\hi<=F):=by show _/\_;omega
 have hh:=HR.out.1.quiet HO.out;by_cases h0:e3=0
 ·subst h0;obtain⟨hA,j,hj,hjn,ha0,hi1⟩:=wrd0 (z7e HR.out.2) HE.out.2;have he:e2=0:=by rw[<-HE.out.1];exact hA
  subst he;have c0:=hh.cells.1;obtain⟨M,hM⟩:∃ M,64*n=M:=⟨_,rfl⟩
  rw[hM] at c0;have d0:=hh.rw.cell (i:=j) hjn;have d1:=hh.rw.frozen j;obtain⟨y,hy⟩:∃ y,st.W j=y:=⟨_,rfl⟩
  (try dsimp only at d0);rw[hy] at d0;have HSet:=Z0 (hh.setW hjn v);have oS:Out (s 1) (s 1+1) (w1.alloc (.cells #[.int .i64 0,.int .i64 0] 56)) ((w1.alloc (.cells #[.int .i64 0,.int .i64 0] 56)).setCell ⟨s 1,j,none⟩ (.int .i64 v)):=(Out.refl _ _ _).setCell (p:=⟨s 1,j,none⟩) (.inl ⟨Nat.le_refl _,Nat.lt_succ_self _⟩) _;have fS:=oS.heap fB (.inr (by have:=HSz.out;omega));have fT:=oS.heap fN (.inr (by have:=HSz.out;omega));obtain⟨x0,x1,x2,x3⟩:=Z7 fS;obtain⟨y0,y1,y2,y3⟩:=Z7 fT;obtain⟨z0,z1,z2,z3⟩:=Z7 fN;have j0:(0:Int)<=(j:Int):=by omega
  have j1:(j:Int)<(M:Int):=by omega
  have j2:(M:Int)<=262144:=by omega
  have HFS:=Z0 fS;have HJ:Hid (wrW (Z6 n st) a i v=z5b st.W j v):=by
   show _=_
   rw[hW.out,if_pos rfl,hj,show ((j:Nat):Int).toNat=j from by omega]
  clear fF fB fN fS fT oB oS ho hF hlt hs1 htop hh hA hjn hM hy ha0 hi1 h2;go_wp2;refine z9r (g:=F) Tryz.results20 rfl rfl (z2i HFS.out _ _) ⟨rfl,?_,?_⟩
  ·rw[HJ.out];exact HSet.out.1.kept (((Out.refl F (F+1) _).setCell (p:=⟨F,0,none⟩) (.inl ⟨Nat.le_refl _,Nat.lt_succ_self _⟩) _).setCell (p:=⟨F,1,none⟩) (.inl ⟨Nat.le_refl _,Nat.lt_succ_self _⟩) _) (.inl (by have:=HSz.out;omega))
  ·exact Z9 ((HO.out.any _ _).trans HSet.out.2) (((Out.refl F (F+1) _).setCell (p:=⟨F,0,none⟩) (.inl ⟨Nat.le_refl _,Nat.lt_succ_self _⟩) _).setCell (p:=⟨F,1,none⟩) (.inl ⟨Nat.le_refl _,Nat.lt_succ_self _⟩) _) (.inl (by have:=HSz.out;omega))
 ·have h0b:(e3 == 0)=false:=by simpa using h0
  obtain⟨x0,x1,x2,x3⟩:=Z7 fB;obtain⟨z0,z1,z2,z3⟩:=Z7 fN;have HFS:=Z0 fB;have HJ:Hid (wrW (Z6 n st) a i v=st.W):=by show _=_;rw[hW.out,if_neg h0]
  have HH:=Z0 hh;clear fF fB fN oB ho hF hlt hs1 htop hh h2;go_wp2;refine z9r (g:=F) Tryz.results20 rfl rfl (z2i HFS.out _ _) ⟨rfl,?_,?_⟩
  ·rw[HJ.out];exact HH.out.kept (((Out.refl F (F+1) _).setCell (p:=⟨F,0,none⟩) (.inl ⟨Nat.le_refl _,Nat.lt_succ_self _⟩) _).setCell (p:=⟨F,1,none⟩) (.inl ⟨Nat.le_refl _,Nat.lt_succ_self _⟩) _) (.inl (by have:=HSz.out;omega))
  ·exact(Z9 HO.out (((Out.refl F (F+1) _).setCell (p:=⟨F,0,none⟩) (.inl ⟨Nat.le_refl _,Nat.lt_succ_self _⟩) _).setCell (p:=⟨F,1,none⟩) (.inl ⟨Nat.le_refl _,Nat.lt_succ_self _⟩) _) (.inl (by have:=HSz.out;omega))).any _ _
end
end Go.Proofs.YtjbbkeoolodeaabGreatDoor
namespace Go.Proofs.YtjbbkeoolodeaabGreatDoor
open Go.RowKit
attribute [local go_sem] Oper.semAt_some
set_option linter.unusedVariables false
set_option maxRecDepth 100000
set_option maxHeartbeats 16000000
set_option linter.unusedSimpArgs false
def z1t (r:Raw) (k:Nat):Bool:=r.P k && (match r.M (k:Int) with | some b=>!(r.W k == X9 k b.1 b.2.1) | none=>false)
theorem z1g {fn:Func} {p:Tmp} {ty:TypeId} (h:fn.results = #[.cell p ty]) (tmps:Array Value) (P:Program) (w:World) :
  (results fn tmps).run P w=((asAddr (tmps.getD p undef)).run P w).andThen fun ad w1=>((loadVar ty ad).run P w1):=by
 unfold results;simp[h,Sem.run_bind,Result.andThen]
theorem z6p {W:World} {g:Nat} {v:Int} (hx:Box W g 3 (.int .i64 v)):(loadVar 3 ⟨g,0,none⟩).run Tryz.prog W=.ok (.int .i64 v) W:=by
 have c0:=hx.cell;go_simp
section
variable {w:World} {lo hi n cap:Nat} {s:Nat->Nat} {r:Raw}
theorem z8b (h:RawAt w lo hi s n cap r) (hT:z8q r) :
  Calls Tryz.prog 80 #[.pointer (some ⟨s 14,0,none⟩)] w fun e w'=>e=.returned (.int .i64 (nxr (z1t r) (64*n) 0))/\Out 0 0 w w':=by
 have HR0:=Z0 h;have HTo:=Z0 hT;have HT:Hid (hi<=w.heap.size/\4<=w.heap.size/\4<=lo/\n<=4096/\1<=n):=⟨h.top,h.tab.lt,h.glob,h.n2,h.n1⟩
 have HL:=Z0 (fun w=>z4i (s 14) w);clear h hT;refine(callsIn_wide (n:=0)).1 ?_;refine callsIn_of_wp_marks Tryz.func80 rfl trivial ?_ rfl;simp only[Tryz.ntmps80,List.size_toArray,List.length_cons,List.length_nil,Nat.reduceAdd,Nat.reduceSub,Array.replicate_succ,Array.replicate_zero,List.push_toArray,List.append_toArray,List.nil_append,List.cons_append];gi_wp2_with (refine⟨trivial,rfl,?_⟩;gi_at_call 77;refine(callsIn_wide.2 (HL.out _)).mono ?_;rintro e w1 ⟨rfl,rfl⟩);obtain⟨W1,hW1⟩:∃ W1,((w.alloc (.cells #[.pointer (some ⟨s 14,0,none⟩)] 34)).alloc (.cells #[.int .i64 0] 3)).alloc (.cells #[.pointer (some ⟨s 14,0,none⟩)] 34)=W1:=⟨_,rfl⟩
 obtain⟨G,hG⟩:∃ G,w.heap.size=G:=⟨_,rfl⟩
 have hs1:W1.heap.size=G+3:=by rw[<-hW1,<-hG];simp
 have ho1:Out 0 0 w W1:=by rw[<-hW1];exact((((Out.refl 0 0 w).alloc _).alloc _).alloc _)
 have hy1:Box W1 G 34 (.pointer (some ⟨s 14,0,none⟩)):=by rw[<-hW1,<-hG];exact Box.alloc (w:=(w.alloc (.cells #[.pointer (some ⟨s 14,0,none⟩)] 34)).alloc (.cells #[.int .i64 0] 3)) K4 _
 have hx1:Box W1 (G+1) 3 (.int .i64 0):=by rw[<-hW1,<-hG];exact Box.alloc (w:=(w.alloc (.cells #[.pointer (some ⟨s 14,0,none⟩)] 34)).alloc (.cells #[.int .i64 0] 3)) (heap_alloc2_new _ _ _) _
 have hz1:Box W1 (G+1+1) 34 (.pointer (some ⟨s 14,0,none⟩)):=by
  rw[<-hW1,<-hG];have:=heap_alloc_new ((w.alloc (.cells #[.pointer (some ⟨s 14,0,none⟩)] 34)).alloc (.cells #[.int .i64 0] 3)) (.cells #[.pointer (some ⟨s 14,0,none⟩)] 34);rw[World.size_alloc,World.size_alloc] at this;exact this
 rw[hW1,hG];rw[hG] at HT;have HGw:=Z0 hG;have HO1:=Z0 ho1;have HY1:=Z0 hy1;have HX1:=Z0 hx1;have HZ1:=Z0 hz1;clear hW1 ho1 hx1 hz1 hy1 hG;refine q5b (lo:=lo) (hi:=hi) (n:=n) (cap:=cap) (g:=G+1+1) (s:=s) rfl rfl
  (fun p W=>p<=64*n/\RawAt W lo hi s n cap r/\(∀ j,j<p->z1t r j=false)/\Box W G 34 (.pointer (some ⟨s 14,0,none⟩))/\Box W (G+1) 3 (.int .i64 0)/\Box W (G+1+1) 34 (.pointer (some ⟨s 14,0,none⟩))/\Out 0 0 w W)
  (fun W=>(∀ j,j<64*n->z1t r j=false)/\Box W (G+1) 3 (.int .i64 0)/\Out 0 0 w W)
  (fun c W=>c=.ret/\Box W (G+1) 3 (.int .i64 (nxr (z1t r) (64*n) 0))/\Out 0 0 w W) ?hm1 ?hq1 ?hqk1 ?hqx1 ?hy1 ?he1 ?hz1 ?hdone1 ?hstop1
 case hm1=>
  rintro p W ⟨hp,a1,a2,a3,a4,a5,a6⟩;exact⟨hp,_,a1,HTo.out,a5⟩
 case hq1=>
  rintro p W W' x y ⟨hp,a1,a2,a3,a4,a5,a6⟩ o hx;have hT:=HT.out;have hgw:=HGw.out;exact⟨hp,a1.kept o (by omega) (by omega),a2,a3.kept o (by omega),a4.kept o (by omega),a5.kept o (by omega),Z9 a6 o (by omega)⟩
 case hqk1=>
  rintro W W' x y ⟨a1,a2,a3⟩ o hx;have hT:=HT.out;have hgw:=HGw.out;exact⟨a1,a2.kept o (by omega),Z9 a3 o (by omega)⟩
 case hqx1=>
  rintro c W W' x y ⟨a1,a2,a3⟩ o hx;have hT:=HT.out;have hgw:=HGw.out;exact⟨a1,a2.kept o (by omega),Z9 a3 o (by omega)⟩
 case hz1=>exact⟨Nat.zero_le _,HR0.out.quiet HO1.out,fun j h=>absurd h (by omega),HY1.out,HX1.out,HZ1.out,HO1.out⟩
 case he1=>
  rintro p W rr ⟨hp,a1,a2,a3,a4,a5,a6⟩ hr hk;obtain⟨eP,eM⟩:=z2j a1 hr;rw[<-eP] at hk;rcases Q1 r.P (64*n) p with ⟨_,hz⟩ | ⟨i,hi',_⟩
  ·refine⟨fun j hj=>?_,a4,a6⟩;by_cases e:j<p
   ·exact a2 j e
   ·unfold z1t;rw[hz j (by omega) hj];rfl
  ·have:(-1:Int)=i:=hk.symm.trans hi';omega
 case hy1=>
  rintro p W rr k b ⟨hp,a1,a2,a3,a4,a5,a6⟩ hr hk hb hsz;obtain⟨eP,eM⟩:=z2j a1 hr;rw[<-eP] at hk;rw[<-eM] at hb;obtain⟨hpk,hkn,hPk,hz⟩:p<=k/\k<64*n/\r.P k=true/\∀ j,p<=j->j<k->r.P j=false:=by
   rcases Q1 r.P (64*n) p with ⟨e1,_⟩ | ⟨i,e1,e2,e3,e4,e5⟩
   ·have:(-1:Int)=k:=e1.symm.trans hk;omega
   ·have:i=k:=by have:(i:Int)=k:=e1.symm.trans hk;omega
    subst this;exact⟨e3 hp,e2,e4,e5⟩
  rw[hs1] at hsz ⊢;have hbef:∀ j,j<k->z1t r j=false:=fun j hj=>by
   by_cases e:j<p
   ·exact a2 j e
   ·unfold z1t;rw[hz j (by omega) hj];rfl
  obtain⟨b1,b2,b3,b4⟩:=b;have hbk:z1t r k = !(r.W k == X9 k b1 b2):=by unfold z1t;rw[hPk,hb];rfl
  have A:=Z0 (And.intro a1 (And.intro a3 (And.intro a4 (And.intro a5 a6))));have HK:=Z0 (And.intro hkn hsz);have HBf:=Z0 hbef;have HBk:=Z0 hbk;clear a1 a2 a3 a4 a5 a6 hr hk hb eP eM hz hPk hp hpk hkn hsz hbef hbk;unfold q6a;dsimp only at A ⊢;obtain⟨WA,hWA⟩:∃ WA,W.alloc (bo (k:Int) b1 b2 b3 b4)=WA:=⟨_,rfl⟩
  have HBA:Hid (WA.heap[W.heap.size]? = some (bo (k:Int) b1 b2 b3 b4)):=by rw[<-hWA];exact heap_alloc_new _ _
  have HOA:Hid (Out 0 0 W WA):=by rw[<-hWA];exact(Out.refl 0 0 W).alloc _
  obtain⟨H,hH⟩:∃ H,W.heap.size=H:=⟨_,rfl⟩
  rw[hH] at HK HBA;unfold bo at hWA HBA;gi_wp2;(try rw[hWA]);refine⟨HOA.out.any _ _,?_⟩;(try rw[hH]);clear hWA hH;intro W2 o2;have hT:=HT.out;have hkk:=HK.out;have hgw:=HGw.out;have HR2:=Z0 ((A.out.1.quiet HOA.out).kept o2 (.inl (by omega)) (.inl (by omega)));have HY2:=Z0 ((A.out.2.1.kept HOA.out z0).kept o2 (.inl (by omega)));have HX2:=Z0 ((A.out.2.2.1.kept HOA.out z0).kept o2 (.inl (by omega)));have HZ2:=Z0 ((A.out.2.2.2.1.kept HOA.out z0).kept o2 (.inl (by omega)));have HB2:=Z0 (o2.heap HBA.out (.inr (by omega)));have HO2:=Z0 (Z9 (A.out.2.2.2.2.trans HOA.out) o2 (.inl (by omega)));have c0:=HY2.out.cell;obtain⟨q0,q1,q2,q3,q4⟩:=V7 HB2.out;have HHd:=Z0 (z8z HR2.out (a:=k) hkk.1 b1 b2 b3 b4);rw[show (r.W k == X9 (k:Int) b1 b2) = !(z1t r k) from by rw[HBk.out,Bool.not_not]] at HHd;clear o2 hT hkk hgw A;cases hbad:z1t r k with
  | false=>
   rw[hbad] at HHd;have HBd:=Z0 hbad;clear hbad;gi_wp2_with (refine⟨trivial,rfl,?_⟩;gi_at_call 121;refine(callsIn_wide.2 HHd.out).mono ?_;rintro e w3 ⟨rfl,ho3⟩);refine⟨ho3.any _ _,by have:=HK.out;omega,HR2.out.quiet ho3,fun j hj=>?_,HY2.out.kept ho3 z0,HX2.out.kept ho3 z0,HZ2.out.kept ho3 z0,Z9 HO2.out ho3 (.inr rfl)⟩;by_cases e:j=k
   ·rw[e];exact HBd.out
   ·exact HBf.out j (by omega)
  | true=>
   rw[hbad] at HHd;have HBd:=Z0 hbad;clear hbad;gi_wp2_with (refine⟨trivial,rfl,?_⟩;gi_at_call 121;refine(callsIn_wide.2 HHd.out).mono ?_;rintro e w3 ⟨rfl,ho3⟩;have HO3:=Z0 ho3;have hx3:=HX2.out.kept ho3 z0;have HX3:=Z0 hx3;have e0:=hx3.cell;have e1:=hx3.frozen;clear q0 q1 q2 q3 q4;obtain⟨q0,q1,q2,q3,q4⟩:=V7 (ho3.heap HB2.out z0);clear ho3 hx3);have hset:=(Out.refl (G+1) (G+2) w3).setCell (p:=⟨G+1,0,none⟩) z1 (.int .i64 (k:Int));have hbx:=HX3.out.set (.int .i64 (k:Int));have hgw:=HGw.out;have hnx:nxr (z1t r) (64*n) 0=(k:Int):=z3n HK.out.1 (Nat.zero_le _) HBd.out (fun j _ hj=>HBf.out j hj);exact⟨(HO3.out.any 0 (G+3)).trans (hset.wide (Nat.zero_le _) (by omega)),rfl,by rw[hnx];exact hbx,Z9 (Z9 HO2.out HO3.out (.inr rfl)) hset (.inl (by omega))⟩
 case hstop1=>
  rintro c W ⟨rfl,a2,a3⟩ hd;rw[hs1] at hd ⊢;have HD:=Z0 hd;have HX:=Z0 a2;have HO:=Z0 a3;clear a2 a3 hd;gi_wp2;have hgw:=HGw.out;have hT:=HT.out;refine⟨by simp,.inl ⟨_,_,rfl,run_takeDeferred HD.out,?_⟩⟩;have hx:=HX.out.kept (Q2 W (G+3) (.deferred none)) (.inl (by omega));refine⟨_,(z1g rfl _ _ _).trans ?_,rfl,Z9 HO.out (Q2 _ _ _) (by omega)⟩;exact z6p hx
 case hdone1=>
  rintro W ⟨a1,a2,a3⟩ hd;rw[hs1] at hd ⊢;have HD:=Z0 hd;have HX:=Z0 a2;have HO:=Z0 a3;have HN:=Z0 a1;have c0:=a2.cell;have c1:=a2.frozen;clear a1 a2 a3 hd;gi_wp2;have hgw:=HGw.out;have hT:=HT.out;have hset:=(Out.refl (G+1) (G+2) W).setCell (p:=⟨G+1,0,none⟩) z1 (.int .i64 (-1));refine⟨by simp,.inl ⟨_,_,rfl,run_takeDeferred (hset.heap HD.out (by omega)),?_⟩⟩;have hx:=(HX.out.set (.int .i64 (-1))).kept (Q2 _ (G+3) (.deferred none)) (.inl (by omega));refine⟨.int .i64 (-1),(z1g rfl _ _ _).trans ?rs,?_,Z9 (Z9 HO.out hset (by omega)) (Q2 _ _ _) (by omega)⟩
  case rs=>exact z6p hx
  rcases Q1 (z1t r) (64*n) 0 with ⟨e1,_⟩ | ⟨i,e1,e2,e3,e4,e5⟩
  ·rw[e1]
  ·rw[HN.out i e2] at e4;cases e4
end
end Go.Proofs.YtjbbkeoolodeaabGreatDoor
namespace Go.Proofs.YtjbbkeoolodeaabGreatDoor
open Go.RowKit
attribute [local go_sem] Oper.semAt_some
set_option linter.unusedVariables false
set_option maxRecDepth 100000
set_option maxHeartbeats 16000000
set_option linter.unusedSimpArgs false
def z1m (n:Nat) (r:Raw) (c k:Nat):Bool:=r.F c k && !(r.W k == Y7 (nxr (r.F c) (64*n) (k+1)))
theorem q0g {w:World} {lo hi n cap:Nat} {s:Nat->Nat} {r:Raw} (h:RawAt w lo hi s n cap r) {c:Nat} (hc:c<8) :
  Calls Tryz.prog 81 #[.pointer (some ⟨s 14,0,none⟩),.int .i64 (c:Int)] w fun e w'=>e=.returned (.int .i64 (nxr (z1m n r c) (64*n) 0))/\Out 0 0 w w':=by
 have HR0:=Z0 h;have HC:=Z0 hc;have HT:Hid (hi<=w.heap.size/\4<=w.heap.size/\4<=lo/\n<=4096):=⟨h.top,h.tab.lt,h.glob,h.n2⟩
 have HL:=Z0 (fun w=>q0x (s 14) (c:Int) w);clear h hc;refine(callsIn_wide (n:=0)).1 ?_;refine callsIn_of_wp_marks Tryz.func81 rfl trivial ?_ rfl;simp only[Tryz.ntmps81,List.size_toArray,List.length_cons,List.length_nil,Nat.reduceAdd,Nat.reduceSub,Array.replicate_succ,Array.replicate_zero,List.push_toArray,List.append_toArray,List.nil_append,List.cons_append];gi_wp2_with (refine⟨trivial,rfl,?_⟩;gi_at_call 128;refine(callsIn_wide.2 (HL.out _)).mono ?_;rintro e w1 ⟨rfl,rfl⟩);obtain⟨W1,hW1⟩:∃ W1,(((w.alloc (.cells #[.pointer (some ⟨s 14,0,none⟩)] 34)).alloc (.cells #[.int .i64 0] 3)).alloc (.cells #[.pointer (some ⟨s 14,0,none⟩)] 34)).alloc (.cells #[.int .i64 (c:Int)] 3)=W1:=⟨_,rfl⟩
 obtain⟨G,hG⟩:∃ G,w.heap.size=G:=⟨_,rfl⟩
 have hs1:W1.heap.size=G+4:=by rw[<-hW1,<-hG];simp
 have ho1:Out 0 0 w W1:=by rw[<-hW1];exact(((((Out.refl 0 0 w).alloc _).alloc _).alloc _).alloc _)
 have hy1:Box W1 G 34 (.pointer (some ⟨s 14,0,none⟩)):=by
  rw[<-hW1,<-hG];exact Box.alloc (Box.alloc (w:=(w.alloc (.cells #[.pointer (some ⟨s 14,0,none⟩)] 34)).alloc (.cells #[.int .i64 0] 3)) K4 _) _
 have hr1:Box W1 (G+1) 3 (.int .i64 0):=by
  rw[<-hW1,<-hG];exact Box.alloc (Box.alloc (w:=(w.alloc (.cells #[.pointer (some ⟨s 14,0,none⟩)] 34)).alloc (.cells #[.int .i64 0] 3)) (heap_alloc2_new _ _ _) _) _
 have hx1:Box W1 (G+1+1) 34 (.pointer (some ⟨s 14,0,none⟩)):=by
  have:=heap_alloc_new ((w.alloc (.cells #[.pointer (some ⟨s 14,0,none⟩)] 34)).alloc (.cells #[.int .i64 0] 3)) (.cells #[.pointer (some ⟨s 14,0,none⟩)] 34);rw[World.size_alloc,World.size_alloc] at this;rw[<-hW1,<-hG];exact Box.alloc (w:=((w.alloc (.cells #[.pointer (some ⟨s 14,0,none⟩)] 34)).alloc (.cells #[.int .i64 0] 3)).alloc (.cells #[.pointer (some ⟨s 14,0,none⟩)] 34)) this _
 have hz1:Box W1 (G+1+1+1) 3 (.int .i64 (c:Int)):=by
  have:=heap_alloc_new (((w.alloc (.cells #[.pointer (some ⟨s 14,0,none⟩)] 34)).alloc (.cells #[.int .i64 0] 3)).alloc (.cells #[.pointer (some ⟨s 14,0,none⟩)] 34)) (.cells #[.int .i64 (c:Int)] 3);rw[World.size_alloc,World.size_alloc,World.size_alloc] at this;rw[<-hW1,<-hG];exact this
 rw[hW1,hG];rw[hG] at HT;have HGw:=Z0 hG;have HO1:=Z0 ho1;have HY1:=Z0 hy1;have HX1:=Z0 hx1;have HZ1:=Z0 hz1;have HR1:=Z0 hr1;clear hW1 ho1 hy1 hx1 hz1 hr1 hG;refine z1a (gf:=157) (lb:=#[.pointer (some ⟨G+1+1,0,none⟩),.pointer (some ⟨G+1+1+1,0,none⟩)]) rfl (enters_of Tryz.func157 (by kernel_rfl) rfl)
  (fun W=>(∀ j,j<64*n->z1m n r c j=false)/\Box W (G+1) 3 (.int .i64 0)/\Out 0 0 w W) (fun c' W=>c'=.ret/\Box W (G+1) 3 (.int .i64 (nxr (z1m n r c) (64*n) 0))/\Out 0 0 w W) ?H ?done ?stop
 case H=>
  intro rec hrec W2 hW2;rw[hs1];have HR:=Z0 hrec;have ho2:Out 0 0 W1 W2:=by rw[hW2];exact((Out.refl 0 0 W1).alloc _).alloc _
  have hs2:W2.heap.size=G+6:=by rw[hW2];simp[hs1]
  have hd2:W2.heap[G+4]? = some (.deferred (some [])):=by rw[hW2,<-hs1];exact K4
  have hl2:W2.heap[G+4+1]? = some (.loop (rec .ready none)):=by rw[hW2,<-hs1];exact heap_alloc2_new _ _ _
  refine(z7l (lo:=lo) (hi:=hi) (n:=n) (cap:=cap) (s:=s) (S:=r.F c) (c:=c) (g:=G+1+1) (gc:=G+1+1+1) (l:=G+4+1) HC.out
   (fun p W=>RawAt W lo hi s n cap r/\(∀ j,j<p->z1m n r c j=false)/\Box W G 34 (.pointer (some ⟨s 14,0,none⟩))/\Box W (G+1) 3 (.int .i64 0)/\Box W (G+1+1) 34 (.pointer (some ⟨s 14,0,none⟩))/\Box W (G+1+1+1) 3 (.int .i64 (c:Int))/\W.heap[G+4]? = some (.deferred (some []))/\W.heap[G+4+1]? = some (.loop (rec .ready none))/\Out 0 0 w W)
   (fun W=>(∀ j,j<64*n->z1m n r c j=false)/\Box W (G+1) 3 (.int .i64 0)/\W.heap[G+4]? = some (.deferred (some []))/\W.heap[G+4+1]? = some (.loop (rec .ready none))/\Out 0 0 w W)
   (fun W=>Box W (G+1) 3 (.int .i64 (nxr (z1m n r c) (64*n) 0))/\W.heap[G+4]? = some (.deferred (some []))/\W.heap[G+4+1]? = some (.loop (rec .done (some .ret)))/\Out 0 0 w W) (w:=W2) ?hm1 ?hq1 ?hs1 ?hqj1 ?hqx1 ?hy1 ?he1 ?hz1).mono ?_
  case hm1=>
   rintro p W ⟨a1,a2,a3,a4,a5,a6,a7,a8,a9⟩;exact⟨_,a1,rfl,a5,a6⟩
  case hq1=>
   rintro p W W' x y ⟨a1,a2,a3,a4,a5,a6,a7,a8,a9⟩ o hx;have hT:=HT.out;have hgw:=HGw.out;exact⟨a1.kept o (by omega) (by omega),a2,a3.kept o (by omega),a4.kept o (by omega),a5.kept o (by omega),a6.kept o (by omega),o.heap a7 (by omega),o.heap a8 (by omega),Z9 a9 o (by omega)⟩
  case hs1=>
   rintro p q W ⟨a1,a2,a3⟩ hpq hz;refine⟨a1,fun j hj=>?_,a3⟩;by_cases e:j<p
   ·exact a2 j e
   ·unfold z1m;rw[hz j (by omega) hj];rfl
  case hqj1=>
   rintro W W' x y ⟨a1,a2,a3,a4,a5⟩ o hx;have hT:=HT.out;have hgw:=HGw.out;exact⟨a1,a2.kept o (by omega),o.heap a3 (by omega),o.heap a4 (by omega),Z9 a5 o (by omega)⟩
  case hqx1=>
   rintro W W' x y ⟨a2,a3,a4,a5⟩ o hx;have hT:=HT.out;have hgw:=HGw.out;exact⟨a2.kept o (by omega),o.heap a3 (by omega),o.heap a4 (by omega),Z9 a5 o (by omega)⟩
  case he1=>
   rintro p W ⟨a1,a2,a3,a4,a5,a6,a7,a8,a9⟩ hz;refine⟨fun j hj=>?_,a4,a7,a8,a9⟩;by_cases e:j<p
   ·exact a2 j e
   ·unfold z1m;rw[hz j (by omega) hj];rfl
  case hz1=>
   exact⟨HR0.out.quiet (HO1.out.trans ho2),fun j h=>absurd h (by omega),HY1.out.kept ho2 z0,HR1.out.kept ho2 z0,HX1.out.kept ho2 z0,HZ1.out.kept ho2 z0,hd2,hl2,(HO1.out.trans ho2)⟩
  case hy1=>
   rintro a W ⟨a1,a2,a3,a4,a5,a6,a7,a8,a9⟩ hSa haN;have A:=Z0 (And.intro a1 (And.intro a3 (And.intro a4 (And.intro a5 (And.intro a6 (And.intro a7 a9))))));have HBf:=Z0 a2;have HBk:Hid (z1m n r c a = !(r.W a == Y7 (nxr (r.F c) (64*n) (a+1)))):=by show _=_;unfold z1m;rw[hSa];rfl
   have HaN:=Z0 haN;have HL5:=Z0 a8;have k0:(0:Int)<=(a:Int):=by omega
   have k1:(a:Int)<((64*n:Nat):Int):=by omega
   have k2:((64*n:Nat):Int)<=262144:=by have:=HT.out;omega
   have k3:(a:Int)<64*(n:Int):=by omega
   refine z0y HR.out a8 rfl ?_;clear a1 a2 a3 a4 a5 a6 a7 a8 a9 hSa haN;gi_wp2;refine⟨HL5.out,?_⟩;intro W3 ho3 hl3;have hT:=HT.out;have hgw:=HGw.out;have hr3:=A.out.1.kept ho3 (.inl (by omega)) (.inl (by omega));have hy3:=A.out.2.1.kept ho3 (.inl (by omega));have hx3:=A.out.2.2.1.kept ho3 (.inl (by omega));have HX3:=Z0 (And.intro hx3 (And.intro (A.out.2.2.2.1.kept ho3 (.inl (by omega))) (And.intro (A.out.2.2.2.2.1.kept ho3 (.inl (by omega))) (And.intro (ho3.heap A.out.2.2.2.2.2.1 (by omega)) (Z9 A.out.2.2.2.2.2.2 ho3 (.inl (by omega)))))));have HO3:=Z0 ho3;have HL3:=Z0 hl3;have HR3:=Z0 hr3;have HY3:=Z0 hy3;have c0:=hy3.cell;have c1:=hr3.cells.1;have d0:=hr3.words.cell HaN.out;have e0:=hx3.cell;have e1:=hx3.frozen;clear ho3 hl3 hr3 hy3 hx3 hT hgw A;gi_wp2_with fail;refine z0p (S:=fun w'=>w'.cell? ⟨G,0,none⟩=some (.pointer (some ⟨s 14,0,none⟩))/\w'.cell? ⟨s 14,0,none⟩=some (.slice (some ⟨s 11,0,none⟩) (64*n) cap)/\w'.cell? ⟨s 11,a,none⟩=some (.int .i64 (r.W a))) (by kernel_rfl) (by kernel_rfl) ?hS1 (fun hHeld=>?rest1)
   case hS1=>exact⟨c0,c1,d0⟩
   refine tk 0 ?_;refine tk 1 ?_;refine tk 2 ?_;refine tk 3 ?_;refine tk 4 ?_;refine tk 5 ?_;refine tk 6 ?_;refine tk 7 ?_;refine rd1 8 fun KK hK=>?_
   simp only[xa,xb,xc];go_simp;refine(q0p (nxr (r.F c) (64*n) (a+1)) _).mono ?_;rintro e w5 ⟨rfl,rfl⟩;refine hK.out _ _ ?hS10 (fun hHeld2=>?rest10)
   case hS10=>exact hHeld
   clear hK KK;replace hHeld:=hHeld2;clear hHeld2;refine tk 9 ?_;refine dn ?_;clear hHeld;simp only[q2k,z8r];have HD3:Hid (Out 0 0 W3 W3.drew):=(Out.refl 0 0 W3).drew;generalize W3.drew=W4 at HD3 ⊢
   rw[show (r.W a != Y7 (nxr (r.F c) (64*n) (a+1)))=z1m n r c a from HBk.out.symm];have hx4:=HX3.out.1.kept HD3.out z0;have e0:=hx4.cell;have e1:=hx4.frozen;have HX4:=Z0 hx4;clear hx4;cases hbad:z1m n r c a with
   | false=>
    have HBd:=Z0 hbad;clear hbad;gi_wp2;have hT:=HT.out;have hgw:=HGw.out;have hd3:=HD3.out;refine⟨hd3.heap HL3.out z0,?_⟩;intro W5 ho6 hl6;have o3:=HO3.out;obtain⟨f1,f2,f3,f4,f5⟩:=HX3.out;have o36:Out 0 W2.heap.size W W5:=by rw[hs2];exact((o3.wide (Nat.zero_le _) (by omega)).trans (hd3.any _ _)).trans (ho6.wide (Nat.zero_le _) (by omega))
    refine⟨o36,.inl ⟨rfl,(HR3.out.quiet hd3).kept ho6 (by omega) (by omega),fun j hj=>?_,(HY3.out.kept hd3 z0).kept ho6 (by omega),(f1.kept hd3 z0).kept ho6 (by omega),(f2.kept hd3 z0).kept ho6 (by omega),(f3.kept hd3 z0).kept ho6 (by omega),ho6.heap (hd3.heap f4 z0) (by omega),hl6,Z9 (f5.trans hd3) ho6 (by omega)⟩⟩;by_cases e:j=a
    ·rw[e];exact HBd.out
    ·exact HBf.out j (by omega)
   | true=>
    have HBd:=Z0 hbad;clear hbad;gi_wp2;have hT:=HT.out;have hgw:=HGw.out;have hd3:=HD3.out;have hset:=(Out.refl (G+1) (G+2) W4).setCell (p:=⟨G+1,0,none⟩) z1 (.int .i64 (a:Int));have hbx:=HX4.out.set (.int .i64 (a:Int));have hnx:nxr (z1m n r c) (64*n) 0=(a:Int):=z3n HaN.out (Nat.zero_le _) HBd.out (fun j _ hj=>HBf.out j hj);refine⟨hset.heap (hd3.heap HL3.out z0) (by omega),?_⟩;intro W5 ho6 hl6;have o3:=HO3.out;obtain⟨f1,f2,f3,f4,f5⟩:=HX3.out;have o36:Out 0 W2.heap.size W W5:=by rw[hs2];exact(((o3.wide (Nat.zero_le _) (by omega)).trans (hd3.any _ _)).trans (hset.wide (Nat.zero_le _) (by omega))).trans (ho6.wide (Nat.zero_le _) (by omega))
    exact⟨o36,.inr ⟨rfl,by rw[hnx];exact hbx.kept ho6 (by omega),ho6.heap (hset.heap (hd3.heap f4 z0) (by omega)) (by omega),hl6,Z9 (Z9 (f5.trans hd3) hset (by omega)) ho6 (by omega)⟩⟩
  ·rintro e W ⟨hv,⟨a1,a2,a3,a4,a5⟩ | ⟨a2,a3,a4,a5⟩⟩
   ·exact⟨hv,a3,.inl ⟨⟨a1,a2,a5⟩,a4⟩⟩
   ·exact⟨hv,a3,.inr ⟨_,⟨rfl,a2,a5⟩,a4⟩⟩
 case stop=>
  rintro c' W W' ⟨rfl,a2,a3⟩ ho hd;rw[hs1] at ho hd ⊢;have HD:=Z0 hd;have hgw:=HGw.out;have hT:=HT.out;have HX:=Z0 (a2.kept ho (.inl (by omega)));have HO:=Z0 (Z9 a3 ho (.inl (by omega)));clear a2 a3 hd ho hgw hT;gi_wp2;have hgw:=HGw.out;have hT:=HT.out;refine⟨by simp,.inl ⟨_,_,rfl,run_takeDeferred HD.out,?_⟩⟩;have hx:=HX.out.kept (Q2 W' (G+4) (.deferred none)) (.inl (by omega));refine⟨_,(z1g rfl _ _ _).trans ?_,rfl,Z9 HO.out (Q2 _ _ _) (by omega)⟩;exact z6p hx
 case done=>
  rintro W W' ⟨a1,a2,a3⟩ ho hd;rw[hs1] at ho hd ⊢;have hgw:=HGw.out;have hT:=HT.out;have HD:=Z0 hd;have hx':=a2.kept ho (.inl (by omega));have HX:=Z0 hx';have HO:=Z0 (Z9 a3 ho (.inl (by omega)));have HN:=Z0 a1;have c0:=hx'.cell;have c1:=hx'.frozen;clear a1 a2 a3 hd hx' ho hgw hT;gi_wp2;have hgw:=HGw.out;have hT:=HT.out;have hset:=(Out.refl (G+1) (G+2) W').setCell (p:=⟨G+1,0,none⟩) z1 (.int .i64 (-1));refine⟨by simp,.inl ⟨_,_,rfl,run_takeDeferred (hset.heap HD.out (by omega)),?_⟩⟩;have hx:=(HX.out.set (.int .i64 (-1))).kept (Q2 _ (G+4) (.deferred none)) (.inl (by omega));refine⟨.int .i64 (-1),(z1g rfl _ _ _).trans ?rs,?_,Z9 (Z9 HO.out hset (by omega)) (Q2 _ _ _) (by omega)⟩
  case rs=>exact z6p hx
  rcases Q1 (z1m n r c) (64*n) 0 with ⟨e1,_⟩ | ⟨i,e1,e2,e3,e4,e5⟩
  ·rw[e1]
  ·rw[HN.out i e2] at e4;cases e4
end Go.Proofs.YtjbbkeoolodeaabGreatDoor
namespace Go.Proofs.YtjbbkeoolodeaabGreatDoor
open Go.RowKit
attribute [local go_sem] Oper.semAt_some
set_option linter.unusedVariables false
set_option maxRecDepth 100000
set_option maxHeartbeats 16000000
set_option linter.unusedSimpArgs false
def q6g (n:Nat) (r:Raw):Nat->Nat->Bool
 | 0=>z1t r
 | c+1=>fun k=>q6g n r c k || z1m n r c k
theorem j6y (A B:Nat->Bool) (N:Nat):nxr (fun k=>A k || B k) N 0=if 0<=nxr B N 0/\(nxr A N 0<0\/nxr B N 0<nxr A N 0) then nxr B N 0 else nxr A N 0:=by
 rcases Q1 A N 0 with ⟨a1,a2⟩ | ⟨i,a1,a2,_,a4,a5⟩
 ·rcases Q1 B N 0 with ⟨b1,b2⟩ | ⟨j,b1,b2,_,b4,b5⟩
  ·rw[a1,b1,if_neg (by omega)];rcases Q1 (fun k=>A k || B k) N 0 with ⟨c1,c2⟩ | ⟨k,c1,c2,_,c4,c5⟩
   ·exact c1
   ·simp only[a2 k (Nat.zero_le _) c2,b2 k (Nat.zero_le _) c2] at c4;cases c4
  ·rw[a1,b1,if_pos (by omega)];exact z3n b2 (Nat.zero_le _) (by simp[b4]) (fun k _ hk=>by simp[a2 k (Nat.zero_le _) (by omega),b5 k (Nat.zero_le _) hk])
 ·rcases Q1 B N 0 with ⟨b1,b2⟩ | ⟨j,b1,b2,_,b4,b5⟩
  ·rw[a1,b1,if_neg (by omega)];exact z3n a2 (Nat.zero_le _) (by simp[a4]) (fun k _ hk=>by simp[a5 k (Nat.zero_le _) hk,b2 k (Nat.zero_le _) (by omega)])
  ·rw[a1,b1];by_cases e:j<i
   ·rw[if_pos (by omega)];exact z3n b2 (Nat.zero_le _) (by simp[b4]) (fun k _ hk=>by simp[a5 k (Nat.zero_le _) (by omega),b5 k (Nat.zero_le _) hk])
   ·rw[if_neg (by omega)];exact z3n a2 (Nat.zero_le _) (by simp[a4]) (fun k _ hk=>by simp[a5 k (Nat.zero_le _) hk,b5 k (Nat.zero_le _) (by omega)])
section
variable {w:World} {lo hi n cap:Nat} {s:Nat->Nat} {r:Raw}
theorem j2s (h:RawAt w lo hi s n cap r) (hT:z8q r) :
  Calls Tryz.prog 38 #[.pointer (some ⟨s 14,0,none⟩)] w fun e w'=>e=.returned (.int .i64 (nxr (q6g n r 8) (64*n) 0))/\Out 0 0 w w':=by
 have HR:=Z0 h;have HH:=Z0 (z8b h hT);clear h hT;go_enter Tryz.func38,Tryz.ntmps38
 go_wp2_with (first
  | (go_at_call 49;refine Z5 (z0f _ _) ?_)
  | (go_at_call 80;refine HH.out.mono ?_;rintro e w1 ⟨rfl,ho⟩;have HO:=Z0 ho;clear ho))
 go_loopw [3,10] (fun v u wr=>∃ i:Nat,u=.int .i64 (i:Int)/\v=.int .i64 (nxr (q6g n r i) (64*n) 0)/\i<=8/\Out 0 0 w wr) (fun _ u _=>((8:Int)-intOf u).toNat)
 case atStart=>exact⟨0,rfl,rfl,Nat.zero_le _,HO.out⟩
 case round=>
  obtain⟨i,rfl,rfl,i1,i3⟩:=hrel;have HO1:=Z0 i3;have j0:(0:Int)<=(i:Int):=by omega
  by_cases hlt:(i:Int)<8
  ·have HC:Hid (i<8):=by show _<_;omega
   have HL:=Z0 (q0g (HR.out.quiet i3) HC.out);have HN:Hid (nxr (q6g n r (i+1)) (64*n) 0=_):=j6y (q6g n r i) (z1m n r i) (64*n);clear i3;generalize nxr (q6g n r i) (64*n) 0=x at *
   generalize nxr (z1m n r i) (64*n) 0=y at *
   by_cases h1:0<=y
   ·by_cases h2:x<0
    ·go_wp2_with (go_at_call 81;refine HL.out.mono ?_;rintro e w4 ⟨rfl,ho⟩);exact⟨⟨i+1,by congr 1,by rw[HN.out,if_pos ⟨h1,.inl h2⟩],by omega,HO1.out.trans ho⟩,by simp[intOf];omega⟩
    ·by_cases h3:y<x
     ·go_wp2_with (go_at_call 81;refine HL.out.mono ?_;rintro e w4 ⟨rfl,ho⟩);exact⟨⟨i+1,by congr 1,by rw[HN.out,if_pos ⟨h1,.inr h3⟩],by omega,HO1.out.trans ho⟩,by simp[intOf];omega⟩
     ·go_wp2_with (go_at_call 81;refine HL.out.mono ?_;rintro e w4 ⟨rfl,ho⟩);exact⟨⟨i+1,by congr 1,by rw[HN.out,if_neg (by omega)],by omega,HO1.out.trans ho⟩,by simp[intOf];omega⟩
   ·go_wp2_with (go_at_call 81;refine HL.out.mono ?_;rintro e w4 ⟨rfl,ho⟩);exact⟨⟨i+1,by congr 1,by rw[HN.out,if_neg (by omega)],by omega,HO1.out.trans ho⟩,by simp[intOf];omega⟩
  ·have e:i=8:=by omega
   subst e;clear i3;go_wp2;go_ret;exact⟨rfl,HO1.out⟩
end
end Go.Proofs.YtjbbkeoolodeaabGreatDoor
