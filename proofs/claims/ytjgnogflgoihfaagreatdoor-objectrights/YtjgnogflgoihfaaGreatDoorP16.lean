import Derived.Test.YtjgnogflgoihfaaGreatDoorP15
namespace Go.Proofs.YtjgnogflgoihfaaGreatDoor
open Go.RowKit
set_option linter.unusedVariables false
set_option maxRecDepth 100000
set_option maxHeartbeats 16000000
set_option linter.unusedSimpArgs false
theorem x2n:(Tryz.prog.info? 111).map (·.size)=some 2:=by kernel_rfl
theorem q3o {fn:Func} {p:Tmp} (hr:fn.results = #[.cell p 111]) {a:Act} {w:World} {g:Nat} {x y:Int} {post:Ending->World->Prop} (hp:a.tmps.getD p undef=.pointer (some ⟨g,0,none⟩))
  (hd:a.defers=[]) (b:w.heap[g]? = some (.cells #[.int .i64 x,.int .i64 y] 111 (0,0))) (h:post (.returned (z7t x y)) w):bodyPost Tryz.prog fn post Exit.ret a w:=
 bodyPost_ret (v:=z7t x y) (results_cell_row hr a.tmps w g 111 _ (0,0) _ hp b Tryz.underlying111 rfl x2n) hd h
theorem z5j {w:World} {g:Nat} {T:TypeId} {u v:Value} (h:w.heap[g]? = some (.cells #[u,v] T (0,0))) (x y:Value):((w.setCell ⟨g,0,none⟩ x).setCell ⟨g,1,none⟩ y).heap[g]? = some (.cells #[x,y] T (0,0)):=by
 simp[World.setCell,Array.getElem?_modify,h]
section
variable {w:World} {lo hi n cw co:Nat} {s:Nat->Nat} {st:Sp}
theorem q3l (h:RfAt w lo hi s n cw co st) {a:Int} (jY:∀ k:Nat,a=(k:Int)->k<64*n->Y9 (st.O k)=false):Kz 127 #[Pq (s 0),Iz a] w fun e w'=>e=.returned (z7t 22 0)/\Out 0 0 w w':=by
 have o1:Out 0 0 w (w.alloc (Dz 0 0 111)):=(Out.refl 0 0 w).alloc _;have f1:(w.alloc (Dz 0 0 111)).heap[w.heap.size]? = some (Dz 0 0 111):=heap_alloc_new _ _;have mQ:=Q3 (z3q (h.quiet o1) jY);have H1:=Q3 (And.intro o1 f1);clear h jY o1 f1;go_enter Tryz.func127,Tryz.ntmps127
 go_wp2_with fail;refine mQ.out.mono ?_;rintro e w1 ⟨rfl,ho⟩;have fF:=ho.heap H1.out.2 z0;have oB:Out 0 0 w1 (w1.alloc (Ez 0 0 0 0 0 81)):=(Out.refl 0 0 w1).alloc _;have fB:=oB.heap fF z0;obtain⟨F,hF⟩:∃ F,w.heap.size=F:=⟨_,rfl⟩
 rw[hF] at fF fB ⊢;have HFF:=Q3 fB;have HO:=Q3 ((H1.out.1.trans ho).trans oB);have mB:Hid (w.heap.size=F):=hF;obtain⟨e0,e1,e2,e3⟩:=flt_facts fB;clear fF fB oB ho hF;go_wp2;refine q3o (g:=F) Tryz.results127 rfl rfl (z5j HFF.out _ _) ⟨rfl,?_⟩;exact Y8 HO.out (((Out.refl F (F+1) _).setCell (p:=⟨F,0,none⟩) z1 _).setCell (p:=⟨F,1,none⟩) z1 _) (.inl (by have:=mB.out;omega))
theorem q3m (h:RfAt w lo hi s n cw co st) {a:Nat} (ha:a<64*n) (hb:Y9 (st.O a)=true):Kz 127 #[Pq (s 0),Iz (a:Int)] w fun e w'=>e=.returned (if st.W a=F0 a (st.O a).1 (st.O a).2.1 then z7t 0 0 else z7t 21 a)/\Out 0 0 w w':=by
 have h2:=h.n2;have o1:Out 0 0 w (w.alloc (Dz 0 0 111)):=(Out.refl 0 0 w).alloc _;have f1:(w.alloc (Dz 0 0 111)).heap[w.heap.size]? = some (Dz 0 0 111):=heap_alloc_new _ _;obtain⟨k,z,x,t,hO⟩:∃ k z x t,st.O a=(k,z,x,t):=⟨_,_,_,_,rfl⟩
 have mQ:=Q3 (z3r (h.quiet o1) ha hb hO);rw[hO];dsimp only;obtain⟨y,hy⟩:∃ y,st.W a=y:=⟨_,rfl⟩
 obtain⟨v,hv⟩:∃ v,F0 (a:Int) k z=v:=⟨_,rfl⟩
 have HMk:=Q3 (fun w=>q0e (a:Int) k z w);rw[hv] at HMk ⊢;rw[hy];obtain⟨M,hM⟩:∃ M,64*n=M:=⟨_,rfl⟩
 have a0:(0:Int)<=(a:Int):=by omega
 have a1:(a:Int)<(M:Int):=by omega
 have a2:(M:Int)<=262144:=by omega
 have H1:=Q3 (And.intro o1 f1);have HR:=Q3 (And.intro h (And.intro hM (And.intro hy ha)));clear h hb o1 f1 hO hy hv hM ha h2;go_enter Tryz.func127,Tryz.ntmps127
 go_wp2_with fail;refine mQ.out.mono ?_;rintro e w1 ⟨rfl,ho⟩;have fF:=ho.heap H1.out.2 z0;have bK:=Q3 (And.intro (H1.out.1.trans ho) fF);clear ho fF mQ;go_wp2_with fail;obtain⟨W2,kX⟩:∃ W,w1.alloc (Ez (a:Int) k z x t 81)=W:=⟨_,rfl⟩
 obtain⟨B,hB⟩:∃ B,w1.heap.size=B:=⟨_,rfl⟩
 obtain⟨F,hF⟩:∃ F,w.heap.size=F:=⟨_,rfl⟩
 have o2:Out 0 0 w1 W2:=by rw[<-kX];exact(Out.refl 0 0 w1).alloc _
 have fB:W2.heap[B]? = some (Ez (a:Int) k z x t 81):=by rw[<-kX,<-hB];exact heap_alloc_new _ _
 have aI:=Q3 (bK.out.1.trans o2);have gT:Hid (W2.heap[F]? = some (Dz 0 0 111)/\w.heap.size=F):=⟨by rw[<-hF];exact o2.heap bK.out.2 z0,hF⟩
 have jR:=HR.out.1.quiet aI.out;have c0:=jR.cells.1;rw[HR.out.2.1] at c0;have d0:=jR.rw.cell (i:=a) HR.out.2.2.2;rw[HR.out.2.2.1] at d0;have b1:cq W2 B 1=some (Iz k):=by simp[World.cell?,fB]
 have b2:cq W2 B 2=some (Iz z):=by simp[World.cell?,fB]
 rw[kX,hB];(try rw[hF]);clear kX hB hF o2 fB jR;refine wp_region_held_drew (S:=fun w'=>cq w' (s 0) 0=some (.slice (some ⟨s 1,0,none⟩) M cw)/\cq w' (s 1) a=some (Iz y)/\cq w' B 1=some (Iz k)/\cq w' B 2=some (Iz z)) (by kernel_rfl) ?hS1 (fun aB=>?rest1)
 case hS1=>exact⟨c0,d0,b1,b2⟩
 obtain⟨Z3,hZ⟩:∃ Z,W2.drew=Z:=⟨_,rfl⟩
 have OZ3:Out 0 0 W2 Z3:=by rw[<-hZ];exact(Out.refl 0 0 W2).drew
 rw[hZ] at aB ⊢;clear hZ;refine tk 0 ?_;refine tk 1 ?_;refine tk 2 ?_;refine tk 3 ?_;refine tk 4 ?_;refine tk 5 ?_;refine tk 6 ?_;refine tk 7 ?_;refine tk 8 ?_;refine tk 9 ?_;refine tk 10 ?_;refine tk 11 ?_;refine rd1 12 fun KK hK=>?_
 simp only[xa,xb,xc];go_simp;refine Q4 (HMk.out _) ?_;refine hK.out _ _ (aB) fun aB=>?_
 clear hK KK;refine tk 13 ?_;refine dn ?_;clear aB;have fF:=OZ3.heap gT.out.1 z0;obtain⟨e0,e1,e2,e3⟩:=flt_facts fF;have HFF:=Q3 fF;have bQ:=Q3 (aI.out.trans OZ3);clear fF OZ3 c0 d0 b1 b2;by_cases hyv:y=v
 ·have hyb:(y != v)=false:=by simp[hyv]
  go_wp2;refine q3o (g:=F) Tryz.results127 rfl rfl (z5j HFF.out _ _) ⟨rfl,?_⟩;exact Y8 bQ.out (((Out.refl F (F+1) _).setCell (p:=⟨F,0,none⟩) z1 _).setCell (p:=⟨F,1,none⟩) z1 _) (.inl (by have:=gT.out.2;omega))
 ·have hyb:(y != v)=true:=by simpa using hyv
  go_wp2;refine q3o (g:=F) Tryz.results127 rfl rfl (z5j HFF.out _ _) ⟨rfl,?_⟩;exact Y8 bQ.out (((Out.refl F (F+1) _).setCell (p:=⟨F,0,none⟩) z1 _).setCell (p:=⟨F,1,none⟩) z1 _) (.inl (by have:=gT.out.2;omega))
end
section
variable {w:World} {lo hi n cw co:Nat} {s:Nat->Nat} {st:Sp}
theorem z4t (h:RfAt w lo hi s n cw co st) (hI:Inv n st) (a:Int):Calls Tryz.prog 127 #[.pointer (some ⟨s 0,0,none⟩),.int .i64 a] w fun e w'=>e=.returned (z7t (z6u (J0 n st) a) (z5m (J0 n st) a))/\Out 0 0 w w':=by
 by_cases hb:0<=a/\Y9 (st.O a.toNat)=true
 ·obtain⟨k,rfl⟩:∃ k:Nat,a=(k:Int):=⟨a.toNat,by omega⟩
  have e:((k:Nat):Int).toNat=k:=by omega
  rw[e] at hb;have hm:(J0 n st).M (k:Int)=some (st.O k):=by
   show obM st (k:Int)=_
   unfold obM;rw[e,if_pos hb]
  refine(q3m h (hI.objs k hb.2).1 hb.2).mono ?_;rintro e1 w' ⟨rfl,ho⟩;refine⟨?_,ho⟩;unfold z6u z5m;rw[hm,e]
  show Ending.returned (if st.W k=_ then _ else _)=.returned (z7t (if st.W k=F0 k (st.O k).1 (st.O k).2.1 then 0 else 21) (if st.W k=F0 k (st.O k).1 (st.O k).2.1 then 0 else k))
  split <;> rfl
 ·have hm:(J0 n st).M a=none:=by
   show obM st a=_
   unfold obM;rw[if_neg hb]
  refine(q3l h fun k e hk=>?_).mono ?_
  ·cases hh:Y9 (st.O k) with
   | false=>rfl
   | true=>exact absurd ⟨by omega,by rw[e,show ((k:Nat):Int).toNat=k from by omega];exact hh⟩ hb
  ·rintro e1 w' ⟨rfl,ho⟩;refine⟨?_,ho⟩;unfold z6u z5m;rw[hm]
theorem q8v (h:RfAt w lo hi s n cw co st) (hI:Inv n st) (a i:Int):Kz 145 #[Pq (s 0),Iz a,Iz i] w fun e w'=>e=.returned (z7t (q4b (J0 n st) a i) (z5m (J0 n st) a))/\Out 0 0 w w':=by
 have h2:=h.n2;have o1:Out 0 0 w (w.alloc (Dz 0 0 111)):=(Out.refl 0 0 w).alloc _;have f1:(w.alloc (Dz 0 0 111)).heap[w.heap.size]? = some (Dz 0 0 111):=heap_alloc_new _ _;have hC:=z4t (h.quiet o1) hI a;obtain⟨e1,he1⟩:∃ e1,z6u (J0 n st) a=e1:=⟨_,rfl⟩
 obtain⟨e2,qR⟩:∃ e2,z5m (J0 n st) a=e2:=⟨_,rfl⟩
 obtain⟨e3,he3⟩:∃ e3,q4b (J0 n st) a i=e3:=⟨_,rfl⟩
 rw[he1,qR] at hC;unfold z7t at hC;rw[qR,he3];have HC:=Q3 hC;have H1:=Q3 (And.intro o1 f1);have HR:=Q3 (And.intro h hI);have HE:=Q3 (And.intro he1 (And.intro qR he3));clear h hI hC o1 f1 he1 qR he3;go_enter Tryz.func145,Tryz.ntmps145
 go_wp2_with fail;refine HC.out.mono ?_;rintro e w1 ⟨rfl,ho⟩;have fF:=ho.heap H1.out.2 z0;have oB:Out 0 0 w1 (w1.alloc (Dz e1 e2 111)):=(Out.refl 0 0 w1).alloc _;have fB:=oB.heap fF z0;obtain⟨F,hF⟩:∃ F,w.heap.size=F:=⟨_,rfl⟩
 rw[hF] at fF fB ⊢;have eR:=Q8 fF;have HFF:=Q3 fB;have HO:=Q3 ((H1.out.1.trans ho).trans oB);have mB:Hid (w.heap.size=F):=hF;obtain⟨x0,x1,x2,x3⟩:=flt_facts fB;have iF:w1.heap.size ≠ F:=by omega
 by_cases h0:e1=0
 ·subst h0;have hRw:=HR.out.1.quiet HO.out;obtain⟨b,hb,hM⟩:∃ b,(J0 n st).M a=some b/\e2=0:=by
   have q1:=HE.out.1;have q2:=HE.out.2.1;unfold z6u at q1;unfold z5m at q2;cases hm:(J0 n st).M a with
   | none=>rw[hm] at q1;cases q1
   | some b=>
    rw[hm] at q1 q2;dsimp only at q1 q2;refine⟨b,rfl,?_⟩;split at q1
    ·next hc=>rw[if_pos hc] at q2;omega
    ·cases q1
  subst hM;obtain⟨k,rfl,hk⟩:=j6e HR.out.2 a b hb;have kW:Y9 (st.O k)=true/\b=st.O k:=by
   have:obM st (k:Int)=some b:=hb;unfold obM at this;rw[show ((k:Nat):Int).toNat=k from by omega] at this;split at this
   ·next hc=>injection this with this;exact⟨hc.2,this.symm⟩
   ·cases this
  obtain⟨o0,p1,p2,p3,p4⟩:=q5g (st:=st) kW.1;have c2:=hRw.cells.2.2.1;obtain⟨M,hM⟩:∃ M,64*n=M:=⟨_,rfl⟩
  rw[hM] at c2;have d2:=hRw.ro.cell (i:=k*5+2) (by omega);rw[p2,<-kW.2] at d2;obtain⟨z,hz⟩:∃ z,b.2.1=z:=⟨_,rfl⟩
  rw[hz] at d2;have k0:(0:Int)<=(k:Int):=by omega
  have k1:(k:Int)<(M:Int):=by omega
  have k2:(M:Int)<=262144:=by omega
  have hq:e3=if i<1\/z<=i then 23 else 0:=by
   rw[<-HE.out.2.2];have q1:=HE.out.1;unfold z6u at q1;unfold q4b;rw[hb] at q1 ⊢;dsimp only at q1 ⊢;split at q1
   ·next hc=>rw[if_pos hc,hz]
   ·cases q1
  have HQ:=Q3 hq;clear fF fB oB ho hF hRw hb hk kW o0 p1 p2 p3 p4 hM hz eR h2;by_cases hi1:i<1
  ·go_wp2;refine q3o (g:=F) Tryz.results145 rfl rfl (z5j HFF.out _ _) ⟨by rw[HQ.out,if_pos (.inl hi1)],?_⟩;exact Y8 HO.out (((Out.refl F (F+1) _).setCell (p:=⟨F,0,none⟩) z1 _).setCell (p:=⟨F,1,none⟩) z1 _) (.inl (by have:=mB.out;omega))
  ·by_cases hi2:z<=i
   ·go_wp2;refine q3o (g:=F) Tryz.results145 rfl rfl (z5j HFF.out _ _) ⟨by rw[HQ.out,if_pos (.inr hi2)],?_⟩;exact Y8 HO.out (((Out.refl F (F+1) _).setCell (p:=⟨F,0,none⟩) z1 _).setCell (p:=⟨F,1,none⟩) z1 _) (.inl (by have:=mB.out;omega))
   ·go_wp2;refine q3o (g:=F) Tryz.results145 rfl rfl (z5j HFF.out _ _) ⟨by rw[HQ.out,if_neg (by omega)],?_⟩;exact Y8 HO.out (((Out.refl F (F+1) _).setCell (p:=⟨F,0,none⟩) z1 _).setCell (p:=⟨F,1,none⟩) z1 _) (.inl (by have:=mB.out;omega))
 ·have hq:e3=e1:=by
   rw[<-HE.out.2.2,<-HE.out.1];exact wrdA _ _ _ (by rw[HE.out.1];exact h0)
  have HQ:=Q3 hq;have h0b:(e1 != 0)=true:=by simpa using h0
  clear fF fB oB ho hF hq eR h2;go_wp2;refine q3o (g:=F) Tryz.results145 rfl rfl (z5j HFF.out _ _) ⟨by rw[HQ.out],?_⟩;exact Y8 HO.out (((Out.refl F (F+1) _).setCell (p:=⟨F,0,none⟩) z1 _).setCell (p:=⟨F,1,none⟩) z1 _) (.inl (by have:=mB.out;omega))
end
theorem q8h (v:Int) (w:World) (h1:-9223372036854775808<=v) (h2:v<=9223372036854775807) :
  Kz 171 #[Iz v] w fun e w'=>e=.returned (.tuple #[Iz (v % 8),Iz (v / 8)])/\w'=w:=by
 by_cases hv:0<=v
 ·have e3:0<=v % 8:=by omega
  have e4:v % 8<8:=by omega
  go_enter Tryz.func171,Tryz.ntmps171
  go_wp2;go_ret2;exact⟨z6n rfl rfl,rfl⟩
 ·have e1:v.tmod 8 = -((-v) % 8):=by
   have:v = -(-v):=by omega
   rw[this,Int.neg_tmod,Int.tmod_eq_emod_of_nonneg (by omega)];omega
  have e2:(v+1).tdiv 8 = -((-(v+1)) / 8):=by
   have:v+1 = -(-(v+1)):=by omega
   rw[this,Int.neg_tdiv,Int.tdiv_eq_ediv_of_nonneg (by omega)];omega
  have hn:v<0:=by omega
  clear hv;have H2:=Q3 e2;clear e2;by_cases hz:-v % 8=0
  ·go_enter Tryz.func171,Tryz.ntmps171
   go_wp2;go_ret2;have q2:=H2.out;have hz':v % 8=0:=by omega
   refine⟨z6n ?_ ?_,rfl⟩
   ·first | omega | (rw[e1];omega) | (simp;omega)
   ·simp only[q2];unfold wrap64;omega
  ·have jW:-(-v % 8)<0:=by omega
   have hz3:-8 < -(-v % 8):=by omega
   go_enter Tryz.func171,Tryz.ntmps171
   go_wp2;go_ret2;have q2:=H2.out;refine⟨z6n ?_ ?_,rfl⟩
   ·omega
   ·simp only[q2];unfold wrap64;omega
theorem B4 (k n:Int) (w:World) :
  Kz 122 #[z5a k n] w fun e w'=>e=.returned (.bool (J2 k n))/\Below w.heap.size w w':=by
 unfold z5a;have h0:Below w.heap.size w (w.alloc (Dz k n 32)):=(Below.refl _ _).alloc (Nat.le_refl _) _;have hA:=heap_alloc_new w (Dz k n 32);obtain⟨x0,x1⟩:=z3x hA;clear hA;rcases j5x k with rfl | rfl | rfl | rfl | hk
 ·rw[j1f];go_enter Tryz.func122,Tryz.ntmps122
  go_wp2_with fail
  all_goals go_ret
  all_goals refine⟨B7 ?_,h0⟩
  all_goals (unfold z4l;rw[Bool.eq_iff_iff];simp;try omega)
 ·rw[j1g];go_enter Tryz.func122,Tryz.ntmps122
  go_wp2_with fail
  all_goals go_ret
  all_goals refine⟨B7 ?_,h0⟩
  all_goals (unfold z4l;rw[Bool.eq_iff_iff];simp;try omega)
 ·rw[j1h];go_enter Tryz.func122,Tryz.ntmps122
  go_wp2_with fail
  all_goals go_ret
  all_goals refine⟨B7 ?_,h0⟩
  all_goals (rw[Bool.eq_iff_iff];simp;try omega)
 ·rw[j1i];go_enter Tryz.func122,Tryz.ntmps122
  go_wp2_with fail
  all_goals go_ret
  all_goals refine⟨B7 ?_,h0⟩
  all_goals (unfold z2m;rw[Bool.eq_iff_iff];simp;try omega)
 ·rw[j1j k n hk];obtain⟨k1,k2,k3,k4⟩:=hk;go_enter Tryz.func122,Tryz.ntmps122
  go_wp2_with fail;go_ret;exact⟨rfl,h0⟩
theorem z3u (k n:Int) (w:World) :
  Kz 67 #[z5a k n] w fun e w'=>e=.returned (.tuple #[Iz (z0j k n),.bool (J2 k n)])/\Below w.heap.size w w':=by
 unfold z5a;have b1:Below w.heap.size w (w.alloc (Dz k n 32)):=(Below.refl _ _).alloc (Nat.le_refl _) _;have V0:=VC_v.new w k n;obtain⟨x0,x1,x2,x3⟩:=V0.facts;have HV:=Q3 V0;clear V0;by_cases hv:J2 k n=true
 ·have hw:z0j k n=n*8+(k-1):=by unfold z0j;rw[if_pos hv]
  obtain⟨r1,r2,r3,r4⟩:=z3y hv;rw[hw,hv];go_enter Tryz.func67,Tryz.ntmps67
  go_wp2_with fail;refine(B4 k n _).mono ?_;rintro e w1 ⟨rfl,hg⟩;rw[hv];obtain⟨x0,x1,x2,x3⟩:=(HV.out.kept hg).facts;have hb:=b1.trans (hg.mono b1.size);clear hg b1 HV;go_wp2_with fail;go_ret2;exact⟨q0h (by first | omega | (unfold wrap64;omega)) rfl,hb⟩
 ·have pK:=Bool.eq_false_iff.mpr hv;have hw:z0j k n=0:=by unfold z0j;rw[if_neg hv]
  rw[hw,pK];clear hv;go_enter Tryz.func67,Tryz.ntmps67
  go_wp2_with fail;refine(B4 k n _).mono ?_;rintro e w1 ⟨rfl,hg⟩;rw[pK];have hb:=b1.trans (hg.mono b1.size);clear hg b1 HV;go_wp2_with fail;go_ret2;exact⟨rfl,hb⟩
theorem F5 (v:Int) (w:World) (h1:-9223372036854775808<=v) (h2:v<=9223372036854775807) :
  Kz 124 #[Iz v] w fun e w'=>e=.returned (.tuple #[.agg #[Iz (z0z (v % 8+1) (v / 8)),Iz (z1a (v % 8+1) (v / 8))],.bool (J2 (v % 8+1) (v / 8))])/\Below w.heap.size w w':=by
 obtain⟨t,ht⟩:∃ t,t=v % 8:=⟨_,rfl⟩
 obtain⟨b,hb⟩:∃ b,b=v / 8:=⟨_,rfl⟩
 have hs:=Q3 (fun w=>q8h v w h1 h2);rw[<-ht,<-hb] at hs ⊢;have t1:0<=t:=by omega
 have t2:t<8:=by omega
 clear ht hb h1 h2;have b1:Below w.heap.size w (w.alloc (Dz 0 0 32)):=(Below.refl _ _).alloc (Nat.le_refl _) _;have b2:=b1.alloc b1.size (Dz (t+1) b 32);have HB:=Q3 b2;have V0:=Q3 ((VC_v.new w 0 0).alloc (Dz (t+1) b 32));have V1:Hid (VC_v ((w.alloc (Dz 0 0 32)).alloc (Dz (t+1) b 32)) (w.heap.size+1) (t+1) b):=heap_alloc2_new _ _ _;clear b1 b2;by_cases hv:J2 (t+1) b=true
 ·go_enter Tryz.func124,Tryz.ntmps124
  go_wp2_with (go_at_call 171;refine Q4 (hs.out _) ?_);refine(B4 (t+1) b _).mono ?_;rintro e w1 ⟨rfl,hg⟩;rw[hv];have g0:=Q3 (V0.out.kept hg);have g1:=V1.out.kept hg;have hb:=HB.out.trans (hg.mono HB.out.size);clear hg HB V0 V1;obtain⟨x0,x1,x2,x3⟩:=g0.out.facts;obtain⟨x4,x5,x6,x7⟩:=g1.facts;go_wp2_with fail;refine z6m Tryz.results124 rfl rfl rfl (g0.out.set (t+1) b) ⟨?_,?_⟩
  ·rw[q2z hv,hv];rfl
  ·exact(hb.setCell (Nat.le_refl _) _).setCell (Nat.le_refl _) _
 ·have pK:=Bool.eq_false_iff.mpr hv;clear hv;go_enter Tryz.func124,Tryz.ntmps124
  go_wp2_with (go_at_call 171;refine Q4 (hs.out _) ?_);refine(B4 (t+1) b _).mono ?_;rintro e w1 ⟨rfl,hg⟩;rw[pK];have g0:=Q3 (V0.out.kept hg);have g1:=V1.out.kept hg;have hb:=HB.out.trans (hg.mono HB.out.size);clear hg HB V0 V1;obtain⟨x0,x1,x2,x3⟩:=g0.out.facts;obtain⟨x4,x5,x6,x7⟩:=g1.facts;go_wp2_with fail;refine z6m Tryz.results124 rfl rfl rfl (g0.out.set 0 0) ⟨?_,?_⟩
  ·rw[q8d pK,pK];rfl
  ·exact(hb.setCell (Nat.le_refl _) _).setCell (Nat.le_refl _) _
end Go.Proofs.YtjgnogflgoihfaaGreatDoor
