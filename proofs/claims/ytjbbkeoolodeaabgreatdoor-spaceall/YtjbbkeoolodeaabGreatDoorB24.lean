import Derived.Test.YtjbbkeoolodeaabGreatDoorB23
import Derived.ChangeKeysEq
namespace Go.Proofs.YtjbbkeoolodeaabGreatDoor
open Go.RowKit
set_option linter.unusedVariables false
set_option maxRecDepth 100000
set_option maxHeartbeats 16000000
set_option linter.unusedSimpArgs false
theorem z9v {B b:Nat} {w:World} {V:Nat->Value} {X:Nat->List Value} {C:Nat->Nat->Nat × (Nat->Nat->Int)} {col:Nat->Nat} {cur:Option (Nat × Nat)} {p:Nat->Nat} (h:Kp B w b V X C col cur p) {N0 N2:Nat} (h0:(X 2).length=N0) (h2:(X 6).length=N2) (hN:N0<=100/\N2<=100) :
  Calls Tryz.prog 74 #[.pointer (some ⟨b,2,none⟩)] w fun e w'=>e=.returned (.bool (decide (30<N0+N2)))/\Out 0 0 w w':=by
 obtain⟨a2,c2,e2⟩:=Q8 (h.own 2 (by omega) (by omega));obtain⟨a6,c6,e6⟩:=Q8 (h.own 6 (by omega) (by omega));have d2:=h.cell 2 (by omega);have d6:=h.cell 6 (by omega);rw[e2,h0] at d2;rw[e6,h2] at d6;have n0:(N0:Int)<=100:=by omega
 have n2:(N2:Int)<=100:=by omega
 have hw:IntKind.i64.wrap ((N0:Int)+(N2:Int))=(N0:Int)+(N2:Int):=by simp[IntKind.wrap,IntKind.signed,IntKind.bits];omega
 clear h h0 h2 e2 e6;go_enter Tryz.func74,Tryz.ntmps74
 go_wp2_with fail;go_region_held3 (fun w'=>w'.cell? ⟨b,2,none⟩=some (.slice a2 N0 c2)/\w'.cell? ⟨b,6,none⟩=some (.slice a6 N2 c6)) (go_keep) (fail)
 all_goals go_wp2
 all_goals go_ret
 all_goals exact⟨K8 (by simp;omega),(Out.refl 0 0 w).drew⟩
theorem q5q (xs:Array Value) (w:World):∀ is:List Nat,(∀ i ∈ is,∃ a,xs[i]? = some (.int .i64 a))->(Op.eqItems 9999 3 1 xs xs is).run Tryz.prog w=.ok true w
 | [],_=>by simp[Op.eqItems]
 | i :: is,h=>by
  obtain⟨a,ha⟩:=h i (by simp);have p1:=run_part_plain (P:=Tryz.prog) w (e:=3) (by kernel_rfl) (xs:=xs) (off:=i) ha;have p2:=run_equalIn_int (P:=Tryz.prog) w 9998 3 .i64 .i64 a a Tryz.underlying3;simp only[Op.eqItems,Sem.run_bind,Nat.mul_one,p1,Result.andThen_ok,p2];simpa using q5q xs w is fun j hj=>h j (by simp[hj])
theorem eq8 (h0 h1 h2 h3 h4 h5 h6 h7:Int) (w:World):Sem.run Tryz.prog (Op.equalIn 10000 79 (.agg #[.int .i64 h0,.int .i64 h1,.int .i64 h2,.int .i64 h3,.int .i64 h4,.int .i64 h5,.int .i64 h6,.int .i64 h7]) (.agg #[.int .i64 h0,.int .i64 h1,.int .i64 h2,.int .i64 h3,.int .i64 h4,.int .i64 h5,.int .i64 h6,.int .i64 h7])) w=.ok true w:=by
 obtain⟨i0,hi0,_⟩:=Q3 z3f;rw[show (10000:Nat)=9999+1 from rfl,run_equalIn_array w 9999 _ _ Tryz.underlying79 hi0,show Tryz.prog.cellsOf 3=1 from by kernel_rfl];refine q5q _ w _ fun i hi=>?_
 have h8:i<8:=by simpa using hi
 have hc:i=0\/i=1\/i=2\/i=3\/i=4\/i=5\/i=6\/i=7:=by omega
 rcases hc with rfl | rfl | rfl | rfl | rfl | rfl | rfl | rfl <;> exact⟨_,rfl⟩
theorem Q5 {w:World} {g:Nat} {x0 x1 x2 x3 x4 x5 x6 x7 x8 x9 x10 x11:Value} {T:TypeId} (h:w.heap[g]? = some (.cells #[x0,x1,x2,x3,x4,x5,x6,x7,x8,x9,x10,x11] T (0,0))):w.cell? ⟨g,0,none⟩=some x0/\w.cell? ⟨g,1,none⟩=some x1/\w.cell? ⟨g,2,none⟩=some x2/\w.cell? ⟨g,3,none⟩=some x3/\w.cell? ⟨g,4,none⟩=some x4/\w.cell? ⟨g,5,none⟩=some x5/\w.cell? ⟨g,6,none⟩=some x6/\w.cell? ⟨g,7,none⟩=some x7/\w.cell? ⟨g,8,none⟩=some x8/\w.cell? ⟨g,9,none⟩=some x9/\w.cell? ⟨g,10,none⟩=some x10/\w.cell? ⟨g,11,none⟩=some x11:=by
 simp[World.cell?,h]
theorem q8n {B b:Nat} {w:World} {V:Nat->Value} {X:Nat->List Value} {C:Nat->Nat->Nat × (Nat->Nat->Int)} {col:Nat->Nat} {p:Nat->Nat} {M:Nat->Nat} {x:Nat->Value} {N0 N2:Nat} {h0 h1 h2 h3 h4 h5 h6 h7 sr:Int}
  (h:Kp B w b V X C col none p) (hl:∀ t,t<3->LeftC B w col t (M t) (x (2+2*t)) (C t (M t)).1 (C t (M t)).2/\WereC w col (x (3+2*t)) (C t (M t)).1 (szK t) (C t (M t)).2)
  (hM:∀ t,t<3->(X (2+2*t)).length=M t/\(X (3+2*t)).length=M t) (hM0:M 0=N0/\M 1=N0/\M 2=N2) (hfew:N0+N2<=30) :
  Calls Tryz.prog 42 #[.pointer (some ⟨b,2,none⟩),.agg #[x 2,x 4,x 6,.int .i64 h0,.int .i64 h1,.int .i64 h2,.int .i64 h3,.int .i64 h4,.int .i64 h5,.int .i64 h6,.int .i64 h7,.int .i64 sr],.agg #[x 3,x 5,x 7,.int .i64 h0,.int .i64 h1,.int .i64 h2,.int .i64 h3,.int .i64 h4,.int .i64 h5,.int .i64 h6,.int .i64 h7,.int .i64 sr],.bool true] w fun e w'=>e=.returned (.bool true)/\∃ V' X' col',Kp B w' b V' X' C col' none p/\(∀ j,2<=j->j<8->(X' j).length=(X j).length+1)/\(∀ j,(j<2\/8<=j)->V' j=V j/\X' j=X j)/\Fix col col' w w':=by
 obtain⟨i0,hi0,hw0,hw1,hw2⟩:=Q3 q5u;obtain⟨i1,hi1,hy0,hy1,hy2⟩:=Q3 q6d;obtain⟨i2,hi2,hz0,hz1,hz2⟩:=Q3 q6k;obtain⟨a2,c2,ex2⟩:=OwnF.shape (t:=0) (hl 0 (by omega)).1.1;rw[show 2+2*0=2 from rfl] at ex2;obtain⟨a3,c3,ex3,ew⟩:=(hl 0 (by omega)).2;clear ew;rw[show 3+2*0=3 from rfl] at ex3;obtain⟨a4,c4,ex4⟩:=OwnF.shape (t:=1) (hl 1 (by omega)).1.1;rw[show 2+2*1=4 from rfl] at ex4;obtain⟨a5,c5,ex5,ew⟩:=(hl 1 (by omega)).2;clear ew;rw[show 3+2*1=5 from rfl] at ex5;obtain⟨a6,c6,ex6⟩:=OwnF.shape (t:=2) (hl 2 (by omega)).1.1;rw[show 2+2*2=6 from rfl] at ex6;obtain⟨a7,c7,ex7,ew⟩:=(hl 2 (by omega)).2;clear ew;rw[show 3+2*2=7 from rfl] at ex7;obtain⟨m0,hm0⟩:∃ m,(C 0 (M 0)).1=m:=⟨_,rfl⟩
 rw[hm0] at ex2 ex3;obtain⟨m1,hm1⟩:∃ m,(C 1 (M 1)).1=m:=⟨_,rfl⟩
 rw[hm1] at ex4 ex5;obtain⟨m2,hm2⟩:∃ m,(C 2 (M 2)).1=m:=⟨_,rfl⟩
 rw[hm2] at ex6 ex7;have HMe:=Z0 hM0;have HFew:=Z0 hfew;have HM:=Z0 hM;have HS0:Hid (∀ W,Out 0 0 w W->Calls Tryz.prog 84 #[.slice a2 m0 c2,.slice a3 m0 c3] W fun e w'=>e=.returned (.bool true)/\Out 0 0 W w'):=fun W o=>by
  have q:=z1k ((OwnF.el (t:=0) (hl 0 (by omega)).1.1).quiet o) ((hl 0 (by omega)).2.el.quiet o) (by have:=(hl 0 (by omega)).1.2.1;omega);rw[show 2+2*0=2 from rfl,show 3+2*0=3 from rfl,ex2,ex3] at q;exact q
 have HS1:Hid (∀ W,Out 0 0 w W->Calls Tryz.prog 85 #[.slice a4 m1 c4,.slice a5 m1 c5] W fun e w'=>e=.returned (.bool true)/\Out 0 0 W w'):=fun W o=>by
  have q:=z0r ((OwnF.el (t:=1) (hl 1 (by omega)).1.1).quiet o) ((hl 1 (by omega)).2.el.quiet o) (by have:=(hl 1 (by omega)).1.2.1;omega);rw[show 2+2*1=4 from rfl,show 3+2*1=5 from rfl,ex4,ex5] at q;exact q
 have HS2:Hid (∀ W,Out 0 0 w W->Calls Tryz.prog 73 #[.slice a6 m2 c6,.slice a7 m2 c7] W fun e w'=>e=.returned (.bool true)/\Out 0 0 W w'):=fun W o=>by
  have q:=z0e ((OwnF.el (t:=2) (hl 2 (by omega)).1.1).quiet o) ((hl 2 (by omega)).2.el.quiet o) (by have:=(hl 2 (by omega)).1.2.1;omega);rw[show 2+2*2=6 from rfl,show 3+2*2=7 from rfl,ex6,ex7] at q;exact q
 have HMany:Hid (∀ W,Out 0 0 w W->Calls Tryz.prog 74 #[.pointer (some ⟨b,2,none⟩)] W fun e w'=>e=.returned (.bool false)/\Out 0 0 W w'):=fun W o=>by
  have q:=z9v (h.quiet o) ((hM 0 (by omega)).1.trans hM0.1) ((hM 2 (by omega)).1.trans hM0.2.2) (by omega);rw[show decide (30<N0+N2)=false from by simp;omega] at q;exact q
 obtain⟨bd,hbd⟩:∃ bd,w.heap.size=bd:=⟨_,rfl⟩
 have HKp:=Z0 (And.intro h hl);rw[ex2,ex3,ex4,ex5,ex6,ex7];have HEx:=Z0 (And.intro ex2 (And.intro ex3 (And.intro ex4 (And.intro ex5 (And.intro ex6 ex7)))));clear h hl hM hM0 hfew ex2 ex3 ex4 ex5 ex6 ex7;go_enter Tryz.func42,Tryz.ntmps42
 go_wp2_with fail;obtain⟨w1,hw1⟩:∃ w1,(w.alloc (.cells #[.slice a2 m0 c2,.slice a4 m1 c4,.slice a6 m2 c6,.int .i64 h0,.int .i64 h1,.int .i64 h2,.int .i64 h3,.int .i64 h4,.int .i64 h5,.int .i64 h6,.int .i64 h7,.int .i64 sr] 81)).alloc (.cells #[.slice a3 m0 c3,.slice a5 m1 c5,.slice a7 m2 c7,.int .i64 h0,.int .i64 h1,.int .i64 h2,.int .i64 h3,.int .i64 h4,.int .i64 h5,.int .i64 h6,.int .i64 h7,.int .i64 sr] 81)=w1:=⟨_,rfl⟩
 have o1:Out 0 0 w w1:=by rw[<-hw1];exact((Out.refl 0 0 w).alloc _).alloc _
 have fD:w1.heap[bd]? = some (.cells #[.slice a2 m0 c2,.slice a4 m1 c4,.slice a6 m2 c6,.int .i64 h0,.int .i64 h1,.int .i64 h2,.int .i64 h3,.int .i64 h4,.int .i64 h5,.int .i64 h6,.int .i64 h7,.int .i64 sr] 81 (0,0)):=by rw[<-hw1,<-hbd];exact(heap_alloc_old _ _ (by simp)).trans (heap_alloc_new _ _)
 have fW:w1.heap[bd+1]? = some (.cells #[.slice a3 m0 c3,.slice a5 m1 c5,.slice a7 m2 c7,.int .i64 h0,.int .i64 h1,.int .i64 h2,.int .i64 h3,.int .i64 h4,.int .i64 h5,.int .i64 h6,.int .i64 h7,.int .i64 sr] 81 (0,0)):=by
  have q:=heap_alloc_new (w.alloc (.cells #[.slice a2 m0 c2,.slice a4 m1 c4,.slice a6 m2 c6,.int .i64 h0,.int .i64 h1,.int .i64 h2,.int .i64 h3,.int .i64 h4,.int .i64 h5,.int .i64 h6,.int .i64 h7,.int .i64 sr] 81)) (.cells #[.slice a3 m0 c3,.slice a5 m1 c5,.slice a7 m2 c7,.int .i64 h0,.int .i64 h1,.int .i64 h2,.int .i64 h3,.int .i64 h4,.int .i64 h5,.int .i64 h6,.int .i64 h7,.int .i64 sr] 81);rw[World.size_alloc,hw1,hbd] at q;exact q
 obtain⟨bw,hbw⟩:∃ bw,bd+1=bw:=⟨_,rfl⟩
 rw[hbw] at fW;(try rw[hw1]);(try rw[hbw]);have HB1:=Z0 (And.intro hbd (And.intro hbw (And.intro o1 (And.intro fD fW))));clear hw1 hbd hbw o1 fD fW;refine(HS0.out _ HB1.out.2.2.1).mono ?_;rintro e w2 ⟨rfl,o2⟩;have HB2:Hid (Out 0 0 w w2/\w2.heap[bd]? = _/\w2.heap[bw]? = _):=⟨HB1.out.2.2.1.trans o2,o2.heap HB1.out.2.2.2.1 z0,o2.heap HB1.out.2.2.2.2 z0⟩
 obtain⟨_,f1,_⟩:=Q5 HB2.out.2.1;obtain⟨_,g1,_⟩:=Q5 HB2.out.2.2;clear o2;go_wp2_with fail;clear f1 g1;refine(HS1.out _ HB2.out.1).mono ?_;rintro e w3 ⟨rfl,o3⟩;have HB3:Hid (Out 0 0 w w3/\w3.heap[bd]? = _/\w3.heap[bw]? = _):=⟨HB2.out.1.trans o3,o3.heap HB2.out.2.1 z0,o3.heap HB2.out.2.2 z0⟩
 obtain⟨_,_,f2,_⟩:=Q5 HB3.out.2.1;obtain⟨_,_,g2,_⟩:=Q5 HB3.out.2.2;clear o3;go_wp2_with fail;clear f2 g2;refine(HS2.out _ HB3.out.1).mono ?_;rintro e w4 ⟨rfl,o4⟩;have HB4:Hid (Out 0 0 w w4/\w4.heap[bd]? = _/\w4.heap[bw]? = _):=⟨HB3.out.1.trans o4,o4.heap HB3.out.2.1 z0,o4.heap HB3.out.2.2 z0⟩
 obtain⟨_,_,_,f3,f4,f5,f6,f7,f8,f9,f10,f11⟩:=Q5 HB4.out.2.1;obtain⟨_,_,_,g3,g4,g5,g6,g7,g8,g9,g10,g11⟩:=Q5 HB4.out.2.2;have e8:=eq8 h0 h1 h2 h3 h4 h5 h6 h7 w4;clear o4;go_wp2_with fail;refine(HMany.out _ HB4.out.1).mono ?_;rintro e w5 ⟨rfl,o5⟩;have HB5:Hid (Out 0 0 w w5/\w5.heap[bd]? = _/\w5.heap[bw]? = _):=⟨HB4.out.1.trans o5,o5.heap HB4.out.2.1 z0,o5.heap HB4.out.2.2 z0⟩
 clear f3 f4 f5 f6 f7 f8 f9 f10 f11 g3 g4 g5 g6 g7 g8 g9 g10 g11 e8 o5;go_wp2_with fail;have hcn:∀ y,y<w.heap.size->z3o (z3o col bd 7) bw 7 y=col y:=fun y hy=>by
  have h1:=HB1.out.1;have h2:=HB1.out.2.1;rw[G9 (by omega),G9 (by omega)]
 have HD0:Hid (DSt B b V X C p M x (z3o (z3o col bd 7) bw 7) w5 0 w5 V X (z3o (z3o col bd 7) bw 7)):=
  ⟨(HKp.out.1.recol fun y hy _=>hcn y hy).quiet HB5.out.1,fun t ht=>⟨((HKp.out.2 t ht).1.recol fun y hy _=>hcn y hy).chg (P:=fun c=>c=9) (Chg.of_out HB5.out.1 _ _) (by omega),((HKp.out.2 t ht).2.recol fun y hy _=>hcn y hy).chg (P:=fun c=>c=9) (Chg.of_out HB5.out.1 _ _) (by omega)⟩,fun j j1 j2=>by omega,fun _ _=>⟨rfl,rfl⟩,Fix.refl _ _⟩
 have HFx:Hid (Fix col (z3o (z3o col bd 7) bw 7) w w5):=(((Fix.refl col w).re (c2:=z3o (z3o col bd 7) bw 7) fun k hk h7=>by rw[hcn k hk];exact h7)).out HB5.out.1;have H7:Hid (z3o (z3o col bd 7) bw 7 bd=7/\z3o (z3o col bd 7) bw 7 bw=7):=⟨by
  have h2:=HB1.out.2.1;rw[G9 (by omega),z1x],z1x _ _ _⟩
 obtain⟨colD,hcolD⟩:∃ c,z3o (z3o col bd 7) bw 7=c:=⟨_,rfl⟩
 rw[hcolD] at HD0 HFx H7;clear hcn hcolD HS0 HS1 HS2 HMany HB1 HB2 HB3 HB4 HKp;obtain⟨aV,cV,eV⟩:=Q8 (HD0.out.1.own 2 (by omega) (by omega));rw[(HD0.out.2.2.2.1 2 (by omega)).1,(HD0.out.2.2.2.1 2 (by omega)).2] at eV;obtain⟨nV,hnV⟩:∃ n,(X 2).length=n:=⟨_,rfl⟩
 have HnV:=Z0 hnV;have HnB:Hid (nV<=30):=by show nV<=30;have h1:=HM.out 0 (by omega);have h2:=HMe.out;have h3:=HFew.out;simp only[show 2+2*0=2 from rfl,show 3+2*0=3 from rfl] at h1;omega
 have cV0:=HD0.out.1.cell 2 (by omega);rw[(HD0.out.2.2.2.1 2 (by omega)).1,eV,hnV] at cV0;rw[hnV] at eV;have HeV:=Z0 eV;obtain⟨x0,x1,x2,_⟩:=Q5 (HD0.out.2.2.2.2.heap HB5.out.2.1 H7.out.1);clear hnV eV;refine H9 (S:=fun w'=>w'.cell? ⟨b,2,none⟩=some (.slice aV nV cV)/\w'.cell? ⟨bd,0,none⟩=some (.slice a2 m0 c2)) (z:=11) (by kernel_rfl) ?hS1 (fun hHeld=>?rest1)
 case hS1=>exact⟨cV0,x0⟩
 obtain⟨Z,hZ⟩:∃ Z,w5.drew=Z:=⟨_,rfl⟩
 have OZ:Out 0 0 w5 Z:=by rw[<-hZ];exact(Out.refl 0 0 _).drew
 rw[hZ] at hHeld ⊢;clear hZ cV0 x0 x1 x2;refine tkT 0 ?_;refine tkT 1 ?_;refine tkT 2 ?_;refine tkT 3 ?_;refine tkT 4 ?_;refine tkT 5 ?_;refine tkT 6 ?_;refine X7 (i:=7) (by kernel_rfl) rfl (fun KK hK=>?_);simp only[xa,xb,xc];go_simp;obtain⟨bb,hbb⟩:∃ b,Z.heap.size=b:=⟨_,rfl⟩
 obtain⟨XA,hXA⟩:∃ W,Z.alloc (.cells #[.slice a2 m0 c2] 30)=W:=⟨_,rfl⟩
 have oA:Out 0 0 Z XA:=by rw[<-hXA];exact(Out.refl 0 0 _).alloc _
 have fN:∀ j u,([.slice a2 m0 c2]:List Value)[j]? = some u->XA.cell? ((⟨bb,0,none⟩:Addr).add j)=some u:=by rw[<-hXA,<-hbb];exact J9 _ _ _
 (try rw[hXA]);(try rw[hbb]);clear hXA hbb;refine hK.out _ _ ?hS9 (fun hHeld2=>?rest9)
 case hS9=>exact⟨oA.cell hHeld.1 z0,oA.cell hHeld.2 z0⟩
 clear hK KK;replace hHeld:=hHeld2;clear hHeld2;(try simp only[Act.put,xa,xb,xc,xd,xe,xf]);refine X7 (i:=8) (by kernel_rfl) rfl (fun KK hK=>?_);have hOw:XA.ownsRow B 30 1 (.slice aV nV cV) nV (X 2):=by
  have q:=X8 (HD0.out.1.own 2 (by omega) (by omega)) (OZ.trans oA) (Nat.zero_le _);rw[(HD0.out.2.2.2.1 2 (by omega)).1,(HD0.out.2.2.2.1 2 (by omega)).2,HeV.out,HnV.out] at q;exact q
 refine z1s (by rfl) _ _ 48 (by rfl) B 30 i0 (.slice none 0 0) 24 Tryz.underlying48 hi0 hw0 hw1 hw2 rfl (.slice aV nV cV) nV (X 2) (by rfl) hOw ⟨bb,0,none⟩ 1 1 [.slice a2 m0 c2] (by rfl) rfl fN (z1v _ rfl) (by decide) (by unfold maxLen;have:=HnB.out;omega) (by have:=HnB.out;omega) (by have h1:=HD0.out.1.hB;have h2:=(OZ.trans oA).size;omega) ?_;intro gA cA XB own1 gr1;clear hOw;have own1':XB.ownsRow B (tyS (2+0)) 1 (.slice (some ⟨gA,0,none⟩) (nV+1) cA) (nV+1) (X (2+0) ++ [x (2+0)]):=by rw[show x (2+0)=.slice a2 m0 c2 from HEx.out.1];exact own1
 have gr1':z5o XA XB (V (2+0)) gA:=by rw[show V (2+0)=.slice aV nV cV from HeV.out];exact gr1
 obtain⟨hb1,V1,X1,col1,hD1⟩:=HD0.out.push (by omega) HM.out HnV.out (OZ.trans oA) own1' gr1';have hcv:=G4 hb1 (i:=2) (by omega);rw[(HD0.out.2.2.2.1 2 (by omega)).1,HeV.out] at hcv;have hcf:=G7 hb1 2;have HDn:=Z0 hD1;have hbx:XB.cell? ⟨bd,0,none⟩=some (.slice a2 m0 c2):=by
  have ch:Chg colD (fun c=>c=10+2) w5 XB:=(Chg.of_out (OZ.trans oA) _ _).trans (Chg.grew gr1' fun y hy=>by
   have q:=HD0.out.1.co 2 (by omega) (by omega) y;rw[(HD0.out.2.2.2.1 2 (by omega)).1] at q;exact q hy)
  have h7:=HD0.out.2.2.2.2.2 bd (Q4 HB5.out.2.1) H7.out.1;have q:=ch.heap (HD0.out.2.2.2.2.heap HB5.out.2.1 H7.out.1) (by rw[h7];omega);obtain⟨x0,x1,x2,_⟩:=Q5 q;exact x0
 clear own1 gr1 own1' gr1' hb1 hD1 fN;refine hK.out _ _ ?hS10 (fun hHeld2=>?rest10)
 case hS10=>exact⟨hcv,hbx⟩
 clear hK KK;replace hHeld:=hHeld2;clear hHeld2;(try simp only[Act.put,xa,xb,xc,xd,xe,xf]);refine X7 (i:=9) (by kernel_rfl) rfl (fun KK hK=>?_);simp only[xa,xb,xc];go_simp;refine hK.out _ _ ?hS11 (fun hHeld2=>?rest11)
 case hS11=>exact hHeld
 clear hK KK;replace hHeld:=hHeld2;clear hHeld2;refine tkT 10 ?_;refine H8 (by kernel_rfl) rfl (fun KK hK=>?_);simp only[xa,xb,xc];clear hbx;go_simp;obtain⟨Y1,hY⟩:∃ W,XB.setCell ⟨b,2,none⟩ (.slice (some ⟨gA,0,none⟩) (nV+1) cA)=W:=⟨_,rfl⟩
 have HD1:Hid (DSt B b V X C p M x colD w5 1 Y1 V1 X1 col1):=by rw[<-hY];exact HDn.out
 (try rw[hY]);clear hY HDn hcv hcf hHeld OZ oA;refine hK.out _ _ ?_;clear hK KK;(try simp only[Act.put,xa,xb,xc,xd,xe,xf]);refine G8 (by kernel_rfl) ?_ _;clear HD0 HeV HnV HnB;go_wp2_with fail;obtain⟨aV,cV,eV⟩:=Q8 (HD1.out.1.own 3 (by omega) (by omega));rw[(HD1.out.2.2.2.1 3 (by omega)).1,(HD1.out.2.2.2.1 3 (by omega)).2] at eV;obtain⟨nV,hnV⟩:∃ n,(X 3).length=n:=⟨_,rfl⟩
 have HnV:=Z0 hnV;have HnB:Hid (nV<=30):=by show nV<=30;have h1:=HM.out 0 (by omega);have h2:=HMe.out;have h3:=HFew.out;simp only[show 2+2*0=2 from rfl,show 3+2*0=3 from rfl] at h1;omega
 have cV0:=HD1.out.1.cell 3 (by omega);rw[(HD1.out.2.2.2.1 3 (by omega)).1,eV,hnV] at cV0;rw[hnV] at eV;have HeV:=Z0 eV;obtain⟨x0,x1,x2,_⟩:=Q5 (HD1.out.2.2.2.2.heap HB5.out.2.2 H7.out.2);clear hnV eV;refine H9 (S:=fun w'=>w'.cell? ⟨b,3,none⟩=some (.slice aV nV cV)/\w'.cell? ⟨bw,0,none⟩=some (.slice a3 m0 c3)) (z:=11) (by kernel_rfl) ?hS13 (fun hHeld=>?rest13)
 case hS13=>exact⟨cV0,x0⟩
 obtain⟨Z,hZ⟩:∃ Z,Y1.drew=Z:=⟨_,rfl⟩
 have OZ:Out 0 0 Y1 Z:=by rw[<-hZ];exact(Out.refl 0 0 _).drew
 rw[hZ] at hHeld ⊢;clear hZ cV0 x0 x1 x2;refine tkT 0 ?_;refine tkT 1 ?_;refine tkT 2 ?_;refine tkT 3 ?_;refine tkT 4 ?_;refine tkT 5 ?_;refine tkT 6 ?_;refine X7 (i:=7) (by kernel_rfl) rfl (fun KK hK=>?_);simp only[xa,xb,xc];go_simp;obtain⟨bb,hbb⟩:∃ b,Z.heap.size=b:=⟨_,rfl⟩
 obtain⟨XA,hXA⟩:∃ W,Z.alloc (.cells #[.slice a3 m0 c3] 30)=W:=⟨_,rfl⟩
 have oA:Out 0 0 Z XA:=by rw[<-hXA];exact(Out.refl 0 0 _).alloc _
 have fN:∀ j u,([.slice a3 m0 c3]:List Value)[j]? = some u->XA.cell? ((⟨bb,0,none⟩:Addr).add j)=some u:=by rw[<-hXA,<-hbb];exact J9 _ _ _
 (try rw[hXA]);(try rw[hbb]);clear hXA hbb;refine hK.out _ _ ?hS21 (fun hHeld2=>?rest21)
 case hS21=>exact⟨oA.cell hHeld.1 z0,oA.cell hHeld.2 z0⟩
 clear hK KK;replace hHeld:=hHeld2;clear hHeld2;(try simp only[Act.put,xa,xb,xc,xd,xe,xf]);refine X7 (i:=8) (by kernel_rfl) rfl (fun KK hK=>?_);have hOw:XA.ownsRow B 30 1 (.slice aV nV cV) nV (X 3):=by
  have q:=X8 (HD1.out.1.own 3 (by omega) (by omega)) (OZ.trans oA) (Nat.zero_le _);rw[(HD1.out.2.2.2.1 3 (by omega)).1,(HD1.out.2.2.2.1 3 (by omega)).2,HeV.out,HnV.out] at q;exact q
 refine z1s (by rfl) _ _ 48 (by rfl) B 30 i0 (.slice none 0 0) 24 Tryz.underlying48 hi0 hw0 hw1 hw2 rfl (.slice aV nV cV) nV (X 3) (by rfl) hOw ⟨bb,0,none⟩ 1 1 [.slice a3 m0 c3] (by rfl) rfl fN (z1v _ rfl) (by decide) (by unfold maxLen;have:=HnB.out;omega) (by have:=HnB.out;omega) (by have h1:=HD1.out.1.hB;have h2:=(OZ.trans oA).size;omega) ?_;intro gA cA XB own1 gr1;clear hOw;have own1':XB.ownsRow B (tyS (2+1)) 1 (.slice (some ⟨gA,0,none⟩) (nV+1) cA) (nV+1) (X (2+1) ++ [x (2+1)]):=by rw[show x (2+1)=.slice a3 m0 c3 from HEx.out.2.1];exact own1
 have gr1':z5o XA XB (V (2+1)) gA:=by rw[show V (2+1)=.slice aV nV cV from HeV.out];exact gr1
 obtain⟨hb1,V2,X2,col2,hD1⟩:=HD1.out.push (by omega) HM.out HnV.out (OZ.trans oA) own1' gr1';have hcv:=G4 hb1 (i:=3) (by omega);rw[(HD1.out.2.2.2.1 3 (by omega)).1,HeV.out] at hcv;have hcf:=G7 hb1 3;have HDn:=Z0 hD1;have hbx:XB.cell? ⟨bw,0,none⟩=some (.slice a3 m0 c3):=by
  have ch:Chg col1 (fun c=>c=10+3) Y1 XB:=(Chg.of_out (OZ.trans oA) _ _).trans (Chg.grew gr1' fun y hy=>by
   have q:=HD1.out.1.co 3 (by omega) (by omega) y;rw[(HD1.out.2.2.2.1 3 (by omega)).1] at q;exact q hy)
  have h7:=HD1.out.2.2.2.2.2 bw (Q4 HB5.out.2.2) H7.out.2;have q:=ch.heap (HD1.out.2.2.2.2.heap HB5.out.2.2 H7.out.2) (by rw[h7];omega);obtain⟨x0,x1,x2,_⟩:=Q5 q;exact x0
 clear own1 gr1 own1' gr1' hb1 hD1 fN;refine hK.out _ _ ?hS22 (fun hHeld2=>?rest22)
 case hS22=>exact⟨hcv,hbx⟩
 clear hK KK;replace hHeld:=hHeld2;clear hHeld2;(try simp only[Act.put,xa,xb,xc,xd,xe,xf]);refine X7 (i:=9) (by kernel_rfl) rfl (fun KK hK=>?_);simp only[xa,xb,xc];go_simp;refine hK.out _ _ ?hS23 (fun hHeld2=>?rest23)
 case hS23=>exact hHeld
 clear hK KK;replace hHeld:=hHeld2;clear hHeld2;refine tkT 10 ?_;refine H8 (by kernel_rfl) rfl (fun KK hK=>?_);simp only[xa,xb,xc];clear hbx;go_simp;obtain⟨Y2,hY⟩:∃ W,XB.setCell ⟨b,3,none⟩ (.slice (some ⟨gA,0,none⟩) (nV+1) cA)=W:=⟨_,rfl⟩
 have HD2:Hid (DSt B b V X C p M x colD w5 2 Y2 V2 X2 col2):=by rw[<-hY];exact HDn.out
 (try rw[hY]);clear hY HDn hcv hcf hHeld OZ oA;refine hK.out _ _ ?_;clear hK KK;(try simp only[Act.put,xa,xb,xc,xd,xe,xf]);refine G8 (by kernel_rfl) ?_ _;clear HD1 HeV HnV HnB;go_wp2_with fail;obtain⟨aV,cV,eV⟩:=Q8 (HD2.out.1.own 4 (by omega) (by omega));rw[(HD2.out.2.2.2.1 4 (by omega)).1,(HD2.out.2.2.2.1 4 (by omega)).2] at eV;obtain⟨nV,hnV⟩:∃ n,(X 4).length=n:=⟨_,rfl⟩
 have HnV:=Z0 hnV;have HnB:Hid (nV<=30):=by show nV<=30;have h1:=HM.out 1 (by omega);have h2:=HMe.out;have h3:=HFew.out;simp only[show 2+2*1=4 from rfl,show 3+2*1=5 from rfl] at h1;omega
 have cV0:=HD2.out.1.cell 4 (by omega);rw[(HD2.out.2.2.2.1 4 (by omega)).1,eV,hnV] at cV0;rw[hnV] at eV;have HeV:=Z0 eV;obtain⟨x0,x1,x2,_⟩:=Q5 (HD2.out.2.2.2.2.heap HB5.out.2.1 H7.out.1);clear hnV eV;refine H9 (S:=fun w'=>w'.cell? ⟨b,4,none⟩=some (.slice aV nV cV)/\w'.cell? ⟨bd,1,none⟩=some (.slice a4 m1 c4)) (z:=11) (by kernel_rfl) ?hS25 (fun hHeld=>?rest25)
 case hS25=>exact⟨cV0,x1⟩
 obtain⟨Z,hZ⟩:∃ Z,Y2.drew=Z:=⟨_,rfl⟩
 have OZ:Out 0 0 Y2 Z:=by rw[<-hZ];exact(Out.refl 0 0 _).drew
 rw[hZ] at hHeld ⊢;clear hZ cV0 x0 x1 x2;refine tkT 0 ?_;refine tkT 1 ?_;refine tkT 2 ?_;refine tkT 3 ?_;refine tkT 4 ?_;refine tkT 5 ?_;refine tkT 6 ?_;refine X7 (i:=7) (by kernel_rfl) rfl (fun KK hK=>?_);simp only[xa,xb,xc];go_simp;obtain⟨bb,hbb⟩:∃ b,Z.heap.size=b:=⟨_,rfl⟩
 obtain⟨XA,hXA⟩:∃ W,Z.alloc (.cells #[.slice a4 m1 c4] 78)=W:=⟨_,rfl⟩
 have oA:Out 0 0 Z XA:=by rw[<-hXA];exact(Out.refl 0 0 _).alloc _
 have fN:∀ j u,([.slice a4 m1 c4]:List Value)[j]? = some u->XA.cell? ((⟨bb,0,none⟩:Addr).add j)=some u:=by rw[<-hXA,<-hbb];exact J9 _ _ _
 (try rw[hXA]);(try rw[hbb]);clear hXA hbb;refine hK.out _ _ ?hS33 (fun hHeld2=>?rest33)
 case hS33=>exact⟨oA.cell hHeld.1 z0,oA.cell hHeld.2 z0⟩
 clear hK KK;replace hHeld:=hHeld2;clear hHeld2;(try simp only[Act.put,xa,xb,xc,xd,xe,xf]);refine X7 (i:=8) (by kernel_rfl) rfl (fun KK hK=>?_);have hOw:XA.ownsRow B 78 1 (.slice aV nV cV) nV (X 4):=by
  have q:=X8 (HD2.out.1.own 4 (by omega) (by omega)) (OZ.trans oA) (Nat.zero_le _);rw[(HD2.out.2.2.2.1 4 (by omega)).1,(HD2.out.2.2.2.1 4 (by omega)).2,HeV.out,HnV.out] at q;exact q
 refine z1s (by rfl) _ _ 49 (by rfl) B 78 i1 (.slice none 0 0) 24 Tryz.underlying49 hi1 hy0 hy1 hy2 rfl (.slice aV nV cV) nV (X 4) (by rfl) hOw ⟨bb,0,none⟩ 1 1 [.slice a4 m1 c4] (by rfl) rfl fN (z1v _ rfl) (by decide) (by unfold maxLen;have:=HnB.out;omega) (by have:=HnB.out;omega) (by have h1:=HD2.out.1.hB;have h2:=(OZ.trans oA).size;omega) ?_;intro gA cA XB own1 gr1;clear hOw;have own1':XB.ownsRow B (tyS (2+2)) 1 (.slice (some ⟨gA,0,none⟩) (nV+1) cA) (nV+1) (X (2+2) ++ [x (2+2)]):=by rw[show x (2+2)=.slice a4 m1 c4 from HEx.out.2.2.1];exact own1
 have gr1':z5o XA XB (V (2+2)) gA:=by rw[show V (2+2)=.slice aV nV cV from HeV.out];exact gr1
 obtain⟨hb1,V3,X3,col3,hD1⟩:=HD2.out.push (by omega) HM.out HnV.out (OZ.trans oA) own1' gr1';have hcv:=G4 hb1 (i:=4) (by omega);rw[(HD2.out.2.2.2.1 4 (by omega)).1,HeV.out] at hcv;have hcf:=G7 hb1 4;have HDn:=Z0 hD1;have hbx:XB.cell? ⟨bd,1,none⟩=some (.slice a4 m1 c4):=by
  have ch:Chg col2 (fun c=>c=10+4) Y2 XB:=(Chg.of_out (OZ.trans oA) _ _).trans (Chg.grew gr1' fun y hy=>by
   have q:=HD2.out.1.co 4 (by omega) (by omega) y;rw[(HD2.out.2.2.2.1 4 (by omega)).1] at q;exact q hy)
  have h7:=HD2.out.2.2.2.2.2 bd (Q4 HB5.out.2.1) H7.out.1;have q:=ch.heap (HD2.out.2.2.2.2.heap HB5.out.2.1 H7.out.1) (by rw[h7];omega);obtain⟨x0,x1,x2,_⟩:=Q5 q;exact x1
 clear own1 gr1 own1' gr1' hb1 hD1 fN;refine hK.out _ _ ?hS34 (fun hHeld2=>?rest34)
 case hS34=>exact⟨hcv,hbx⟩
 clear hK KK;replace hHeld:=hHeld2;clear hHeld2;(try simp only[Act.put,xa,xb,xc,xd,xe,xf]);refine X7 (i:=9) (by kernel_rfl) rfl (fun KK hK=>?_);simp only[xa,xb,xc];go_simp;refine hK.out _ _ ?hS35 (fun hHeld2=>?rest35)
 case hS35=>exact hHeld
 clear hK KK;replace hHeld:=hHeld2;clear hHeld2;refine tkT 10 ?_;refine H8 (by kernel_rfl) rfl (fun KK hK=>?_);simp only[xa,xb,xc];clear hbx;go_simp;obtain⟨Y3,hY⟩:∃ W,XB.setCell ⟨b,4,none⟩ (.slice (some ⟨gA,0,none⟩) (nV+1) cA)=W:=⟨_,rfl⟩
 have HD3:Hid (DSt B b V X C p M x colD w5 3 Y3 V3 X3 col3):=by rw[<-hY];exact HDn.out
 (try rw[hY]);clear hY HDn hcv hcf hHeld OZ oA;refine hK.out _ _ ?_;clear hK KK;(try simp only[Act.put,xa,xb,xc,xd,xe,xf]);refine G8 (by kernel_rfl) ?_ _;clear HD2 HeV HnV HnB;go_wp2_with fail;obtain⟨aV,cV,eV⟩:=Q8 (HD3.out.1.own 5 (by omega) (by omega));rw[(HD3.out.2.2.2.1 5 (by omega)).1,(HD3.out.2.2.2.1 5 (by omega)).2] at eV;obtain⟨nV,hnV⟩:∃ n,(X 5).length=n:=⟨_,rfl⟩
 have HnV:=Z0 hnV;have HnB:Hid (nV<=30):=by show nV<=30;have h1:=HM.out 1 (by omega);have h2:=HMe.out;have h3:=HFew.out;simp only[show 2+2*1=4 from rfl,show 3+2*1=5 from rfl] at h1;omega
 have cV0:=HD3.out.1.cell 5 (by omega);rw[(HD3.out.2.2.2.1 5 (by omega)).1,eV,hnV] at cV0;rw[hnV] at eV;have HeV:=Z0 eV;obtain⟨x0,x1,x2,_⟩:=Q5 (HD3.out.2.2.2.2.heap HB5.out.2.2 H7.out.2);clear hnV eV;refine H9 (S:=fun w'=>w'.cell? ⟨b,5,none⟩=some (.slice aV nV cV)/\w'.cell? ⟨bw,1,none⟩=some (.slice a5 m1 c5)) (z:=11) (by kernel_rfl) ?hS37 (fun hHeld=>?rest37)
 case hS37=>exact⟨cV0,x1⟩
 obtain⟨Z,hZ⟩:∃ Z,Y3.drew=Z:=⟨_,rfl⟩
 have OZ:Out 0 0 Y3 Z:=by rw[<-hZ];exact(Out.refl 0 0 _).drew
 rw[hZ] at hHeld ⊢;clear hZ cV0 x0 x1 x2;refine tkT 0 ?_;refine tkT 1 ?_;refine tkT 2 ?_;refine tkT 3 ?_;refine tkT 4 ?_;refine tkT 5 ?_;refine tkT 6 ?_;refine X7 (i:=7) (by kernel_rfl) rfl (fun KK hK=>?_);simp only[xa,xb,xc];go_simp;obtain⟨bb,hbb⟩:∃ b,Z.heap.size=b:=⟨_,rfl⟩
 obtain⟨XA,hXA⟩:∃ W,Z.alloc (.cells #[.slice a5 m1 c5] 78)=W:=⟨_,rfl⟩
 have oA:Out 0 0 Z XA:=by rw[<-hXA];exact(Out.refl 0 0 _).alloc _
 have fN:∀ j u,([.slice a5 m1 c5]:List Value)[j]? = some u->XA.cell? ((⟨bb,0,none⟩:Addr).add j)=some u:=by rw[<-hXA,<-hbb];exact J9 _ _ _
 (try rw[hXA]);(try rw[hbb]);clear hXA hbb;refine hK.out _ _ ?hS45 (fun hHeld2=>?rest45)
 case hS45=>exact⟨oA.cell hHeld.1 z0,oA.cell hHeld.2 z0⟩
 clear hK KK;replace hHeld:=hHeld2;clear hHeld2;(try simp only[Act.put,xa,xb,xc,xd,xe,xf]);refine X7 (i:=8) (by kernel_rfl) rfl (fun KK hK=>?_);have hOw:XA.ownsRow B 78 1 (.slice aV nV cV) nV (X 5):=by
  have q:=X8 (HD3.out.1.own 5 (by omega) (by omega)) (OZ.trans oA) (Nat.zero_le _);rw[(HD3.out.2.2.2.1 5 (by omega)).1,(HD3.out.2.2.2.1 5 (by omega)).2,HeV.out,HnV.out] at q;exact q
 refine z1s (by rfl) _ _ 49 (by rfl) B 78 i1 (.slice none 0 0) 24 Tryz.underlying49 hi1 hy0 hy1 hy2 rfl (.slice aV nV cV) nV (X 5) (by rfl) hOw ⟨bb,0,none⟩ 1 1 [.slice a5 m1 c5] (by rfl) rfl fN (z1v _ rfl) (by decide) (by unfold maxLen;have:=HnB.out;omega) (by have:=HnB.out;omega) (by have h1:=HD3.out.1.hB;have h2:=(OZ.trans oA).size;omega) ?_;intro gA cA XB own1 gr1;clear hOw;have own1':XB.ownsRow B (tyS (2+3)) 1 (.slice (some ⟨gA,0,none⟩) (nV+1) cA) (nV+1) (X (2+3) ++ [x (2+3)]):=by rw[show x (2+3)=.slice a5 m1 c5 from HEx.out.2.2.2.1];exact own1
 have gr1':z5o XA XB (V (2+3)) gA:=by rw[show V (2+3)=.slice aV nV cV from HeV.out];exact gr1
 obtain⟨hb1,V4,X4,col4,hD1⟩:=HD3.out.push (by omega) HM.out HnV.out (OZ.trans oA) own1' gr1';have hcv:=G4 hb1 (i:=5) (by omega);rw[(HD3.out.2.2.2.1 5 (by omega)).1,HeV.out] at hcv;have hcf:=G7 hb1 5;have HDn:=Z0 hD1;have hbx:XB.cell? ⟨bw,1,none⟩=some (.slice a5 m1 c5):=by
  have ch:Chg col3 (fun c=>c=10+5) Y3 XB:=(Chg.of_out (OZ.trans oA) _ _).trans (Chg.grew gr1' fun y hy=>by
   have q:=HD3.out.1.co 5 (by omega) (by omega) y;rw[(HD3.out.2.2.2.1 5 (by omega)).1] at q;exact q hy)
  have h7:=HD3.out.2.2.2.2.2 bw (Q4 HB5.out.2.2) H7.out.2;have q:=ch.heap (HD3.out.2.2.2.2.heap HB5.out.2.2 H7.out.2) (by rw[h7];omega);obtain⟨x0,x1,x2,_⟩:=Q5 q;exact x1
 clear own1 gr1 own1' gr1' hb1 hD1 fN;refine hK.out _ _ ?hS46 (fun hHeld2=>?rest46)
 case hS46=>exact⟨hcv,hbx⟩
 clear hK KK;replace hHeld:=hHeld2;clear hHeld2;(try simp only[Act.put,xa,xb,xc,xd,xe,xf]);refine X7 (i:=9) (by kernel_rfl) rfl (fun KK hK=>?_);simp only[xa,xb,xc];go_simp;refine hK.out _ _ ?hS47 (fun hHeld2=>?rest47)
 case hS47=>exact hHeld
 clear hK KK;replace hHeld:=hHeld2;clear hHeld2;refine tkT 10 ?_;refine H8 (by kernel_rfl) rfl (fun KK hK=>?_);simp only[xa,xb,xc];clear hbx;go_simp;obtain⟨Y4,hY⟩:∃ W,XB.setCell ⟨b,5,none⟩ (.slice (some ⟨gA,0,none⟩) (nV+1) cA)=W:=⟨_,rfl⟩
 have HD4:Hid (DSt B b V X C p M x colD w5 4 Y4 V4 X4 col4):=by rw[<-hY];exact HDn.out
 (try rw[hY]);clear hY HDn hcv hcf hHeld OZ oA;refine hK.out _ _ ?_;clear hK KK;(try simp only[Act.put,xa,xb,xc,xd,xe,xf]);refine G8 (by kernel_rfl) ?_ _;clear HD3 HeV HnV HnB;go_wp2_with fail;obtain⟨aV,cV,eV⟩:=Q8 (HD4.out.1.own 6 (by omega) (by omega));rw[(HD4.out.2.2.2.1 6 (by omega)).1,(HD4.out.2.2.2.1 6 (by omega)).2] at eV;obtain⟨nV,hnV⟩:∃ n,(X 6).length=n:=⟨_,rfl⟩
 have HnV:=Z0 hnV;have HnB:Hid (nV<=30):=by show nV<=30;have h1:=HM.out 2 (by omega);have h2:=HMe.out;have h3:=HFew.out;simp only[show 2+2*2=6 from rfl,show 3+2*2=7 from rfl] at h1;omega
 have cV0:=HD4.out.1.cell 6 (by omega);rw[(HD4.out.2.2.2.1 6 (by omega)).1,eV,hnV] at cV0;rw[hnV] at eV;have HeV:=Z0 eV;obtain⟨x0,x1,x2,_⟩:=Q5 (HD4.out.2.2.2.2.heap HB5.out.2.1 H7.out.1);clear hnV eV;refine H9 (S:=fun w'=>w'.cell? ⟨b,6,none⟩=some (.slice aV nV cV)/\w'.cell? ⟨bd,2,none⟩=some (.slice a6 m2 c6)) (z:=11) (by kernel_rfl) ?hS49 (fun hHeld=>?rest49)
 case hS49=>exact⟨cV0,x2⟩
 obtain⟨Z,hZ⟩:∃ Z,Y4.drew=Z:=⟨_,rfl⟩
 have OZ:Out 0 0 Y4 Z:=by rw[<-hZ];exact(Out.refl 0 0 _).drew
 rw[hZ] at hHeld ⊢;clear hZ cV0 x0 x1 x2;refine tkT 0 ?_;refine tkT 1 ?_;refine tkT 2 ?_;refine tkT 3 ?_;refine tkT 4 ?_;refine tkT 5 ?_;refine tkT 6 ?_;refine X7 (i:=7) (by kernel_rfl) rfl (fun KK hK=>?_);simp only[xa,xb,xc];go_simp;obtain⟨bb,hbb⟩:∃ b,Z.heap.size=b:=⟨_,rfl⟩
 obtain⟨XA,hXA⟩:∃ W,Z.alloc (.cells #[.slice a6 m2 c6] 70)=W:=⟨_,rfl⟩
 have oA:Out 0 0 Z XA:=by rw[<-hXA];exact(Out.refl 0 0 _).alloc _
 have fN:∀ j u,([.slice a6 m2 c6]:List Value)[j]? = some u->XA.cell? ((⟨bb,0,none⟩:Addr).add j)=some u:=by rw[<-hXA,<-hbb];exact J9 _ _ _
 (try rw[hXA]);(try rw[hbb]);clear hXA hbb;refine hK.out _ _ ?hS57 (fun hHeld2=>?rest57)
 case hS57=>exact⟨oA.cell hHeld.1 z0,oA.cell hHeld.2 z0⟩
 clear hK KK;replace hHeld:=hHeld2;clear hHeld2;(try simp only[Act.put,xa,xb,xc,xd,xe,xf]);refine X7 (i:=8) (by kernel_rfl) rfl (fun KK hK=>?_);have hOw:XA.ownsRow B 70 1 (.slice aV nV cV) nV (X 6):=by
  have q:=X8 (HD4.out.1.own 6 (by omega) (by omega)) (OZ.trans oA) (Nat.zero_le _);rw[(HD4.out.2.2.2.1 6 (by omega)).1,(HD4.out.2.2.2.1 6 (by omega)).2,HeV.out,HnV.out] at q;exact q
 refine z1s (by rfl) _ _ 50 (by rfl) B 70 i2 (.slice none 0 0) 24 Tryz.underlying50 hi2 hz0 hz1 hz2 rfl (.slice aV nV cV) nV (X 6) (by rfl) hOw ⟨bb,0,none⟩ 1 1 [.slice a6 m2 c6] (by rfl) rfl fN (z1v _ rfl) (by decide) (by unfold maxLen;have:=HnB.out;omega) (by have:=HnB.out;omega) (by have h1:=HD4.out.1.hB;have h2:=(OZ.trans oA).size;omega) ?_;intro gA cA XB own1 gr1;clear hOw;have own1':XB.ownsRow B (tyS (2+4)) 1 (.slice (some ⟨gA,0,none⟩) (nV+1) cA) (nV+1) (X (2+4) ++ [x (2+4)]):=by rw[show x (2+4)=.slice a6 m2 c6 from HEx.out.2.2.2.2.1];exact own1
 have gr1':z5o XA XB (V (2+4)) gA:=by rw[show V (2+4)=.slice aV nV cV from HeV.out];exact gr1
 obtain⟨hb1,V5,X5,col5,hD1⟩:=HD4.out.push (by omega) HM.out HnV.out (OZ.trans oA) own1' gr1';have hcv:=G4 hb1 (i:=6) (by omega);rw[(HD4.out.2.2.2.1 6 (by omega)).1,HeV.out] at hcv;have hcf:=G7 hb1 6;have HDn:=Z0 hD1;have hbx:XB.cell? ⟨bd,2,none⟩=some (.slice a6 m2 c6):=by
  have ch:Chg col4 (fun c=>c=10+6) Y4 XB:=(Chg.of_out (OZ.trans oA) _ _).trans (Chg.grew gr1' fun y hy=>by
   have q:=HD4.out.1.co 6 (by omega) (by omega) y;rw[(HD4.out.2.2.2.1 6 (by omega)).1] at q;exact q hy)
  have h7:=HD4.out.2.2.2.2.2 bd (Q4 HB5.out.2.1) H7.out.1;have q:=ch.heap (HD4.out.2.2.2.2.heap HB5.out.2.1 H7.out.1) (by rw[h7];omega);obtain⟨x0,x1,x2,_⟩:=Q5 q;exact x2
 clear own1 gr1 own1' gr1' hb1 hD1 fN;refine hK.out _ _ ?hS58 (fun hHeld2=>?rest58)
 case hS58=>exact⟨hcv,hbx⟩
 clear hK KK;replace hHeld:=hHeld2;clear hHeld2;(try simp only[Act.put,xa,xb,xc,xd,xe,xf]);refine X7 (i:=9) (by kernel_rfl) rfl (fun KK hK=>?_);simp only[xa,xb,xc];go_simp;refine hK.out _ _ ?hS59 (fun hHeld2=>?rest59)
 case hS59=>exact hHeld
 clear hK KK;replace hHeld:=hHeld2;clear hHeld2;refine tkT 10 ?_;refine H8 (by kernel_rfl) rfl (fun KK hK=>?_);simp only[xa,xb,xc];clear hbx;go_simp;obtain⟨Y5,hY⟩:∃ W,XB.setCell ⟨b,6,none⟩ (.slice (some ⟨gA,0,none⟩) (nV+1) cA)=W:=⟨_,rfl⟩
 have HD5:Hid (DSt B b V X C p M x colD w5 5 Y5 V5 X5 col5):=by rw[<-hY];exact HDn.out
 (try rw[hY]);clear hY HDn hcv hcf hHeld OZ oA;refine hK.out _ _ ?_;clear hK KK;(try simp only[Act.put,xa,xb,xc,xd,xe,xf]);refine G8 (by kernel_rfl) ?_ _;clear HD4 HeV HnV HnB;go_wp2_with fail;obtain⟨aV,cV,eV⟩:=Q8 (HD5.out.1.own 7 (by omega) (by omega));rw[(HD5.out.2.2.2.1 7 (by omega)).1,(HD5.out.2.2.2.1 7 (by omega)).2] at eV;obtain⟨nV,hnV⟩:∃ n,(X 7).length=n:=⟨_,rfl⟩
 have HnV:=Z0 hnV;have HnB:Hid (nV<=30):=by show nV<=30;have h1:=HM.out 2 (by omega);have h2:=HMe.out;have h3:=HFew.out;simp only[show 2+2*2=6 from rfl,show 3+2*2=7 from rfl] at h1;omega
 have cV0:=HD5.out.1.cell 7 (by omega);rw[(HD5.out.2.2.2.1 7 (by omega)).1,eV,hnV] at cV0;rw[hnV] at eV;have HeV:=Z0 eV;obtain⟨x0,x1,x2,_⟩:=Q5 (HD5.out.2.2.2.2.heap HB5.out.2.2 H7.out.2);clear hnV eV;refine H9 (S:=fun w'=>w'.cell? ⟨b,7,none⟩=some (.slice aV nV cV)/\w'.cell? ⟨bw,2,none⟩=some (.slice a7 m2 c7)) (z:=11) (by kernel_rfl) ?hS61 (fun hHeld=>?rest61)
 case hS61=>exact⟨cV0,x2⟩
 obtain⟨Z,hZ⟩:∃ Z,Y5.drew=Z:=⟨_,rfl⟩
 have OZ:Out 0 0 Y5 Z:=by rw[<-hZ];exact(Out.refl 0 0 _).drew
 rw[hZ] at hHeld ⊢;clear hZ cV0 x0 x1 x2;refine tkT 0 ?_;refine tkT 1 ?_;refine tkT 2 ?_;refine tkT 3 ?_;refine tkT 4 ?_;refine tkT 5 ?_;refine tkT 6 ?_;refine X7 (i:=7) (by kernel_rfl) rfl (fun KK hK=>?_);simp only[xa,xb,xc];go_simp;obtain⟨bb,hbb⟩:∃ b,Z.heap.size=b:=⟨_,rfl⟩
 obtain⟨XA,hXA⟩:∃ W,Z.alloc (.cells #[.slice a7 m2 c7] 70)=W:=⟨_,rfl⟩
 have oA:Out 0 0 Z XA:=by rw[<-hXA];exact(Out.refl 0 0 _).alloc _
 have fN:∀ j u,([.slice a7 m2 c7]:List Value)[j]? = some u->XA.cell? ((⟨bb,0,none⟩:Addr).add j)=some u:=by rw[<-hXA,<-hbb];exact J9 _ _ _
 (try rw[hXA]);(try rw[hbb]);clear hXA hbb;refine hK.out _ _ ?hS69 (fun hHeld2=>?rest69)
 case hS69=>exact⟨oA.cell hHeld.1 z0,oA.cell hHeld.2 z0⟩
 clear hK KK;replace hHeld:=hHeld2;clear hHeld2;(try simp only[Act.put,xa,xb,xc,xd,xe,xf]);refine X7 (i:=8) (by kernel_rfl) rfl (fun KK hK=>?_);have hOw:XA.ownsRow B 70 1 (.slice aV nV cV) nV (X 7):=by
  have q:=X8 (HD5.out.1.own 7 (by omega) (by omega)) (OZ.trans oA) (Nat.zero_le _);rw[(HD5.out.2.2.2.1 7 (by omega)).1,(HD5.out.2.2.2.1 7 (by omega)).2,HeV.out,HnV.out] at q;exact q
 refine z1s (by rfl) _ _ 50 (by rfl) B 70 i2 (.slice none 0 0) 24 Tryz.underlying50 hi2 hz0 hz1 hz2 rfl (.slice aV nV cV) nV (X 7) (by rfl) hOw ⟨bb,0,none⟩ 1 1 [.slice a7 m2 c7] (by rfl) rfl fN (z1v _ rfl) (by decide) (by unfold maxLen;have:=HnB.out;omega) (by have:=HnB.out;omega) (by have h1:=HD5.out.1.hB;have h2:=(OZ.trans oA).size;omega) ?_;intro gA cA XB own1 gr1;clear hOw;have own1':XB.ownsRow B (tyS (2+5)) 1 (.slice (some ⟨gA,0,none⟩) (nV+1) cA) (nV+1) (X (2+5) ++ [x (2+5)]):=by rw[show x (2+5)=.slice a7 m2 c7 from HEx.out.2.2.2.2.2];exact own1
 have gr1':z5o XA XB (V (2+5)) gA:=by rw[show V (2+5)=.slice aV nV cV from HeV.out];exact gr1
 obtain⟨hb1,V6,X6,col6,hD1⟩:=HD5.out.push (by omega) HM.out HnV.out (OZ.trans oA) own1' gr1';have hcv:=G4 hb1 (i:=7) (by omega);rw[(HD5.out.2.2.2.1 7 (by omega)).1,HeV.out] at hcv;have hcf:=G7 hb1 7;have HDn:=Z0 hD1;have hbx:XB.cell? ⟨bw,2,none⟩=some (.slice a7 m2 c7):=by
  have ch:Chg col5 (fun c=>c=10+7) Y5 XB:=(Chg.of_out (OZ.trans oA) _ _).trans (Chg.grew gr1' fun y hy=>by
   have q:=HD5.out.1.co 7 (by omega) (by omega) y;rw[(HD5.out.2.2.2.1 7 (by omega)).1] at q;exact q hy)
  have h7:=HD5.out.2.2.2.2.2 bw (Q4 HB5.out.2.2) H7.out.2;have q:=ch.heap (HD5.out.2.2.2.2.heap HB5.out.2.2 H7.out.2) (by rw[h7];omega);obtain⟨x0,x1,x2,_⟩:=Q5 q;exact x2
 clear own1 gr1 own1' gr1' hb1 hD1 fN;refine hK.out _ _ ?hS70 (fun hHeld2=>?rest70)
 case hS70=>exact⟨hcv,hbx⟩
 clear hK KK;replace hHeld:=hHeld2;clear hHeld2;(try simp only[Act.put,xa,xb,xc,xd,xe,xf]);refine X7 (i:=9) (by kernel_rfl) rfl (fun KK hK=>?_);simp only[xa,xb,xc];go_simp;refine hK.out _ _ ?hS71 (fun hHeld2=>?rest71)
 case hS71=>exact hHeld
 clear hK KK;replace hHeld:=hHeld2;clear hHeld2;refine tkT 10 ?_;refine H8 (by kernel_rfl) rfl (fun KK hK=>?_);simp only[xa,xb,xc];clear hbx;go_simp;obtain⟨Y6,hY⟩:∃ W,XB.setCell ⟨b,7,none⟩ (.slice (some ⟨gA,0,none⟩) (nV+1) cA)=W:=⟨_,rfl⟩
 have HD6:Hid (DSt B b V X C p M x colD w5 6 Y6 V6 X6 col6):=by rw[<-hY];exact HDn.out
 (try rw[hY]);clear hY HDn hcv hcf hHeld OZ oA;refine hK.out _ _ ?_;clear hK KK;(try simp only[Act.put,xa,xb,xc,xd,xe,xf]);refine G8 (by kernel_rfl) ?_ _;clear HD5 HeV HnV HnB;go_wp2;go_ret;exact⟨rfl,V6,X6,col6,HD6.out.1,fun j j1 j2=>HD6.out.2.2.1 j j1 (by omega),fun j hj=>HD6.out.2.2.2.1 j (by omega),HFx.out.trans HD6.out.2.2.2.2⟩
end Go.Proofs.YtjbbkeoolodeaabGreatDoor
