import Derived.Test.YtjbbkeoolodeaabGreatDoorB24
import Derived.Test.YtjbbkeoolodeaabGreatDoorB25
import Derived.Test.YtjbbkeoolodeaabGreatDoorB26
import Derived.Test.YtjbbkeoolodeaabGreatDoorB27
import Derived.Test.YtjbbkeoolodeaabGreatDoorB19
import Derived.Test.YtjbbkeoolodeaabGreatDoorB23
namespace Go.Proofs.YtjbbkeoolodeaabGreatDoor
open Go.RowKit
set_option linter.unusedVariables false
set_option maxRecDepth 100000
set_option maxHeartbeats 16000000
set_option linter.unusedSimpArgs false
def DIn (B:Nat) (w:World) (col:Nat->Nat) (x:Nat->Value) (n:Nat->Nat) (f:Nat->Nat->Nat->Int):Prop:=
 (∀ t,t<3->OwnF B w t (x (2+2*t)) (n t) (f t)/\n t<=1536/\ElAt w (x (3+2*t)) (n t) (szK t) (f t)/\∀ g,(x (2+2*t)).ownBlock=some g->col g=9)/\∀ t s g,t<3->s<3->t ≠ s->(x (2+2*t)).ownBlock=some g->(x (2+2*s)).ownBlock ≠ some g
theorem q8f {B b:Nat} {w:World} {V:Nat->Value} {X:Nat->List Value} {C:Nat->Nat->Nat × (Nat->Nat->Int)} {col:Nat->Nat} {p:Nat->Nat} {x:Nat->Value} {n:Nat->Nat} {f:Nat->Nat->Nat->Int} {N0 N2:Nat} {h0 h1 h2 h3 h4 h5 h6 h7 sr:Int} {q:Bool}
  (h:Kp B w b V X C col none p) (hl:∀ t,t<3->ElAt w (x (2+2*t)) (n t) (szK t) (f t)/\n t<=1536/\ElAt w (x (3+2*t)) (n t) (szK t) (f t))
  (hM:(X 2).length=N0/\(X 6).length=N2) (hN:N0<=100/\N2<=100) (hmany:30<N0+N2) :
  Calls Tryz.prog 42 #[.pointer (some ⟨b,2,none⟩),.agg #[x 2,x 4,x 6,.int .i64 h0,.int .i64 h1,.int .i64 h2,.int .i64 h3,.int .i64 h4,.int .i64 h5,.int .i64 h6,.int .i64 h7,.int .i64 sr],.agg #[x 3,x 5,x 7,.int .i64 h0,.int .i64 h1,.int .i64 h2,.int .i64 h3,.int .i64 h4,.int .i64 h5,.int .i64 h6,.int .i64 h7,.int .i64 sr],.bool q] w fun e w'=>e=.returned (.bool true)/\Out 0 0 w w':=by
 obtain⟨a2,c2,ex2,ew⟩:=(hl 0 (by omega)).1;clear ew;rw[show 2+2*0=2 from rfl] at ex2;obtain⟨a3,c3,ex3,ew⟩:=(hl 0 (by omega)).2.2;clear ew;rw[show 3+2*0=3 from rfl] at ex3;obtain⟨a4,c4,ex4,ew⟩:=(hl 1 (by omega)).1;clear ew;rw[show 2+2*1=4 from rfl] at ex4;obtain⟨a5,c5,ex5,ew⟩:=(hl 1 (by omega)).2.2;clear ew;rw[show 3+2*1=5 from rfl] at ex5;obtain⟨a6,c6,ex6,ew⟩:=(hl 2 (by omega)).1;clear ew;rw[show 2+2*2=6 from rfl] at ex6;obtain⟨a7,c7,ex7,ew⟩:=(hl 2 (by omega)).2.2;clear ew;rw[show 3+2*2=7 from rfl] at ex7;obtain⟨m0,hm0⟩:∃ m,n 0=m:=⟨_,rfl⟩
 rw[hm0] at ex2 ex3;obtain⟨m1,hm1⟩:∃ m,n 1=m:=⟨_,rfl⟩
 rw[hm1] at ex4 ex5;obtain⟨m2,hm2⟩:∃ m,n 2=m:=⟨_,rfl⟩
 rw[hm2] at ex6 ex7;have HS0:Hid (∀ W,Out 0 0 w W->Calls Tryz.prog 84 #[.slice a2 m0 c2,.slice a3 m0 c3] W fun e w'=>e=.returned (.bool true)/\Out 0 0 W w'):=fun W o=>by
  have q:=z1k ((hl 0 (by omega)).1.quiet o) ((hl 0 (by omega)).2.2.quiet o) (by have:=(hl 0 (by omega)).2.1;omega);rw[show 2+2*0=2 from rfl,show 3+2*0=3 from rfl,ex2,ex3] at q;exact q
 have HS1:Hid (∀ W,Out 0 0 w W->Calls Tryz.prog 85 #[.slice a4 m1 c4,.slice a5 m1 c5] W fun e w'=>e=.returned (.bool true)/\Out 0 0 W w'):=fun W o=>by
  have q:=z0r ((hl 1 (by omega)).1.quiet o) ((hl 1 (by omega)).2.2.quiet o) (by have:=(hl 1 (by omega)).2.1;omega);rw[show 2+2*1=4 from rfl,show 3+2*1=5 from rfl,ex4,ex5] at q;exact q
 have HS2:Hid (∀ W,Out 0 0 w W->Calls Tryz.prog 73 #[.slice a6 m2 c6,.slice a7 m2 c7] W fun e w'=>e=.returned (.bool true)/\Out 0 0 W w'):=fun W o=>by
  have q:=z0e ((hl 2 (by omega)).1.quiet o) ((hl 2 (by omega)).2.2.quiet o) (by have:=(hl 2 (by omega)).2.1;omega);rw[show 2+2*2=6 from rfl,show 3+2*2=7 from rfl,ex6,ex7] at q;exact q
 have HMany:Hid (∀ W,Out 0 0 w W->Calls Tryz.prog 74 #[.pointer (some ⟨b,2,none⟩)] W fun e w'=>e=.returned (.bool true)/\Out 0 0 W w'):=fun W o=>by
  have q:=z9v (h.quiet o) hM.1 hM.2 hN;rw[show decide (30<N0+N2)=true from by simp;omega] at q;exact q
 obtain⟨bd,hbd⟩:∃ bd,w.heap.size=bd:=⟨_,rfl⟩
 rw[ex2,ex3,ex4,ex5,ex6,ex7];have HEx:=Z0 (And.intro ex2 (And.intro ex3 (And.intro ex4 (And.intro ex5 (And.intro ex6 ex7)))));clear h hl hM hN hmany hm0 hm1 hm2 ex2 ex3 ex4 ex5 ex6 ex7;go_enter Tryz.func42,Tryz.ntmps42
 go_wp2_with fail;obtain⟨w1,hw1⟩:∃ w1,(w.alloc (.cells #[.slice a2 m0 c2,.slice a4 m1 c4,.slice a6 m2 c6,.int .i64 h0,.int .i64 h1,.int .i64 h2,.int .i64 h3,.int .i64 h4,.int .i64 h5,.int .i64 h6,.int .i64 h7,.int .i64 sr] 81)).alloc (.cells #[.slice a3 m0 c3,.slice a5 m1 c5,.slice a7 m2 c7,.int .i64 h0,.int .i64 h1,.int .i64 h2,.int .i64 h3,.int .i64 h4,.int .i64 h5,.int .i64 h6,.int .i64 h7,.int .i64 sr] 81)=w1:=⟨_,rfl⟩
 have o1:Out 0 0 w w1:=by rw[<-hw1];exact((Out.refl 0 0 w).alloc _).alloc _
 have fD:w1.heap[bd]? = some (.cells #[.slice a2 m0 c2,.slice a4 m1 c4,.slice a6 m2 c6,.int .i64 h0,.int .i64 h1,.int .i64 h2,.int .i64 h3,.int .i64 h4,.int .i64 h5,.int .i64 h6,.int .i64 h7,.int .i64 sr] 81 (0,0)):=by rw[<-hw1,<-hbd];exact(heap_alloc_old _ _ (by simp)).trans (heap_alloc_new _ _)
 have fW:w1.heap[bd+1]? = some (.cells #[.slice a3 m0 c3,.slice a5 m1 c5,.slice a7 m2 c7,.int .i64 h0,.int .i64 h1,.int .i64 h2,.int .i64 h3,.int .i64 h4,.int .i64 h5,.int .i64 h6,.int .i64 h7,.int .i64 sr] 81 (0,0)):=by
  have q:=heap_alloc_new (w.alloc (.cells #[.slice a2 m0 c2,.slice a4 m1 c4,.slice a6 m2 c6,.int .i64 h0,.int .i64 h1,.int .i64 h2,.int .i64 h3,.int .i64 h4,.int .i64 h5,.int .i64 h6,.int .i64 h7,.int .i64 sr] 81)) (.cells #[.slice a3 m0 c3,.slice a5 m1 c5,.slice a7 m2 c7,.int .i64 h0,.int .i64 h1,.int .i64 h2,.int .i64 h3,.int .i64 h4,.int .i64 h5,.int .i64 h6,.int .i64 h7,.int .i64 sr] 81);rw[World.size_alloc,hw1,hbd] at q;exact q
 obtain⟨bw,hbw⟩:∃ bw,bd+1=bw:=⟨_,rfl⟩
 rw[hbw] at fW;(try rw[hw1]);(try rw[hbw]);have HB1:=Z0 (And.intro hbd (And.intro hbw (And.intro o1 (And.intro fD fW))));clear hw1 hbd hbw o1 fD fW;refine(HS0.out _ HB1.out.2.2.1).mono ?_;rintro e w2 ⟨rfl,o2⟩;have HB2:Hid (Out 0 0 w w2/\w2.heap[bd]? = _/\w2.heap[bw]? = _):=⟨HB1.out.2.2.1.trans o2,o2.heap HB1.out.2.2.2.1 z0,o2.heap HB1.out.2.2.2.2 z0⟩
 obtain⟨_,f1,_⟩:=Q5 HB2.out.2.1;obtain⟨_,g1,_⟩:=Q5 HB2.out.2.2;clear o2;go_wp2_with fail;clear f1 g1;refine(HS1.out _ HB2.out.1).mono ?_;rintro e w3 ⟨rfl,o3⟩;have HB3:Hid (Out 0 0 w w3/\w3.heap[bd]? = _/\w3.heap[bw]? = _):=⟨HB2.out.1.trans o3,o3.heap HB2.out.2.1 z0,o3.heap HB2.out.2.2 z0⟩
 obtain⟨_,_,f2,_⟩:=Q5 HB3.out.2.1;obtain⟨_,_,g2,_⟩:=Q5 HB3.out.2.2;clear o3;go_wp2_with fail;clear f2 g2;refine(HS2.out _ HB3.out.1).mono ?_;rintro e w4 ⟨rfl,o4⟩;have HB4:Hid (Out 0 0 w w4/\w4.heap[bd]? = _/\w4.heap[bw]? = _):=⟨HB3.out.1.trans o4,o4.heap HB3.out.2.1 z0,o4.heap HB3.out.2.2 z0⟩
 obtain⟨_,_,_,f3,f4,f5,f6,f7,f8,f9,f10,f11⟩:=Q5 HB4.out.2.1;obtain⟨_,_,_,g3,g4,g5,g6,g7,g8,g9,g10,g11⟩:=Q5 HB4.out.2.2;have e8:=eq8 h0 h1 h2 h3 h4 h5 h6 h7 w4;clear o4;go_wp2_with fail;refine(HMany.out _ HB4.out.1).mono ?_;rintro e w5 ⟨rfl,o5⟩;have HB5:Hid (Out 0 0 w w5/\w5.heap[bd]? = _/\w5.heap[bw]? = _):=⟨HB4.out.1.trans o5,o5.heap HB4.out.2.1 z0,o5.heap HB4.out.2.2 z0⟩
 clear f3 f4 f5 f6 f7 f8 f9 f10 f11 g3 g4 g5 g6 g7 g8 g9 g10 g11 e8 o5;go_wp2;go_ret;exact⟨rfl,HB5.out.1⟩
theorem q8r {B b:Nat} {w:World} {V:Nat->Value} {X:Nat->List Value} {C:Nat->Nat->Nat × (Nat->Nat->Int)} {col:Nat->Nat} {p:Nat->Nat} {x:Nat->Value} {n:Nat->Nat} {f:Nat->Nat->Nat->Int} {N0 N2 F0 F1 F2:Nat} {h0 h1 h2 h3 h4 h5 h6 h7 sr:Int}
  (h:Kp B w b V X C col none p) (hd:DIn B w col x n f) (hM:x0v X N0 N2 F0 F1 F2) (hF:F0<=8000/\F1<=8000/\F2<=8000) (hfew:N0+N2<=30) :
  Calls Tryz.prog 42 #[.pointer (some ⟨b,2,none⟩),.agg #[x 2,x 4,x 6,.int .i64 h0,.int .i64 h1,.int .i64 h2,.int .i64 h3,.int .i64 h4,.int .i64 h5,.int .i64 h6,.int .i64 h7,.int .i64 sr],.agg #[x 3,x 5,x 7,.int .i64 h0,.int .i64 h1,.int .i64 h2,.int .i64 h3,.int .i64 h4,.int .i64 h5,.int .i64 h6,.int .i64 h7,.int .i64 sr],.bool false] w fun e w'=>e=.returned (.bool true)/\∃ V' X' col',Kp B w' b V' X' C col' none p/\x0v X' N0 N2 (F0+8) (F1+8) (F2+8)/\(∀ j,j<8->V' j=V j/\X' j=X j)/\Fix col col' w w':=by
 have hl:∀ t,t<3->ElAt w (x (2+2*t)) (n t) (szK t) (f t)/\n t<=1536/\ElAt w (x (3+2*t)) (n t) (szK t) (f t):=fun t ht=>⟨(hd.1 t ht).1.el,(hd.1 t ht).2.1,(hd.1 t ht).2.2.1⟩
 have HD:=Z0 hd;have HFs:=Z0 hF;have HLe:=Z0 hM;obtain⟨a2,c2,ex2,ew⟩:=(hl 0 (by omega)).1;clear ew;rw[show 2+2*0=2 from rfl] at ex2;obtain⟨a3,c3,ex3,ew⟩:=(hl 0 (by omega)).2.2;clear ew;rw[show 3+2*0=3 from rfl] at ex3;obtain⟨a4,c4,ex4,ew⟩:=(hl 1 (by omega)).1;clear ew;rw[show 2+2*1=4 from rfl] at ex4;obtain⟨a5,c5,ex5,ew⟩:=(hl 1 (by omega)).2.2;clear ew;rw[show 3+2*1=5 from rfl] at ex5;obtain⟨a6,c6,ex6,ew⟩:=(hl 2 (by omega)).1;clear ew;rw[show 2+2*2=6 from rfl] at ex6;obtain⟨a7,c7,ex7,ew⟩:=(hl 2 (by omega)).2.2;clear ew;rw[show 3+2*2=7 from rfl] at ex7;obtain⟨m0,hm0⟩:∃ m,n 0=m:=⟨_,rfl⟩
 rw[hm0] at ex2 ex3;obtain⟨m1,hm1⟩:∃ m,n 1=m:=⟨_,rfl⟩
 rw[hm1] at ex4 ex5;obtain⟨m2,hm2⟩:∃ m,n 2=m:=⟨_,rfl⟩
 rw[hm2] at ex6 ex7;have HS0:Hid (∀ W,Out 0 0 w W->Calls Tryz.prog 84 #[.slice a2 m0 c2,.slice a3 m0 c3] W fun e w'=>e=.returned (.bool true)/\Out 0 0 W w'):=fun W o=>by
  have q:=z1k ((hl 0 (by omega)).1.quiet o) ((hl 0 (by omega)).2.2.quiet o) (by have:=(hl 0 (by omega)).2.1;omega);rw[show 2+2*0=2 from rfl,show 3+2*0=3 from rfl,ex2,ex3] at q;exact q
 have HS1:Hid (∀ W,Out 0 0 w W->Calls Tryz.prog 85 #[.slice a4 m1 c4,.slice a5 m1 c5] W fun e w'=>e=.returned (.bool true)/\Out 0 0 W w'):=fun W o=>by
  have q:=z0r ((hl 1 (by omega)).1.quiet o) ((hl 1 (by omega)).2.2.quiet o) (by have:=(hl 1 (by omega)).2.1;omega);rw[show 2+2*1=4 from rfl,show 3+2*1=5 from rfl,ex4,ex5] at q;exact q
 have HS2:Hid (∀ W,Out 0 0 w W->Calls Tryz.prog 73 #[.slice a6 m2 c6,.slice a7 m2 c7] W fun e w'=>e=.returned (.bool true)/\Out 0 0 W w'):=fun W o=>by
  have q:=z0e ((hl 2 (by omega)).1.quiet o) ((hl 2 (by omega)).2.2.quiet o) (by have:=(hl 2 (by omega)).2.1;omega);rw[show 2+2*2=6 from rfl,show 3+2*2=7 from rfl,ex6,ex7] at q;exact q
 have HMany:Hid (∀ W,Out 0 0 w W->Calls Tryz.prog 74 #[.pointer (some ⟨b,2,none⟩)] W fun e w'=>e=.returned (.bool false)/\Out 0 0 W w'):=fun W o=>by
  have q:=z9v (h.quiet o) hM.1.1 hM.1.2.2.2.2.1 (by omega);rw[show decide (30<N0+N2)=false from by simp;omega] at q;exact q
 have HKp:=Z0 h;clear hd hF;obtain⟨bd,hbd⟩:∃ bd,w.heap.size=bd:=⟨_,rfl⟩
 rw[ex2,ex3,ex4,ex5,ex6,ex7];have HEx:=Z0 (And.intro ex2 (And.intro ex3 (And.intro ex4 (And.intro ex5 (And.intro ex6 ex7)))));clear h hl hM hfew hm0 hm1 hm2 ex2 ex3 ex4 ex5 ex6 ex7;go_enter Tryz.func42,Tryz.ntmps42
 go_wp2_with fail;obtain⟨w1,hw1⟩:∃ w1,(w.alloc (.cells #[.slice a2 m0 c2,.slice a4 m1 c4,.slice a6 m2 c6,.int .i64 h0,.int .i64 h1,.int .i64 h2,.int .i64 h3,.int .i64 h4,.int .i64 h5,.int .i64 h6,.int .i64 h7,.int .i64 sr] 81)).alloc (.cells #[.slice a3 m0 c3,.slice a5 m1 c5,.slice a7 m2 c7,.int .i64 h0,.int .i64 h1,.int .i64 h2,.int .i64 h3,.int .i64 h4,.int .i64 h5,.int .i64 h6,.int .i64 h7,.int .i64 sr] 81)=w1:=⟨_,rfl⟩
 have o1:Out 0 0 w w1:=by rw[<-hw1];exact((Out.refl 0 0 w).alloc _).alloc _
 have fD:w1.heap[bd]? = some (.cells #[.slice a2 m0 c2,.slice a4 m1 c4,.slice a6 m2 c6,.int .i64 h0,.int .i64 h1,.int .i64 h2,.int .i64 h3,.int .i64 h4,.int .i64 h5,.int .i64 h6,.int .i64 h7,.int .i64 sr] 81 (0,0)):=by rw[<-hw1,<-hbd];exact(heap_alloc_old _ _ (by simp)).trans (heap_alloc_new _ _)
 have fW:w1.heap[bd+1]? = some (.cells #[.slice a3 m0 c3,.slice a5 m1 c5,.slice a7 m2 c7,.int .i64 h0,.int .i64 h1,.int .i64 h2,.int .i64 h3,.int .i64 h4,.int .i64 h5,.int .i64 h6,.int .i64 h7,.int .i64 sr] 81 (0,0)):=by
  have q:=heap_alloc_new (w.alloc (.cells #[.slice a2 m0 c2,.slice a4 m1 c4,.slice a6 m2 c6,.int .i64 h0,.int .i64 h1,.int .i64 h2,.int .i64 h3,.int .i64 h4,.int .i64 h5,.int .i64 h6,.int .i64 h7,.int .i64 sr] 81)) (.cells #[.slice a3 m0 c3,.slice a5 m1 c5,.slice a7 m2 c7,.int .i64 h0,.int .i64 h1,.int .i64 h2,.int .i64 h3,.int .i64 h4,.int .i64 h5,.int .i64 h6,.int .i64 h7,.int .i64 sr] 81);rw[World.size_alloc,hw1,hbd] at q;exact q
 obtain⟨bw,hbw⟩:∃ bw,bd+1=bw:=⟨_,rfl⟩
 rw[hbw] at fW;(try rw[hw1]);(try rw[hbw]);have HB1:=Z0 (And.intro hbd (And.intro hbw (And.intro o1 (And.intro fD fW))));clear hw1 hbd hbw o1 fD fW;refine(HS0.out _ HB1.out.2.2.1).mono ?_;rintro e w2 ⟨rfl,o2⟩;have HB2:Hid (Out 0 0 w w2/\w2.heap[bd]? = _/\w2.heap[bw]? = _):=⟨HB1.out.2.2.1.trans o2,o2.heap HB1.out.2.2.2.1 z0,o2.heap HB1.out.2.2.2.2 z0⟩
 obtain⟨_,f1,_⟩:=Q5 HB2.out.2.1;obtain⟨_,g1,_⟩:=Q5 HB2.out.2.2;clear o2;go_wp2_with fail;clear f1 g1;refine(HS1.out _ HB2.out.1).mono ?_;rintro e w3 ⟨rfl,o3⟩;have HB3:Hid (Out 0 0 w w3/\w3.heap[bd]? = _/\w3.heap[bw]? = _):=⟨HB2.out.1.trans o3,o3.heap HB2.out.2.1 z0,o3.heap HB2.out.2.2 z0⟩
 obtain⟨_,_,f2,_⟩:=Q5 HB3.out.2.1;obtain⟨_,_,g2,_⟩:=Q5 HB3.out.2.2;clear o3;go_wp2_with fail;clear f2 g2;refine(HS2.out _ HB3.out.1).mono ?_;rintro e w4 ⟨rfl,o4⟩;have HB4:Hid (Out 0 0 w w4/\w4.heap[bd]? = _/\w4.heap[bw]? = _):=⟨HB3.out.1.trans o4,o4.heap HB3.out.2.1 z0,o4.heap HB3.out.2.2 z0⟩
 obtain⟨_,_,_,f3,f4,f5,f6,f7,f8,f9,f10,f11⟩:=Q5 HB4.out.2.1;obtain⟨_,_,_,g3,g4,g5,g6,g7,g8,g9,g10,g11⟩:=Q5 HB4.out.2.2;have e8:=eq8 h0 h1 h2 h3 h4 h5 h6 h7 w4;clear o4;go_wp2_with fail;refine(HMany.out _ HB4.out.1).mono ?_;rintro e w5 ⟨rfl,o5⟩;have HB5:Hid (Out 0 0 w w5/\w5.heap[bd]? = _/\w5.heap[bw]? = _):=⟨HB4.out.1.trans o5,o5.heap HB4.out.2.1 z0,o5.heap HB4.out.2.2 z0⟩
 obtain⟨x0,_⟩:=Q5 HB5.out.2.1;clear f3 f4 f5 f6 f7 f8 f9 f10 f11 g3 g4 g5 g6 g7 g8 g9 g10 g11 e8 o5;go_wp2_with fail;obtain⟨colA,A1,A2,A3,A4,A5,A6⟩:∃ colA,Kp B w5 b V X C colA none p/\(∀ g,(x 2).ownBlock=some g->colA g=8)/\(∀ g,(x 4).ownBlock=some g->colA g=7)/\(∀ g,(x 6).ownBlock=some g->colA g=7)/\(colA bd=7/\colA bw=7)/\Fix col colA w w5:=by
  have h1:=HB1.out.1;have h2:=HB1.out.2.1;have lt:∀ t,t<3->∀ g,(x (2+2*t)).ownBlock=some g->g<bd:=fun t ht g hg=>by have:=(HD.out.1 t ht).1.lt hg;omega
  have hc:∀ y,y<w.heap.size->col y ≠ 9->(if y=bd\/y=bw then 7 else if (x 2).ownBlock=some y then 8 else if (x 4).ownBlock=some y\/(x 6).ownBlock=some y then 7 else col y)=col y:=fun y hy h9=>by
   rw[if_neg (by omega),if_neg (fun e=>h9 ((HD.out.1 0 (by omega)).2.2.2 y e)),if_neg (fun e=>by rcases e with e | e;exact h9 ((HD.out.1 1 (by omega)).2.2.2 y e);exact h9 ((HD.out.1 2 (by omega)).2.2.2 y e))]
  refine⟨_,(HKp.out.recol (col':=fun y=>if y=bd\/y=bw then 7 else if (x 2).ownBlock=some y then 8 else if (x 4).ownBlock=some y\/(x 6).ownBlock=some y then 7 else col y) hc).quiet HB5.out.1,fun g hg=>?_,fun g hg=>?_,fun g hg=>?_,⟨?_,?_⟩,((Fix.refl col w).re fun k hk h7=>?_).out HB5.out.1⟩
  ·have:=lt 0 (by omega) g hg
   show (if g=bd\/g=bw then 7 else if (x 2).ownBlock=some g then 8 else if (x 4).ownBlock=some g\/(x 6).ownBlock=some g then 7 else col g)=8
   rw[if_neg (by omega),if_pos hg]
  ·have:=lt 1 (by omega) g hg
   show (if g=bd\/g=bw then 7 else if (x 2).ownBlock=some g then 8 else if (x 4).ownBlock=some g\/(x 6).ownBlock=some g then 7 else col g)=7
   rw[if_neg (by omega),if_neg (HD.out.2 1 0 g (by omega) (by omega) (by omega) hg),if_pos (.inl hg)]
  ·have:=lt 2 (by omega) g hg
   show (if g=bd\/g=bw then 7 else if (x 2).ownBlock=some g then 8 else if (x 4).ownBlock=some g\/(x 6).ownBlock=some g then 7 else col g)=7
   rw[if_neg (by omega),if_neg (HD.out.2 2 0 g (by omega) (by omega) (by omega) hg),if_pos (.inr hg)]
  ·show (if bd=bd\/bd=bw then _ else _)=7
   rw[if_pos (.inl rfl)]
  ·show (if bw=bd\/bw=bw then _ else _)=7
   rw[if_pos (.inr rfl)]
  ·exact(hc k hk (by omega)).trans h7
 have HA1:=Z0 (And.intro A3 (And.intro A4 (And.intro A5 A6)));have hMk0:=q3d A1 ((HD.out.1 0 (by omega)).1.quiet HB5.out.1) (HD.out.1 0 (by omega)).2.1 A2 HLe.out.2.1 (by have:=HFs.out;omega);rw[show 2+2*0=2 from rfl,HEx.out.1] at hMk0;have HMk0:=Z0 hMk0;clear A1 A2 A3 A4 A5 A6 hMk0 x0;refine HMk0.out.mono ?_;rintro e w6 ⟨rfl,V1,X1,col1,k1,k2,k3,k4⟩;have hsz6:=k4.1.size;have HB6:Hid (w6.heap[bd]? = _/\w6.heap[bw]? = _):=⟨k4.heap HB5.out.2.1 HA1.out.2.2.1.1,k4.heap HB5.out.2.2 HA1.out.2.2.1.2⟩
 have g5:∀ t,t<3->∀ g,(x (2+2*t)).ownBlock=some g->g<w5.heap.size:=fun t ht g hg=>Nat.lt_of_lt_of_le ((HD.out.1 t ht).1.lt hg) HB5.out.1.size
 have hO4:OwnF B w6 1 (x 4) (n 1) (f 1):=((HD.out.1 1 (by omega)).1.quiet HB5.out.1).chg k4.1 (fun g hg=>by rw[HA1.out.1 g hg];omega);have hO6:OwnF B w6 2 (x 6) (n 2) (f 2):=((HD.out.1 2 (by omega)).1.quiet HB5.out.1).chg k4.1 (fun g hg=>by rw[HA1.out.2.1 g hg];omega);have c4:∀ g,(x 4).ownBlock=some g->col1 g=7:=fun g hg=>k4.2 g (g5 1 (by omega) g hg) (HA1.out.1 g hg)
 have c6:∀ g,(x 6).ownBlock=some g->col1 g=7:=fun g hg=>k4.2 g (g5 2 (by omega) g hg) (HA1.out.2.1 g hg)
 have d7:col1 bd=7/\col1 bw=7:=⟨k4.2 bd (Q4 HB5.out.2.1) HA1.out.2.2.1.1,k4.2 bw (Q4 HB5.out.2.2) HA1.out.2.2.1.2⟩
 have F6:Fix col col1 w w6:=HA1.out.2.2.2.trans k4;obtain⟨colB,B1,B2,B3,B4,B5⟩:∃ colB,Kp B w6 b V1 X1 C colB none p/\(∀ g,(x 4).ownBlock=some g->colB g=8)/\(∀ g,(x 6).ownBlock=some g->colB g=7)/\(colB bd=7/\colB bw=7)/\Fix col colB w w6:=by
  have h1:=HB1.out.1;have h2:=HB1.out.2.1;refine⟨fun y=>if (x 4).ownBlock=some y then 8 else col1 y,k1.recol7 fun y hy _ h7=>if_neg (fun e=>h7 (c4 y e)),fun g hg=>if_pos hg,fun g hg=>(if_neg (HD.out.2 2 1 g (by omega) (by omega) (by omega) hg)).trans (c6 g hg),⟨(if_neg (fun e=>by have:=(HD.out.1 1 (by omega)).1.lt e;omega)).trans d7.1,(if_neg (fun e=>by have:=(HD.out.1 1 (by omega)).1.lt e;omega)).trans d7.2⟩,F6.re2 fun k hk h7 h8=>(if_neg (fun e=>by have:=(HD.out.1 1 (by omega)).2.2.2 k e;omega)).trans h8⟩
 have HA2:=Z0 (And.intro B3 (And.intro B4 (And.intro B5 (And.intro k2 k3))));have HO6:=Z0 hO6;have hMk1:=q3i B1 hO4 (HD.out.1 1 (by omega)).2.1 B2 (K:=F1) (by rw[(k3 9 (by omega) (by omega)).2,(k3 12 (by omega) (by omega)).2];exact HLe.out.2.2.1) (by have:=HFs.out;omega);rw[HEx.out.2.2.1] at hMk1;have HMk1:=Z0 hMk1;obtain⟨_,x1,_⟩:=Q5 HB6.out.1;clear B1 B2 B3 B4 B5 hMk1 hO4 hO6 c4 c6 d7 F6 k1 k2 k3 k4 hsz6 g5;go_wp2_with fail;clear x1;refine HMk1.out.mono ?_;rintro e w7 ⟨rfl,V2,X2,col2,k1,k2,k3,k4⟩;have HB7:Hid (w7.heap[bd]? = _/\w7.heap[bw]? = _):=⟨k4.heap HB6.out.1 HA2.out.2.1.1,k4.heap HB6.out.2 HA2.out.2.1.2⟩
 have hO6:OwnF B w7 2 (x 6) (n 2) (f 2):=HO6.out.chg k4.1 (fun g hg=>by rw[HA2.out.1 g hg];omega);have c6:∀ g,(x 6).ownBlock=some g->col2 g=7:=fun g hg=>k4.2 g (HO6.out.lt hg) (HA2.out.1 g hg)
 have F7:Fix col col2 w w7:=HA2.out.2.2.1.trans k4;obtain⟨colC,B1,B2,B5⟩:∃ colC,Kp B w7 b V2 X2 C colC none p/\(∀ g,(x 6).ownBlock=some g->colC g=8)/\Fix col colC w w7:=by
  refine⟨fun y=>if (x 6).ownBlock=some y then 8 else col2 y,k1.recol7 fun y hy _ h7=>if_neg (fun e=>h7 (c6 y e)),fun g hg=>if_pos hg,F7.re2 fun k hk h7 h8=>(if_neg (fun e=>by have:=(HD.out.1 2 (by omega)).2.2.2 k e;omega)).trans h8⟩
 have hX2:X2 10=X 10/\X2 13=X 13:=⟨(k3 10 (by omega) (by omega)).2.trans (HA2.out.2.2.2.2 10 (by omega) (by omega)).2,(k3 13 (by omega) (by omega)).2.trans (HA2.out.2.2.2.2 13 (by omega) (by omega)).2⟩
 have hMk2:=q2g B1 hO6 (HD.out.1 2 (by omega)).2.1 B2 (K:=F2) (by rw[hX2.1,hX2.2];exact HLe.out.2.2.2) (by have:=HFs.out;omega);rw[HEx.out.2.2.2.2.1] at hMk2;have HMk2:=Z0 hMk2;have HA3:=Z0 (And.intro B5 (And.intro k2 k3));obtain⟨_,_,x2,_⟩:=Q5 HB7.out.1;clear B1 B2 B5 hMk2 hO6 c6 F7 k1 k2 k3 k4 hX2 HMk1;go_wp2_with fail;clear x2;refine HMk2.out.mono ?_;rintro e w8 ⟨rfl,V3,X3,col3,k1,k2,k3,k4⟩;have FIN:Hid (∃ V' X' col',Kp B w8 b V' X' C col' none p/\x0v X' N0 N2 (F0+8) (F1+8) (F2+8)/\(∀ j,j<8->V' j=V j/\X' j=X j)/\Fix col col' w w8):=by
  have sm:∀ j,j<8->V3 j=V j/\X3 j=X j:=fun j hj=>by
   obtain⟨y1,y2⟩:=k3 j (by omega) (by omega);obtain⟨y3,y4⟩:=HA3.out.2.2 j (by omega) (by omega);obtain⟨y5,y6⟩:=HA2.out.2.2.2.2 j (by omega) (by omega);exact⟨y1.trans (y3.trans y5),y2.trans (y4.trans y6)⟩
  refine⟨V3,X3,col3,k1,⟨?_,?_,?_,k2⟩,sm,HA3.out.1.trans k4⟩
  ·rw[(sm 2 (by omega)).2,(sm 3 (by omega)).2,(sm 4 (by omega)).2,(sm 5 (by omega)).2,(sm 6 (by omega)).2,(sm 7 (by omega)).2];exact HLe.out.1
  ·rw[(k3 8 (by omega) (by omega)).2,(k3 11 (by omega) (by omega)).2,(HA3.out.2.2 8 (by omega) (by omega)).2,(HA3.out.2.2 11 (by omega) (by omega)).2];exact HA2.out.2.2.2.1
  ·rw[(k3 9 (by omega) (by omega)).2,(k3 12 (by omega) (by omega)).2];exact HA3.out.2.1
 clear k1 k2 k3 k4;go_wp2;go_ret;exact⟨rfl,FIN.out⟩
def q5d (n:Nat):Sp->List Int->Bool
 | _,[]=>true
 | st,z :: l=>(alF n st 3 z 0).2.1 == 0 && q5d n (alF n st 3 z 0).2.2.2 l
def Sim (n:Nat) (F0:Nat->Nat->Bool) (T:Nat->Int × Int × Int) (Y9 fs:Nat->Int) (st:Sp):Prop:=
 T=st.S/\∀ c:Nat,c<8->0<=Y9 c/\0<=fs c/\((fs c=0/\∀ a,a<64*n->fr n st (c:Int) a=(F0 c a && decide (Y9 c<=(a:Int)))) ∨
  (0<fs c/\(∀ a,a<64*n->Y9 c<=(a:Int)->F0 c a=false)/\(cnt (fr n st (c:Int)) (64*n):Int)=fs c))
theorem j1t {P:Nat->Bool} {a:Nat} (ha:P a=true):∀ k,a<k->cnt P k=cnt (upd P a false) k+1
 | 0,h=>by omega
 | k+1,h=>by
  by_cases e:a=k
  ·subst e
   show cnt P a+(if P a then 1 else 0)=cnt (upd P a false) a+(if upd P a false a then 1 else 0)+1
   rw[ha,z2o (S:=P) (T:=upd P a false) (k:=a) (fun j hj=>by unfold upd;rw[if_neg (by omega)])];have:upd P a false a=false:=by unfold upd;rw[if_pos rfl]
   rw[this];simp
  ·have ih:=j1t ha k (by omega)
   show cnt P k+(if P k then 1 else 0)=cnt (upd P a false) k+(if upd P a false k then 1 else 0)+1
   have:upd P a false k=P k:=by unfold upd;rw[if_neg (by omega)]
   rw[this];omega
theorem j3w {c:Int} {w b:Nat} (h:ClsN c w b):cnt (fun j=>K7 c j && decide (j ≠ 0)) 64=b-1:=by
 rcases h with ⟨rfl,rfl,rfl⟩ | ⟨rfl,rfl,rfl⟩ | ⟨rfl,rfl,rfl⟩ | ⟨rfl,rfl,rfl⟩ | ⟨rfl,rfl,rfl⟩ | ⟨rfl,rfl,rfl⟩ | ⟨rfl,rfl,rfl⟩ | ⟨rfl,rfl,rfl⟩ <;> decide +kernel
theorem j3o {P:Nat->Bool} {n p:Nat} (hp:p<n) (h:∀ i,i / 64 ≠ p->P i=false):cnt P (64*n)=cnt (fun j=>P (64*p+j)) 64:=by
 obtain⟨d,rfl⟩:∃ d,n=p+1+d:=⟨n-p-1,by omega⟩
 rw[show 64*(p+1+d)=64*p+(64+64*d) from by omega,q0m,q0m];rw[z4q (S:=P) (k:=64*p) (fun j hj=>h j (by omega))];rw[z4q (k:=64*d) (fun j hj=>h (64*p+(64+j)) (by omega))];omega
theorem j8c {c:Nat} (hc:c<8):ClsN (c:Int) (wN (c:Int)) (64 / wN (c:Int))/\J6 (c:Int)=((64 / wN (c:Int):Nat):Int)/\U7 (c:Int)=true/\2<=64 / wN (c:Int):=by
 have:c=0\/c=1\/c=2\/c=3\/c=4\/c=5\/c=6\/c=7:=by omega
 rcases this with rfl | rfl | rfl | rfl | rfl | rfl | rfl | rfl <;> (unfold ClsN;decide)
theorem j3u {n:Nat} {r0:Raw} {T:Nat->Int × Int × Int} {Y9 fs:Nat->Int} {st:Sp} (hi:Inv n st) (hR:Rt n st) (h:Sim n r0.F T Y9 fs st) (z:Int) :
  (plT n r0 T Y9 fs z).1=((alF n st 3 z 0).2.1 == 0)/\((alF n st 3 z 0).2.1=0->Inv n (alF n st 3 z 0).2.2.2/\Rt n (alF n st 3 z 0).2.2.2/\Sim n r0.F (plT n r0 T Y9 fs z).2.1 (plT n r0 T Y9 fs z).2.2.1 (plT n r0 T Y9 fs z).2.2.2 (alF n st 3 z 0).2.2.2):=by
 by_cases hz:1<=z/\z<=1024
 case neg=>
  have hf:W8 3 z=false:=by
   cases e:W8 3 z with
   | false=>rfl
   | true=>exact absurd ⟨(J8 e).2.2.1,(J8 e).2.2.2⟩ hz
  have ha:alF n st 3 z 0=(0,24,0,st):=by unfold alF;rw[hf];rfl
  have hp:¬ 0<J4 z:=by unfold J4;rw[if_neg (by omega)];omega
  have ho:¬ 0<=ofV z:=by unfold ofV;repeat' split <;> omega
  unfold plT;rw[ha,if_neg hp,if_neg ho];exact⟨rfl,fun h=>by simp at h⟩
 case pos=>
 obtain⟨z1,z2⟩:=hz;have hf:=x1v z1 z2;obtain⟨hT,hc⟩:=h;by_cases h32:32<z
 ·have hp:J4 z=(z+63) / 64:=by unfold J4;rw[if_pos ⟨h32,z2⟩]
  have hk:=z6f h32 z2;have hrb:q4b ((z+63) / 64)=true:=by unfold q4b;simp;omega
  have hpl:K5 n st z=(U2 st.S n ((z+63) / 64).toNat).map fun p=>(64*p,false):=by unfold K5;rw[if_pos h32]
  unfold plT;rw[if_pos (by rw[hp];omega),hp,hT];unfold trE trS;rw[if_pos hrb,if_pos hrb];rcases z6r (t:=0) hi hR hf with ⟨a1,a2⟩ | ⟨a,fresh,a1,a2,a3,a4,a5,a6,a7⟩
  ·rw[hpl] at a1;cases e:U2 st.S n ((z+63) / 64).toNat with
   | some p=>rw[e] at a1;cases a1
   | none=>rw[a2];exact⟨rfl,fun h=>by simp at h⟩
  ·rw[hpl] at a1;cases e:U2 st.S n ((z+63) / 64).toNat with
   | none=>rw[e] at a1;cases a1
   | some p=>
    rw[e] at a1;simp only[Option.map_some,Option.some.injEq,Prod.mk.injEq] at a1;obtain⟨rfl,rfl⟩:=a1;obtain⟨t1,t2,t3,t4⟩:=z3j (t:=0) hi hf h32 e;rw[a2];refine⟨rfl,fun _=>⟨a3,a4,?_,fun c hc8=>?_⟩⟩
    ·show setR st.S p ((z+63) / 64).toNat=Y0 st (64*p) false z
     unfold Y0;rw[if_pos h32,show 64*p / 64=p from by omega]
    ·rw[t2];exact hc c hc8
 ·have hp:¬ 0<J4 z:=by unfold J4;rw[if_neg (by omega)];omega
  obtain⟨o1,o2,o3⟩:=W9 z1 (by omega);obtain⟨c,hcz,hc8⟩:=j4c z hp o1;obtain⟨k1,k2,k3,k4⟩:=j8c hc8;have hpl:K5 n st z=if 0<=nf n st (c:Int) 0 then some ((nf n st (c:Int) 0).toNat,false) else (U2 st.S n 1).map fun p=>(64*p,true):=by unfold K5;rw[if_neg h32,hcz]
  unfold plT;rw[if_neg hp,if_pos o1,hcz,Int.toNat_natCast];obtain⟨q1,q2,q3⟩:=hc c hc8;unfold plB
  -- where a block is free,it is taken
  have took:∀ i:Nat,nf n st (c:Int) 0=(i:Int)->(alF n st 3 z 0).2.1=0/\Inv n (alF n st 3 z 0).2.2.2/\Rt n (alF n st 3 z 0).2.2.2/\(alF n st 3 z 0).2.2.2.S=st.S/\(∀ d,fr n (alF n st 3 z 0).2.2.2 d=upd (fr n st d) i false)/\(∀ d,d ≠ (c:Int)->fr n st d i=false):=by
   intro i e;rw[e,if_pos (by omega),Int.toNat_natCast] at hpl;rcases z6r (t:=0) hi hR hf with ⟨a1,a2⟩ | ⟨a,fresh,a1,a2,a3,a4,a5,a6,a7⟩
   ·rw[hpl] at a1;cases a1
   ·rw[hpl] at a1;simp only[Option.some.injEq,Prod.mk.injEq] at a1;obtain⟨rfl,rfl⟩:=a1;have hfi:fr n st (c:Int) i=true:=by
     rcases Q1 (fr n st (c:Int)) (64*n) 0 with ⟨e1,_⟩ | ⟨i',e1,_,_,e4,_⟩
     ·have:nf n st (c:Int) 0 = -1:=e1;omega
     ·have:nf n st (c:Int) 0=(i':Int):=e1;rw[show i=i' from by omega];exact e4
    obtain⟨t1,t2,t3⟩:=z0t (t:=0) hi hf (by omega) (by rw[hcz];exact hfi);rw[a2];refine⟨rfl,a3,a4,?_,t2,fun d hd=>t3 d (by rw[hcz];exact hd)⟩
    show Y0 st i false z=st.S
    unfold Y0;rw[if_neg (by omega)];rfl
  have others:∀ i d:Nat,(∀ d,d ≠ (c:Int)->fr n st d i=false)->d ≠ c->upd (fr n st (d:Int)) i false=fr n st (d:Int):=by
   intro i d h1 h2;funext j
   unfold upd;split
   ·rename_i e;rw[e];exact(h1 _ (by omega)).symm
   ·rfl
  rcases q3 with ⟨s1,s2⟩ | ⟨s1,s2,s3⟩
  ·rw[if_neg (by omega)]
   -- the free ones are those of the space that was there,from a place on
   have hsame:nxr (r0.F c) (64*n) (Y9 c).toNat=nf n st (c:Int) 0:=by
    unfold nf;rcases Q1 (r0.F c) (64*n) (Y9 c).toNat with ⟨e1,e2⟩ | ⟨i,e1,e2,e3,e4,e5⟩
    ·rcases Q1 (fr n st (c:Int)) (64*n) 0 with ⟨g1,g2⟩ | ⟨j,g1,g2,g3,g4,g5⟩
     ·rw[e1,g1]
     ·exfalso
      rw[s2 j g2] at g4;have:r0.F c j=false:=e2 j (by simp at g4;omega) g2;rw[this] at g4;simp at g4
    ·have hge:Y9 c<=(i:Int):=by
      by_cases hh:(Y9 c).toNat<=64*n
      ·have:=e3 hh;omega
      ·exfalso
       have:nxr (r0.F c) (64*n) (Y9 c).toNat = -1:=by unfold nxr;rw[q3b _ _ _ (by omega),if_neg (by omega)]
       omega
     have hi2:fr n st (c:Int) i=true:=by rw[s2 i e2,e4];simp;omega
     rcases Q1 (fr n st (c:Int)) (64*n) 0 with ⟨g1,g2⟩ | ⟨j,g1,g2,g3,g4,g5⟩
     ·have:=g2 i (Nat.zero_le _) e2;rw[hi2] at this;cases this
     ·rw[e1,g1];have hj:r0.F c j=true/\Y9 c<=(j:Int):=by rw[s2 j g2] at g4;simpa using g4
      have h1:¬ i<j:=fun hh=>by have:=g5 i (Nat.zero_le _) hh;rw[hi2] at this;cases this
      have h2:¬ j<i:=fun hh=>by have:=e5 j (by omega) hh;rw[hj.1] at this;cases this
      omega
   rw[hsame];rcases Q1 (fr n st (c:Int)) (64*n) 0 with ⟨g1,g2⟩ | ⟨j,g1,g2,g3,g4,g5⟩
   ·have g1':nf n st (c:Int) 0 = -1:=g1;rw[g1',if_neg (by omega)];rw[g1',if_neg (by omega)] at hpl;unfold tcE tcS;rw[if_pos k3,if_pos k3,hT];rcases z6r (t:=0) hi hR hf with ⟨a1,a2⟩ | ⟨a,fresh,a1,a2,a3,a4,a5,a6,a7⟩
    ·rw[hpl] at a1;cases e:U2 st.S n 1 with
     | some p=>rw[e] at a1;cases a1
     | none=>rw[a2];exact⟨rfl,fun h=>by simp at h⟩
    ·rw[hpl] at a1;cases e:U2 st.S n 1 with
     | none=>rw[e] at a1;cases a1
     | some p=>
      rw[e] at a1;simp only[Option.map_some,Option.some.injEq,Prod.mk.injEq] at a1;obtain⟨rfl,rfl⟩:=a1;obtain⟨t1,t2,t3,t4,t5⟩:=z0v (t:=0) hi hf (by omega) e;rw[a2];simp only[Option.isSome_some,if_true];refine⟨rfl,fun _=>⟨a3,a4,?_,fun d hd=>?_⟩⟩
      ·show setC st.S p (c:Int)=Y0 st (64*p) true z
       unfold Y0;rw[if_neg h32,if_pos rfl,show 64*p / 64=p from by omega,hcz]
      ·by_cases ed:d=c
       ·subst ed;refine⟨q1,?_,.inr ⟨?_,?_,?_⟩⟩
        ·unfold z3k;rw[if_pos rfl,k2];omega
        ·unfold z3k;rw[if_pos rfl,k2];omega
        ·intro a ha hfa;have:=g2 a (Nat.zero_le _) ha;rw[s2 a ha] at this;cases hF:r0.F d a with
         | false=>rfl
         | true=>rw[hF] at this;simp at this;omega
        ·unfold z3k;rw[if_pos rfl,k2];have hout:∀ i,i / 64 ≠ p->fr n (V8 n st (64*p) true 3 z 0) (d:Int) i=false:=by
          intro i hip;rw[t2,if_neg hip];by_cases hin:i<64*n
          ·exact g2 i (Nat.zero_le _) hin
          ·exact q9x n st _ i (by omega)
         rw[j3o t4 hout];have hin:cnt (fun j=>fr n (V8 n st (64*p) true 3 z 0) (d:Int) (64*p+j)) 64=cnt (fun j=>K7 (d:Int) j && decide (j ≠ 0)) 64:=by
          refine z2o fun j hj=>?_
          rw[t2,if_pos (by omega),hcz,show (64*p+j) % 64=j from by omega];have:decide (64*p+j ≠ 64*p)=decide (j ≠ 0):=by simp only[decide_eq_decide];omega
          rw[this];simp
         rw[hin,j3w k1];omega
       ·obtain⟨p1,p2,p3⟩:=hc d hd;have hfd:fr n (V8 n st (64*p) true 3 z 0) (d:Int)=fr n st (d:Int):=by
         funext i
         rw[t2];by_cases hip:i / 64=p
         ·rw[if_pos hip,hcz,show decide ((d:Int)=(c:Int))=false from by simp;omega];cases hq:fr n st (d:Int) i with
          | false=>rfl
          | true=>
           have:=(fr_iff.1 hq).2.1;rw[hip,t5] at this;simp at this
         ·rw[if_neg hip]
        rw[hfd];have:z3k fs c (J6 (c:Int)-1) d=fs d:=by unfold z3k;rw[if_neg ed]
        (try dsimp only);simp only[this];exact⟨p1,p2,p3⟩
   ·have g1':nf n st (c:Int) 0=(j:Int):=g1;rw[g1',if_pos (by omega)];obtain⟨w1,w2,w3,w4,w5,w6⟩:=took j g1';refine⟨by rw[w1];rfl,fun _=>⟨w2,w3,by rw[w4];exact hT,fun d hd=>?_⟩⟩;rw[w5];by_cases ed:d=c
    ·subst ed;refine⟨by show 0<=z3k Y9 d ((j:Int)+1) d;unfold z3k;rw[if_pos rfl];omega,q2,.inl ⟨s1,fun a ha=>?_⟩⟩;have e1:z3k Y9 d ((j:Int)+1) d=(j:Int)+1:=by unfold z3k;rw[if_pos rfl]
     (try dsimp only);simp only[e1];have hjj:Y9 d<=(j:Int):=by rw[s2 j g2] at g4;simp at g4;exact g4.2
     unfold upd;by_cases ea:a=j
     ·rw[if_pos ea,ea];simp;omega
     ·rw[if_neg ea,s2 a ha];by_cases hl:a<j
      ·have:=g5 a (Nat.zero_le _) hl;rw[s2 a ha] at this;rw[this,show decide ((j:Int)+1<=(a:Int))=false from by simp;omega];simp
      ·rw[show decide (Y9 d<=(a:Int))=true from by simp;omega,show decide ((j:Int)+1<=(a:Int))=true from by simp;omega]
    ·rw[others j d w6 ed];have:z3k Y9 c ((j:Int)+1) d=Y9 d:=by unfold z3k;rw[if_neg ed]
     (try dsimp only);simp only[this];exact hc d hd
  ·rw[if_pos s1]
   -- blocks of a page that was taken are left
   rcases Q1 (fr n st (c:Int)) (64*n) 0 with ⟨g1,g2⟩ | ⟨j,g1,g2,g3,g4,g5⟩
   ·exfalso
    have:=z4q (S:=fr n st (c:Int)) (k:=64*n) (fun j hj=>g2 j (Nat.zero_le _) hj);omega
   ·have g1':nf n st (c:Int) 0=(j:Int):=g1;obtain⟨w1,w2,w3,w4,w5,w6⟩:=took j g1';refine⟨by rw[w1];rfl,fun _=>⟨w2,w3,by rw[w4];exact hT,fun d hd=>?_⟩⟩;rw[w5];by_cases ed:d=c
    ·subst ed;have hcu:=j1t g4 (64*n) g2;have e1:z3k fs d (fs d-1) d=fs d-1:=by unfold z3k;rw[if_pos rfl]
     (try dsimp only);simp only[e1];refine⟨q1,by omega,?_⟩;by_cases e0:fs d=1
     ·left
      refine⟨by omega,fun a ha=>?_⟩;have hz0:cnt (upd (fr n st (d:Int)) j false) (64*n)=0:=by omega
      rw[q6j hz0 a ha];by_cases hfa:Y9 d<=(a:Int)
      ·rw[s2 a ha hfa];rfl
      ·rw[show decide (Y9 d<=(a:Int))=false from by simp;omega];simp
     ·right
      exact⟨by omega,s2,by omega⟩
    ·rw[others j d w6 ed];have:z3k fs c (fs c-1) d=fs d:=by unfold z3k;rw[if_neg ed]
     (try dsimp only);simp only[this];exact hc d hd
theorem j2o {n:Nat} {r0:Raw}:∀ (l:List Int) {T:Nat->Int × Int × Int} {Y9 fs:Nat->Int} {st:Sp},Inv n st->Rt n st->Sim n r0.F T Y9 fs st->z5d n r0 T Y9 fs l=q5d n st l
 | [],_,_,_,_,_,_,_=>rfl
 | z :: l,T,Y9,fs,st,hi,hR,h=>by
  obtain⟨h1,h2⟩:=j3u hi hR h z;unfold z5d q5d;rw[h1];cases e:((alF n st 3 z 0).2.1 == 0) with
  | false=>rfl
  | true=>
   obtain⟨a,b,c⟩:=h2 (by simpa using e);rw[j2o l a b c]
theorem q9u {n:Nat} {st:Sp} (hi:Inv n st) (hR:Rt n st) (l:List Int):z5d n (Z6 n st) st.S (fun _=>0) (fun _=>0) l=q5d n st l:=
 j2o l hi hR ⟨rfl,fun c _=>⟨Int.le_refl _,Int.le_refl _,.inl ⟨rfl,fun a _=>by show _=(fr n st (c:Int) a && _);simp⟩⟩⟩
def fW (st:Sp) (j _i:Nat):Int:=st.W j
def fP (st:Sp) (j i:Nat):Int:=fld (st.S ((j*3+i) / 3)) ((j*3+i) % 3)
def fO (l:List (Nat × Blk)) (j i:Nat):Int:=if i=0 then ((atB l j).1:Int) else if i=1 then (atB l j).2.1 else if i=2 then (atB l j).2.2.1 else if i=3 then (atB l j).2.2.2.1 else (atB l j).2.2.2.2
theorem j6q:∀ (l:List (Nat × Blk)) (j i:Nat),j<l.length->i<5->(bks l)[j*5+i]? = some (.int .i64 (fO l j i))
 | [],j,i,hj,_=>by simp at hj
 | q :: l,0,i,_,hi=>by
  have:i=0\/i=1\/i=2\/i=3\/i=4:=by omega
  rcases this with rfl | rfl | rfl | rfl | rfl <;> rfl
 | q :: l,j+1,i,hj,hi=>by
  have ih:=j6q l j i (by simpa using hj) hi;have e:fO (q :: l) (j+1) i=fO l j i:=by unfold fO atB;simp
  rw[q5v,e,show (j+1)*5+i=(j*5+i)+5 from by omega];simpa using ih
end Go.Proofs.YtjbbkeoolodeaabGreatDoor
