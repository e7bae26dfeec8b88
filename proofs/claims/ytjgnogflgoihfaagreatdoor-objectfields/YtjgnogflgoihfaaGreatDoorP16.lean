import Derived.Test.YtjgnogflgoihfaaGreatDoorP15
set_option linter.unusedSimpArgs false
set_option linter.unusedVariables false
set_option maxHeartbeats 16000000
set_option maxRecDepth 100000
namespace Go.Proofs.YtjgnogflgoihfaaGreatDoor
open Go.RowKit
theorem z7z {k z:Int} (hf:B7 k z=true) {x:Nat}:x ∈ z0i k z ↔ 1<=x/\(x:Int)<z/\z3t k x ≠ 1:=by
 unfold z0i q0l;rw[if_pos hf,List.mem_filter,List.mem_range];have:=z4b hf;simp;omega
theorem x2d {n a:Nat} {k z:Int} {i:Nat}:∀ {l:List Nat} {W:Nat->Int},(∀ x ∈ l,a+x<64*n)->mkF n a k z W l i=if ∃ x ∈ l,i=a+x then z1r (J6 k z ((i:Int)-a)) else W i
 | [],W,_=>by simp[mkF]
 | x :: l,W,h=>by
  show mkF n a k z (F3 n W ((a:Int)+x) (z1r (J6 k z x))) l i=_
  rw[x2d fun y hy=>h y (by simp[hy])];by_cases c:∃ y ∈ l,i=a+y
  ·rw[if_pos c,if_pos (by obtain⟨y,h1,h2⟩:=c;exact⟨y,by simp[h1],h2⟩)]
  ·rw[if_neg c];by_cases e:i=a+x
   ·rw[if_pos ⟨x,by simp,e⟩];subst e;rw[show ((a:Int)+(x:Int))=((a+x:Nat):Int) from by omega,q2k (h x (by simp)),show ((a+x:Nat):Int)-(a:Int)=(x:Int) from by omega]
   ·rw[if_neg (by
     rintro⟨y,h1,h2⟩;rcases List.mem_cons.1 h1 with h1 | h1;· subst h1;exact e h2
     ·exact c ⟨y,h1,h2⟩)]
    exact z4s (by omega)
def dmW (a:Nat) (k z:Int) (W:Nat->Int) (j:Nat):Nat->Int:=fun i=>if a<i/\i<a+j/\J6 k z ((i:Int)-a) ≠ 1 then z1r (J6 k z ((i:Int)-a)) else W i
theorem x5y {n a:Nat} {k z:Int} {W:Nat->Int} (hf:B7 k z=true) (hn:(a:Int)+z<=64*n):dmW a k z W z.toNat=mkF n a k z W (z0i k z):=by
 funext i
 have hz:=z4b hf;rw[x2d fun x hx=>by have:=(z7z hf).1 hx;omega];unfold dmW;by_cases c:a<i/\i<a+z.toNat
 ·have hr:J6 k z ((i:Int)-a)=z3t k ((i:Int)-a):=by
   unfold J6;rw[if_pos ⟨hf,by omega,by omega⟩]
  have hi:(i:Int)-a=((i-a:Nat):Int):=by omega
  by_cases e:J6 k z ((i:Int)-a) ≠ 1
  ·rw[if_pos ⟨c.1,c.2,e⟩,if_pos];refine⟨i-a,(z7z hf).2 ⟨by omega,by omega,?_⟩,by omega⟩;rw[<-hi,<-hr];exact e
  ·rw[if_neg (fun h=>e h.2.2),if_neg];rintro⟨x,h1,h2⟩;obtain⟨_,_,h3⟩:=(z7z hf).1 h1;apply e;rw[hr,show (i:Int)-a=(x:Int) from by omega];exact h3
 ·rw[if_neg (fun h=>c ⟨h.1,h.2.1⟩),if_neg];rintro⟨x,h1,h2⟩;have:=(z7z hf).1 h1;omega
theorem j8u {a:Nat} {k z:Int} {W:Nat->Int}:dmW a k z W 1=W:=by
 funext i
 unfold dmW;rw[if_neg (by omega)]
theorem j4b {a j:Nat} {k z:Int} {W:Nat->Int} (h1:1<=j) (i:Nat):dmW a k z W (j+1) i=if i=a+j/\J6 k z j ≠ 1 then z1r (J6 k z j) else dmW a k z W j i:=by
 unfold dmW;by_cases e:i=a+j
 ·subst e;rw[show ((a+j:Nat):Int)-(a:Int)=(j:Int) from by omega];by_cases c:J6 k z j ≠ 1
  ·rw[if_pos ⟨by omega,by omega,c⟩,if_pos ⟨rfl,c⟩]
  ·rw[if_neg (fun h=>c h.2.2),if_neg (fun h=>c h.2),if_neg (by omega)]
 ·rw[if_neg (c:=i=a+j/\_) (fun h=>e h.1)];by_cases c:a<i/\i<a+j/\J6 k z ((i:Int)-a) ≠ 1
  ·rw[if_pos c,if_pos ⟨c.1,by omega,c.2.2⟩]
  ·rw[if_neg c,if_neg (fun h=>c ⟨h.1,by omega,h.2.2⟩)]
end Go.Proofs.YtjgnogflgoihfaaGreatDoor
namespace Go.Proofs.YtjgnogflgoihfaaGreatDoor
open Go.ChangeShapes Go.WideShapes Go.ChangeAt Go.RowKit
theorem q8o (j:Nat) (h:j<7):(j<3/\W8 (j+1:Nat)=W8 j+2)\/(3<=j/\j<6/\W8 (j+1:Nat)=W8 j+4)\/(6<=j/\W8 (j+1:Nat)=W8 j+12):=by
 have hi:j=0\/j=1\/j=2\/j=3\/j=4\/j=5\/j=6:=by omega
 rcases hi with rfl | rfl | rfl | rfl | rfl | rfl | rfl <;> decide
theorem z4p (c:Int):0<=W8 c/\W8 c<=32:=by rcases z1b c with ⟨x,y,hx,hy,c0,c7,h⟩ | ⟨hx,hy,hc⟩ <;> omega
theorem z5g (c:Int):0<=B4 c/\B4 c<=32:=by rcases z1b c with ⟨x,y,hx,hy,c0,c7,h⟩ | ⟨hx,hy,hc⟩ <;> omega
theorem z7m (c:Int) (w:World):Kz 166 #[Iz c] w fun e w'=>e=.returned (Iz (W8 c))/\w'=w:=by
 by_cases hc:0<=c/\c<8
 ·obtain⟨h1,h2⟩:=hc;obtain⟨k,rfl⟩:∃ k:Nat,c=k:=⟨c.toNat,by omega⟩
  have hk:k<8:=by omega
  go_enter Tryz.func166,Tryz.ntmps166
  go_wp2;go_loopw [3,4] (fun n i wr=>∃ j:Nat,j<=k/\i=Iz j/\n=Iz (W8 j)/\wr=w) (fun _ i _=>k-(intOf i).toNat)
  case atStart=>exact⟨0,by omega,by simp,by rfl,rfl⟩
  case round=>
   obtain⟨j,hj,rfl,rfl,rfl⟩:=hrel;by_cases hjk:j<k
   ·have hjk':(j:Int)<k:=by omega
    have hr:=z4p j;have hs:=q8o j (by omega);generalize hx:W8 (j+1:Nat)=x' at hs
    generalize W8 j=x at *
    obtain⟨r1,r2⟩:=hr;rcases hs with ⟨s1,s2⟩ | ⟨s1,s2,s3⟩ | ⟨s1,s2⟩
    all_goals
     go_wp2;go_roundw
     case rel=>exact⟨j+1,by omega,by simp,by rw[hx];simp;omega,trivial⟩
     case measure=>simp[intOf];omega
   ·have:j=k:=by omega
    subst this;go_wp2;go_ret;exact⟨rfl,rfl⟩
 ·have hc:c<0\/8<=c:=by omega
  rw[z7a hc];rcases hc with h | h
  all_goals
   go_enter Tryz.func166,Tryz.ntmps166
   go_wp2;go_ret;exact⟨rfl,rfl⟩
theorem z5c (c v:Int) (h:W8 c=v) (w:World):Calls Tryz.prog 166 #[.int .i64 c] w fun e w'=>e=.returned (.int .i64 v)/\w'=w:=by
 rw[<-h];exact z7m c w
theorem fit (c:Int) (x y:Int) (hx:W8 c=x) (hy:B4 c=y) (n:Nat):0<x->(((n+1:Int)*x<=64) ↔ (n:Int)<y):=by
 intro h0;rcases z1b c with ⟨x',y',hx',hy',c0,c7,h⟩ | ⟨hx',hy',hc⟩
 ·rw[hx] at hx';rw[hy] at hy';subst hx' hy';rcases h with ⟨_,rfl,rfl⟩ | ⟨_,rfl,rfl⟩ | ⟨_,rfl,rfl⟩ | ⟨_,rfl,rfl⟩ | ⟨_,rfl,rfl⟩ | ⟨_,rfl,rfl⟩ | ⟨_,rfl,rfl⟩ | ⟨_,rfl,rfl⟩ <;> omega
 ·omega
theorem j2l {c:Int} (h:W8 c=0):B4 c=0:=by rcases z1b c with ⟨x,y,hx,hy,c0,c7,h⟩ | ⟨hx,hy,hc⟩ <;> omega
theorem z3j (c:Int) (w:World):Kz 151 #[Iz c] w fun e w'=>e=.returned (Iz (B4 c))/\w'=w:=by
 have H:=Q3 (z5c c _ rfl);have HF:=Q3 (fit c _ _ rfl rfl);have HN:=Q3 (j2l (c:=c));obtain⟨x1,x2⟩:=z4p c;obtain⟨y1,y2⟩:=z5g c;generalize B4 c=y at *
 generalize W8 c=x at *
 go_enter Tryz.func151,Tryz.ntmps151
 go_wp2_with (go_at_call 166;refine Q4 (H.out _) ?_);go_loopw [4] (fun n wr=>∃ k:Nat,(k:Int)<=y/\n=Iz k/\wr=w) (fun n _=>32-(intOf n).toNat)
 case atStart=>exact⟨0,by omega,by simp,rfl⟩
 case round=>
  obtain⟨k,hk,rfl,rfl⟩:=hrel;by_cases hx:x=0
  ·have hy:=HN.out hx;subst hx;have:k=0:=by omega
   subst this hy;go_wp2;go_ret;exact⟨rfl,rfl⟩
  ·have hx0:0<x:=by omega
   have hf:=HF.out k hx0;have hp1:0<=((k:Int)+1)*x:=Int.mul_nonneg (by omega) x1;have hp2:((k:Int)+1)*x<=33*32:=Int.mul_le_mul (by omega) x2 x1 (by omega);have kO:wrap64 (((k:Int)+1)*x)=((k:Int)+1)*x:=by unfold wrap64;omega
   by_cases hky:(k:Int)<y
   ·have hz:=hf.2 hky;go_wp2;go_roundw
    case rel=>exact⟨k+1,by omega,by simp,trivial⟩
    case measure=>simp[intOf];omega
   ·have:y=k:=by omega
    have hz:64<((k:Int)+1)*x:=by have:=fun h=>hky (hf.1 h);omega
    subst this;go_wp2;go_ret;exact⟨rfl,rfl⟩
theorem z7j (c v:Int) (h:B4 c=v) (w:World):Calls Tryz.prog 151 #[.int .i64 c] w fun e w'=>e=.returned (.int .i64 v)/\w'=w:=by
 rw[<-h];exact z3j c w
theorem z4j (s:Int) (w:World):Kz 117 #[Iz s] w fun e w'=>e=.returned (Iz (ofV s))/\w'=w:=by
 by_cases hs:1<=s/\s<=1024
 ·obtain⟨s1,s2⟩:=hs;have HF:=Q3 (q9t s1 s2);obtain⟨q1,q2⟩:=x2i s1 s2;generalize ofV s=q at *
  go_enter Tryz.func117,Tryz.ntmps117
  go_wp2;go_loopw [3] (fun i wr=>∃ k:Nat,(k:Int)<=q/\i=Iz k/\wr=w) (fun i _=>8-(intOf i).toNat)
  case atStart=>exact⟨0,by omega,by simp,rfl⟩
  case round=>
   obtain⟨k,hk,rfl,rfl⟩:=hrel;by_cases hk8:k<8
   ·have hf:=HF.out k hk8;have hk8':(k:Int)<8:=by omega
    have HW:=Q3 (z5c k _ rfl);generalize W8 k=x at hf HW
    by_cases hx:x<s
    ·have hkq:=hf.1 hx;go_wp2_with (go_at_call 166;refine Q4 (HW.out _) ?_);go_roundw
     case rel=>exact⟨k+1,by omega,by simp,trivial⟩
     case measure=>simp[intOf];omega
    ·have hx':s<=x:=by omega
     have hkq:q=k:=by have:=fun h=>hx (hf.2 h);omega
     subst hkq;go_wp2_with (go_at_call 166;refine Q4 (HW.out _) ?_);go_ret;exact⟨rfl,rfl⟩
   ·have hkq:k=8:=by omega
    have:q=8:=by omega
    subst hkq this;go_wp2;go_ret;exact⟨rfl,rfl⟩
 ·have hs:s<1\/1024<s:=by omega
  rw[j5s hs];rcases hs with h | h
  all_goals
   go_enter Tryz.func117,Tryz.ntmps117
   go_wp2;go_ret;exact⟨rfl,rfl⟩
theorem q9z (s v:Int) (h:ofV s=v) (w:World):Calls Tryz.prog 117 #[.int .i64 s] w fun e w'=>e=.returned (.int .i64 v)/\w'=w:=by
 rw[<-h];exact z4j s w
theorem z4k (s:Int) (w:World):Kz 164 #[Iz s] w fun e w'=>e=.returned (Iz (B5 s))/\w'=w:=by
 by_cases hs:32<s/\s<=1024
 ·have HO:=Q3 (q9z s 8 (ofV_eight.2 hs));have hp:B5 s=(s+63) / 64:=by unfold B5;rw[if_pos hs]
  rw[hp];obtain⟨s1,s2⟩:=hs;have HF:∀ n:Nat,((n:Int)*64<s ↔ (n:Int)<(s+63) / 64):=by intro n;omega
  have hq:0<=(s+63) / 64/\(s+63) / 64<=16:=by omega
  obtain⟨q1,q2⟩:=hq;have HF:=Q3 HF;clear hp;generalize (s+63) / 64=q at *
  go_enter Tryz.func164,Tryz.ntmps164
  go_wp2_with (go_at_call 117;refine Q4 (HO.out _) ?_);go_loopw [3] (fun i wr=>∃ k:Nat,(k:Int)<=q/\i=Iz k/\wr=w) (fun i _=>16-(intOf i).toNat)
  case atStart=>exact⟨0,by omega,by simp,rfl⟩
  case round=>
   obtain⟨k,hk,rfl,rfl⟩:=hrel;have hf:=HF.out k;by_cases hx:(k:Int)<q
   ·have hkq:=hf.2 hx;go_wp2;go_roundw
    case rel=>exact⟨k+1,by omega,by simp,trivial⟩
    case measure=>simp[intOf];omega
   ·have hkq:q=k:=by omega
    have hx':s<=k*64:=by have:=fun h=>hx (hf.1 h);omega
    subst hkq;go_wp2;go_ret;exact⟨rfl,rfl⟩
 ·have hq:(ofV s != 8)=true:=by simpa using fun h=>hs (ofV_eight.1 h)
  have hp:B5 s=0:=by unfold B5;rw[if_neg hs]
  have HO:=Q3 (q9z s _ rfl);rw[hp];generalize ofV s=q at *
  clear hp;go_enter Tryz.func164,Tryz.ntmps164
  go_wp2_with (go_at_call 117;refine Q4 (HO.out _) ?_);go_ret;exact⟨rfl,rfl⟩
theorem z7l (c i:Int) (w:World):Kz 152 #[Iz c,Iz i] w fun e w'=>e=.returned (Iz (z1s c i))/\w'=w:=by
 obtain⟨b2,b1⟩:=z5g c;have hw:=z4p c;by_cases hi:0<=i/\i<B4 c
 ·obtain⟨i1,i2⟩:=hi;have hp1:0<=i*W8 c:=Int.mul_nonneg i1 hw.1;have hp2:i*W8 c<=32*32:=Int.mul_le_mul (by omega) hw.2 hw.1 (by omega);have hs:z1s c i=i*W8 c:=by unfold z1s;rw[if_pos ⟨i1,i2⟩]
  rw[hs];have HB:=Q3 (z7j c _ rfl);have HW:=Q3 (z5c c _ rfl);clear hs hw;generalize B4 c=y at *
  generalize W8 c=x at *
  have kO:wrap64 (i*x)=i*x:=by unfold wrap64;omega
  clear hp1 hp2;go_enter Tryz.func152,Tryz.ntmps152
  go_wp2_with (first
   | (go_at_call 151;refine Q4 (HB.out _) ?_)
   | (go_at_call 166;refine Q4 (HW.out _) ?_))
  go_ret;refine⟨G4 ?_,rfl⟩;first | rfl | exact kO
 ·have hs:z1s c i = -1:=by unfold z1s;rw[if_neg hi]
  rw[hs];have HB:=Q3 (z7j c _ rfl);clear hs hw b1 b2;generalize B4 c=y at *
  have hi:i<0\/(0<=i/\y<=i):=by omega
  rcases hi with h | ⟨h1,h2⟩
  all_goals
   go_enter Tryz.func152,Tryz.ntmps152
   go_wp2_with (go_at_call 151;refine Q4 (HB.out _) ?_);go_ret;exact⟨rfl,rfl⟩
theorem q7v (a k n:Int) (w:World):Kz 196 #[Iz a,Iz k,Iz n] w fun e w'=>e=.returned (.bool (z9y a k n))/\w'=w:=by
 go_enter Tryz.func196,Tryz.ntmps196
 go_wp2
 all_goals go_ret
 all_goals refine⟨U9 ?_,rfl⟩
 all_goals (unfold z9y;rw[Bool.eq_iff_iff];simp;try omega)
theorem j7i (x f:Int):(0+x*f) % 17592186044416=x*f % 17592186044416:=by rw[Int.zero_add]
theorem q4c (v:Int):0<=v % 17592186044416/\v % 17592186044416<17592186044416:=⟨Int.emod_nonneg _ (by decide),Int.emod_lt_of_pos _ (by decide)⟩
theorem half (z:Int) (h:0<=z) (h2:z<17179869184):wrap64 (z.tdiv 2)=z / 2:=by
 rw[Int.tdiv_eq_ediv_of_nonneg h];exact G9 _ (by omega) (by omega)
theorem done (s d:Int) (x:Int) (h:(s+0*d) % 17592186044416=x*10872568911861 % 17592186044416) (s0:0<=s) (s1:s<17592186044416):s=z2e x:=by
 unfold z2e;rw[<-h,Int.zero_mul,Int.add_zero,Int.emod_eq_of_lt s0 s1]
theorem q7y (x:Int) (w:World) (h1:0<=x) (h2:x<17179869184):Kz 197 #[Iz x] w fun e w'=>e=.returned (Iz (z2e x))/\w'=w:=by
 have X1:=Q3 h1;have X2:=Q3 h2;clear h1 h2;have D:=Q3 (fun s d=>done s d x);generalize z2e x=r at *
 go_enter Tryz.func197,Tryz.ntmps197
 go_wp2;go_loopw [0,3,4] (fun z s d wr=>∃ z' s' d':Int,z=Iz z'/\s=Iz s'/\d=Iz d'/\0<=z'/\Hid (z'<17179869184)/\0<=s'/\s'<17592186044416/\0<=d'/\d'<17592186044416/\Hid ((s'+z'*d') % 17592186044416=x*10872568911861 % 17592186044416)/\wr=w) (fun z _ _ _=>(intOf z).toNat)
 case atStart=>exact⟨x,0,10872568911861,rfl,rfl,rfl,X1.out,X2,by decide,by decide,by decide,by decide,Q3 (j7i x _),rfl⟩
 case round=>
  clear X1 X2;obtain⟨z,s,d,rfl,rfl,rfl,z0,Z1,s0,s1,d0,d1,HJ,rfl⟩:=hrel;by_cases hz:0<z
  ·have iR:0<=z % 2:=by omega
   have lA:z % 2<2:=by omega
   have hh:=half z z0 Z1.out;have Z2:Hid (0<=z / 2/\z / 2<17179869184/\z / 2<z):=Q3 (by have:=Z1.out;omega);have R1:=Q3 (q4c (d+d));by_cases ho:z % 2=1
   ·have HK:=Q3 (j2i HJ.out ho);have R2:=Q3 (q4c (s+d));clear HJ;go_wp2;go_roundw
    case rel=>
     rw[hh];exact⟨_,_,_,rfl,rfl,rfl,Z2.out.1,Q3 Z2.out.2.1,R2.out.1,R2.out.2,R1.out.1,R1.out.2,HK,trivial⟩
    case measure=>have:=Z2.out.2.2;rw[hh];simp[intOf];omega
   ·have HK:=Q3 (q8j HJ.out ho);clear HJ;have dZ:(z % 2 == 1)=false:=by simpa using ho
    go_wp2;go_roundw
    case rel=>
     rw[hh];exact⟨_,_,_,rfl,rfl,rfl,Z2.out.1,Q3 Z2.out.2.1,s0,s1,R1.out.1,R1.out.2,HK,trivial⟩
    case measure=>have:=Z2.out.2.2;rw[hh];simp[intOf];omega
  ·have iI:z=0:=by omega
   subst iI;have he:=D.out s d HJ.out s0 s1;go_wp2;go_ret;exact⟨rfl,rfl⟩
theorem z9g (a k n:Int) (w:World):Kz 170 #[Iz a,Iz k,Iz n] w fun e w'=>e=.returned (Iz (B6 a k n))/\w'=w:=by
 have G:=Q3 (q7v a k n);by_cases h:z1n a k n
 ·obtain⟨x1,x2⟩:=q8u h;obtain⟨p1,p2⟩:=j1r a k n;obtain⟨q1,q2⟩:=z6x (xV a k n);have hx:=rfl (a:=xV a k n);conv at hx=>lhs;unfold xV
  have S:=Q3 (fun w=>q7y (xV a k n) w x1 x2);rw[z8w h] at G;have hm:=z9b h;generalize z2e (xV a k n)=s at *
  generalize xV a k n=x at *
  generalize B6 a k n=r at *
  unfold z1n at h;have e1:wrap64 (a*65536)=a*65536:=G9 _ (by omega) (by omega);have e2:wrap64 (k*2048)=k*2048:=G9 _ (by omega) (by omega);have e3:wrap64 (a*65536+k*2048)=a*65536+k*2048:=G9 _ (by omega) (by omega);have e4:wrap64 (a*65536+k*2048+n)=x:=by rw[hx];exact G9 _ (by omega) (by omega)
  have e5:wrap64 (n*32)=n*32:=G9 _ (by omega) (by omega);have e6:wrap64 (s*65536)=s*65536:=G9 _ (by omega) (by omega);have e7:wrap64 (k+n*32)=k+n*32:=G9 _ (by omega) (by omega);have e8:wrap64 (k+n*32+s*65536)=k+n*32+s*65536:=G9 _ (by omega) (by omega);have e9:wrap64 ((k+n*32+s*65536)*8)=(k+n*32+s*65536)*8:=G9 _ (by omega) (by omega);have e10:wrap64 ((k+n*32+s*65536)*8+5)=r:=by rw[hm];exact G9 _ (by omega) (by omega)
  clear h x1 x2 p1 p2 q1 q2 hx hm;go_enter Tryz.func170,Tryz.ntmps170
  go_wp2_with (first
   | (go_at_call 196;refine Q4 (G.out _) ?_)
   | (go_at_call 197;refine Q4 (S.out _) ?_))
  go_ret;exact⟨G4 (by first | rfl | assumption),rfl⟩
 ·rw[z7y h];rw[z6l h] at G;clear h;go_enter Tryz.func170,Tryz.ntmps170
  go_wp2_with (go_at_call 196;refine Q4 (G.out _) ?_);go_ret;exact⟨rfl,rfl⟩
end Go.Proofs.YtjgnogflgoihfaaGreatDoor
namespace Go.Proofs.YtjgnogflgoihfaaGreatDoor
open Go.RowKit
def rowI (o:Option Nat):Int:=match o with | some p=>p | none=>-1
theorem q0v {w:World} {b bw n:Nat} {S:Nat->Int × Int × Int} (h:TblAt 144 w b bw n S) (k:Nat) (hk:1<=k) (jC:k<=16) :
  Kz 195 #[Pq b,Iz k] w fun e w'=>e=.returned (Iz (rowI (z0a S n k)))/\w'=w:=by
 obtain⟨cap,c0,_⟩:=h.cell;have HR:=Q3 h.row;have HN:=Q3 h.nums;have HK:Hid (1<=k/\k<=16):=⟨hk,jC⟩
 obtain⟨a,ha⟩:∃ a,z0a S n k=a:=⟨_,rfl⟩
 have HA:=Q3 ha;rw[ha];clear h hk jC ha;go_enter Tryz.func195,Tryz.ntmps195
 go_wp2_with fail;go_loopw [5,6] (fun x y wr=>∃ i f:Nat,i<=n/\x=Iz f/\y=Iz i/\RowInv S k i f/\wr=w) (fun _ y _=>n-(intOf y).toNat)
 case atStart=>exact⟨0,0,Nat.zero_le _,rfl,rfl,RowInv.start S HK.out.1,rfl⟩
 case round=>
  obtain⟨i,f,i1,rfl,rfl,hv,rfl⟩:=hrel;have b0:(0:Int)<=(i:Int):=by omega
  have b5:(i:Int)<=4096:=by have:=HN.out;omega
  have b6:(0:Int)<=(f:Int)/\(f:Int)<16:=by have:=hv.2.1;have:=HK.out;omega
  obtain⟨b7,b8⟩:=b6;by_cases hi:i<n
  ·have b1:(i:Int)<(n:Int):=by omega
   obtain⟨x,y,z,hp⟩:=z1z (S i);obtain⟨q0,q1,q2⟩:=HR.out.page hi hp;cases hf:z3b (S i)
   ·have HV2:=Q3 (hv.taken hf);have hx:(x != 0)=true:=by
      have h2:(x == 0)=false:=by rw[hp] at hf;exact hf
      simp at h2 ⊢;exact h2
    clear hv hp hf;go_wp2;go_roundw
    case rel=>exact⟨i+1,0,by omega,by go_num,by go_num,HV2.out,trivial⟩
    case measure=>simp[intOf];omega
   ·have hx:(x != 0)=false:=by
     have h2:(x == 0)=true:=by rw[hp] at hf;exact hf
     simp at h2 ⊢;exact h2
    by_cases hk:f+1=k
    ·have eV:=hv.found hf hk hi;rw[HA.out] at eV;subst eV;have HE:Hid (f<=i):=hv.1;subst hk;clear hv hp hf;go_wp2;go_ret;refine⟨G4 ?_,rfl⟩
     show ((i:Int)-((f:Int)+1)+1)=((i-f:Nat):Int)
     have:=HE.out;omega
    ·have HV2:=Q3 (hv.more hf hk);have ek:((f:Int)+1 == (k:Int))=false:=by simp;omega
     clear hv hp hf hk;go_wp2;go_roundw
     case rel=>exact⟨i+1,f+1,by omega,by go_num,by go_num,HV2.out,trivial⟩
     case measure=>simp[intOf];omega
  ·have:i=n:=by omega
   subst this;have eV:=hv.none;rw[HA.out] at eV;subst eV;clear hv hi;go_wp2;go_ret;exact⟨rfl,rfl⟩
theorem j2d {S:Nat->Int × Int × Int} {n p:Nat} (hp:p<n) (hf:z3b (S p)=true) (hl:∀ j,j<p->z3b (S j)=false):z0a S n 1=some p:=
 j6v (by omega) (by omega) (allF_iff.2 fun j j1 j2=>by rw[show j=p from by omega];exact hf) (fun q hq=>q2c (j:=q) (Nat.le_refl _) (by omega) (hl q hq))
theorem q4v {S:Nat->Int × Int × Int} {n:Nat} (hl:∀ j,j<n->z3b (S j)=false):z0a S n 1=none:=
 j6u (fun q hq=>q2c (j:=q) (Nat.le_refl _) (by omega) (hl q (by omega)))
theorem z3r {w:World} {b bw n:Nat} {S:Nat->Int × Int × Int} (h:TblAt 144 w b bw n S) (c:Int) :
  Kz 165 #[Pq b,Iz c] w fun e w'=>e=.returned (.tuple #[Iz (tcP S n c:Nat),Iz (tcE S n c)])/\TblAt 144 w' b bw n (tcS S n c)/\Out bw (bw+1) w w':=by
 obtain⟨cap,c0,_⟩:=h.cell;have HH:=Q3 h;have HN:=Q3 h.nums;unfold tcP tcE tcS;by_cases hc:H9 c=true
 ·rw[if_pos hc,if_pos hc,if_pos hc];obtain⟨a,ha⟩:∃ a,z0a S n 1=a:=⟨_,rfl⟩
  have HA:=Q3 ha;rw[ha];unfold H9 at hc;simp at hc;obtain⟨k0,k7⟩:=hc;clear h ha;go_enter Tryz.func165,Tryz.ntmps165
  go_wp2_with fail;go_loopw [6] (fun y wr=>∃ i:Nat,i<=n/\y=Iz i/\(∀ j,j<i->z3b (S j)=false)/\wr=w) (fun y _=>n-(intOf y).toNat)
  case atStart=>exact⟨0,Nat.zero_le _,rfl,fun j hj=>by omega,rfl⟩
  case round=>
   obtain⟨i,i1,rfl,hv,rfl⟩:=hrel;have HV:=Q3 hv;clear hv;have b0:(0:Int)<=(i:Int):=by omega
   have b5:(i:Int)<=4096:=by have:=HN.out;omega
   by_cases hi:i<n
   ·have b1:(i:Int)<(n:Int):=by omega
    obtain⟨x,y,z,hp⟩:=z1z (S i);obtain⟨q0,q1,q2⟩:=HH.out.row.page hi hp;have fz0:=Row.frozen HH.out.row (i*3);have fz1:=Row.frozen HH.out.row (i*3+1);have fz2:=Row.frozen HH.out.row (i*3+2);cases hf:z3b (S i)
    ·have hx:(x == 0)=false:=by rw[hp] at hf;exact hf
     have HV2:Hid (∀ j,j<i+1->z3b (S j)=false):=fun j hj=>by
      by_cases e:j=i
      ·rw[e];exact hf
      ·exact HV.out j (by omega)
     clear hp hf;go_wp2;go_roundw
     case rel=>exact⟨i+1,by omega,by go_num,HV2.out,trivial⟩
     case measure=>simp[intOf];omega
    ·have hx:(x == 0)=true:=by rw[hp] at hf;exact hf
     have eV:=j2d hi hf HV.out;rw[HA.out] at eV;subst eV;have HG:=Q3 (z8u HH.out.good (HH.out.good.free hi hf) k0 k7);clear hp hf;go_wp2;go_ret2;have hr:=HH.out.row.set i 1 c 0;have dU:Out bw (bw+1) wr (((wr.setCell ⟨bw,i*3,none⟩ (Iz 1)).setCell ⟨bw,i*3+1,none⟩ (Iz c)).setCell ⟨bw,i*3+2,none⟩ (Iz 0)):=(Out.refl _ _ _).set3 z1 _ _ _;exact⟨rfl,HH.out.turn dU hr HG.out,dU⟩
   ·have:i=n:=by omega
    subst this;have eV:=q4v HV.out;rw[HA.out] at eV;subst eV;clear hi;go_wp2;go_ret2;exact⟨rfl,HH.out,Out.refl _ _ _⟩
 ·rw[if_neg hc,if_neg hc,if_neg hc];unfold H9 at hc;simp at hc;by_cases h1:0<=c
  ·have h2:7<c:=by omega
   clear h hc;go_enter Tryz.func165,Tryz.ntmps165
   go_wp2;go_ret2;exact⟨rfl,HH.out,Out.refl _ _ _⟩
  ·have h2:c<0:=by omega
   clear h hc h1;go_enter Tryz.func165,Tryz.ntmps165
   go_wp2;go_ret2;exact⟨rfl,HH.out,Out.refl _ _ _⟩
theorem z4l {w:World} {b bw n:Nat} {S:Nat->Int × Int × Int} (h:TblAt 144 w b bw n S) (k:Nat) (h1:1<=k) (h2:k<=16) (p:Nat) (hf:z0a S n k=some p) :
  Kz 163 #[Pq b,Iz k] w fun e w'=>e=.returned (.tuple #[Iz p,Iz 0])/\TblAt 144 w' b bw n (setR S p k)/\Out bw (bw+1) w w':=by
 obtain⟨cap,c0,_⟩:=h.cell;have HH:=Q3 h;have HN:=Q3 h.nums;have HR:Hid (Kz 195 #[Pq b,Iz k] w fun e w'=>e=.returned (Iz (p:Int))/\w'=w):=by
  have:=q0v h k h1 h2;rw[hf] at this;exact this
 obtain⟨p1,p2,p3⟩:=z1v h.good hf;have p4:=p3 p (Nat.le_refl _) (by omega);have HG:=Q3 (z8v h.good p3 h1 h2 p2);obtain⟨q0,q1,q2⟩:=h.row.page p1 p4;have fz0:=Row.frozen h.row (p*3);have fz1:=Row.frozen h.row (p*3+1);have fz2:=Row.frozen h.row (p*3+2);have iR:=h.row.set p 2 0 k;have gJ:Out bw (bw+1) w (((w.setCell ⟨bw,p*3,none⟩ (Iz 2)).setCell ⟨bw,p*3+1,none⟩ (Iz 0)).setCell ⟨bw,p*3+2,none⟩ (Iz k)):=(Out.refl _ _ _).set3 z1 _ _ _;obtain⟨W1,cC⟩:∃ W1,((w.setCell ⟨bw,p*3,none⟩ (Iz 2)).setCell ⟨bw,p*3+1,none⟩ (Iz 0)).setCell ⟨bw,p*3+2,none⟩ (Iz k)=W1:=⟨_,rfl⟩
 rw[cC] at iR gJ;have cD:Hid (PRow W1 bw n (z9s (setP S p (2,0,(k:Int))) (p+1) (1-1) (3,0,0))):=by rw[Nat.sub_self,z4h];exact iR
 have bM:=Q3 gJ;have b0:(0:Int)<=(p:Int):=by omega
 have b1:(p:Int)<(n:Int):=by omega
 have b2:(n:Int)<=4096:=by have:=HN.out;omega
 have b3:(1:Int)<=(k:Int):=by omega
 have b4:(k:Int)<=16:=by omega
 have b5:(p:Int)+(k:Int)<=(n:Int):=by omega
 have HC:Hid (∀ wr,Out bw (bw+1) w wr->cq wr b 0=some (Sz bw n cap)):=fun wr o=>o.cell c0 (by have:=HN.out;omega)
 clear h hf p1 p2 p3 p4 iR gJ;go_enter Tryz.func163,Tryz.ntmps163
 go_wp2_with (go_at_call 195;refine Q4 HR.out ?_);clear q0 q1 q2 fz0 fz1 fz2 c0 cC;go_loopw [7] (fun y wr=>∃ i:Nat,1<=i/\i<=k/\y=Iz i/\PRow wr bw n (z9s (setP S p (2,0,(k:Int))) (p+1) (i-1) (3,0,0))/\Out bw (bw+1) w wr) (fun y _=>k-(intOf y).toNat)
 case atStart=>exact⟨1,Nat.le_refl _,h1,rfl,cD.out,bM.out⟩
 case round=>
  clear cD bM;obtain⟨i,i0,i1,rfl,hr,ho⟩:=hrel;have HO:=Q3 ho;have c0:=HC.out _ ho;have a0:(1:Int)<=(i:Int):=by omega
  by_cases hi:i<k
  ·have a1:(i:Int)<(k:Int):=by omega
   obtain⟨x,y,z,hp⟩:=z1z (z9s (setP S p (2,0,(k:Int))) (p+1) (i-1) (3,0,0) (p+i));obtain⟨q0,q1,q2⟩:=hr.page (by omega) hp;have fz0:=Row.frozen hr ((p+i)*3);have fz1:=Row.frozen hr ((p+i)*3+1);have fz2:=Row.frozen hr ((p+i)*3+2);have lA:=hr.set (p+i) 3 0 0;have e:=z5t (setP S p (2,0,(k:Int))) (p+1) (i-1) (3,0,0);rw[show p+1+(i-1)=p+i from by omega,show i-1+1=i+1-1 from by omega] at e;rw[e] at lA;have cV:=Q3 lA;have aH:=Q3 (ho.set3 (b:=bw) (o:=(p+i)*3) z1 (Iz 3) (Iz 0) (Iz 0));have b6:((p+i:Nat):Int)<(n:Int):=by omega
   clear hr ho hp lA e HO;go_wp2;go_roundw
   case rel=>exact⟨i+1,by omega,by omega,by go_num,cV.out,aH.out⟩
   case measure=>simp[intOf];omega
  ·have:i=k:=by omega
   subst this;have cV:Hid (PRow wr bw n (setR S p i)):=by rw[j7a S p i h1];exact hr
   clear hr ho hi;go_wp2;go_ret2;exact⟨rfl,HH.out.turn HO.out cV.out HG.out,HO.out⟩
theorem q0a {w:World} {b bw n:Nat} {S:Nat->Int × Int × Int} (h:TblAt 144 w b bw n S) (c:Int) :
  Kz 163 #[Pq b,Iz c] w fun e w'=>e=.returned (.tuple #[Iz (trP S n c:Nat),Iz (trE S n c)])/\TblAt 144 w' b bw n (trS S n c)/\Out bw (bw+1) w w':=by
 unfold trP trE trS;have H:=Q3 h;by_cases hc:j2f c=true
 ·rw[if_pos hc,if_pos hc,if_pos hc];unfold j2f at hc;simp at hc;obtain⟨k,rfl⟩:∃ k:Nat,c=k:=⟨c.toNat,by omega⟩
  rw[show ((k:Nat):Int).toNat=k from by omega];cases hf:z0a S n k with
  | none=>
   have HR:Hid (Kz 195 #[Pq b,Iz k] w fun e w'=>e=.returned (Iz (-1))/\w'=w):=by
    have:=q0v h k (by omega) (by omega);rw[hf] at this;exact this
   have b3:(1:Int)<=(k:Int):=by omega
   have b4:(k:Int)<=16:=by omega
   clear h hf hc;go_enter Tryz.func163,Tryz.ntmps163
   go_wp2_with (go_at_call 195;refine Q4 HR.out ?_);go_ret2;exact⟨rfl,H.out,Out.refl _ _ _⟩
  | some p=>exact z4l h k (by omega) (by omega) p hf
 ·rw[if_neg hc,if_neg hc,if_neg hc];unfold j2f at hc;simp at hc;by_cases h1:1<=c
  ·have h2:16<c:=by omega
   clear h hc;go_enter Tryz.func163,Tryz.ntmps163
   go_wp2;go_ret2;exact⟨rfl,H.out,Out.refl _ _ _⟩
  ·have h2:c<1:=by omega
   clear h hc h1;go_enter Tryz.func163,Tryz.ntmps163
   go_wp2;go_ret2;exact⟨rfl,H.out,Out.refl _ _ _⟩
theorem q2o {w:World} {b bw n:Nat} {S:Nat->Int × Int × Int} (h:TblAt 144 w b bw n S) (p:Nat) (hp:p<n) (y z:Int) (hS:S p=(1,y,z)) (hg:Good n (setF S p 1)) (hpL:p+1<=n) :
  Kz 142 #[Pq b,Iz p] w fun e w'=>e=.returned (Iz 0)/\TblAt 144 w' b bw n (setF S p 1)/\Out bw (bw+1) w w':=by
 obtain⟨cap,c0,_⟩:=h.cell;have HH:=Q3 h;have HN:=Q3 h.nums;have HG:=Q3 hg;obtain⟨q0,q1,q2⟩:=h.row.page hp hS;have cD:Hid (PRow w bw n (z9s S p 0 (0,0,0))):=by rw[z4h];exact h.row
 have b0:(0:Int)<=(p:Int):=by omega
 have b1:(p:Int)<(n:Int):=by omega
 have b2:(n:Int)<=4096:=by have:=HN.out;omega
 have HC:Hid (∀ wr,Out bw (bw+1) w wr->cq wr b 0=some (Sz bw n cap)):=fun wr o=>o.cell c0 (by have:=HN.out;omega)
 clear h hS hg;go_enter Tryz.func142,Tryz.ntmps142
 go_wp2_with fail;clear q0 q1 q2 c0;go_loopw [6] (fun u wr=>∃ i:Nat,i<=1/\u=Iz i/\PRow wr bw n (z9s S p i (0,0,0))/\Out bw (bw+1) w wr) (fun u _=>1-(intOf u).toNat)
 case atStart=>exact⟨0,Nat.zero_le _,rfl,cD.out,Out.refl _ _ _⟩
 case round=>
  clear cD;obtain⟨i,i1,rfl,hr,ho⟩:=hrel;have HO:=Q3 ho;have c0:=HC.out _ ho;have a0:(0:Int)<=(i:Int):=by omega
  by_cases hi:i<1
  ·have a1:(i:Int)<(1:Int):=by omega
   obtain⟨x',y',z',hp'⟩:=z1z (z9s S p i (0,0,0) (p+i));obtain⟨q0,q1,q2⟩:=hr.page (by omega) hp';have fz0:=Row.frozen hr ((p+i)*3);have fz1:=Row.frozen hr ((p+i)*3+1);have fz2:=Row.frozen hr ((p+i)*3+2);have lA:=hr.set (p+i) 0 0 0;rw[z5t] at lA;have cV:=Q3 lA;have aH:=Q3 (ho.set3 (b:=bw) (o:=(p+i)*3) z1 (Iz 0) (Iz 0) (Iz 0));have b6:((p+i:Nat):Int)<(n:Int):=by omega
   clear hr ho hp' lA HO;go_wp2;go_roundw
   case rel=>exact⟨i+1,by omega,by go_num,cV.out,aH.out⟩
   case measure=>simp[intOf];omega
  ·have a1:(1:Int)<=(i:Int):=by omega
   have cV:Hid (PRow wr bw n (setF S p 1)):=by rw[q8h];rw[show i=1 from by omega] at hr;exact hr
   clear hr ho hi;go_wp2;go_ret;exact⟨rfl,HH.out.turn HO.out cV.out HG.out,HO.out⟩
theorem q7u {w:World} {b bw n:Nat} {S:Nat->Int × Int × Int} (h:TblAt 144 w b bw n S) (p:Nat) (hp:p<n) (y z:Int) (k:Nat) (jC:k<=16) (hz:z=(k:Int)) (hS:S p=(2,y,z)) (hg:Good n (setF S p k)) (hpL:p+k<=n) :
  Kz 142 #[Pq b,Iz p] w fun e w'=>e=.returned (Iz 0)/\TblAt 144 w' b bw n (setF S p k)/\Out bw (bw+1) w w':=by
 obtain⟨cap,c0,_⟩:=h.cell;have HH:=Q3 h;have HN:=Q3 h.nums;have HG:=Q3 hg;obtain⟨q0,q1,q2⟩:=h.row.page hp hS;have cD:Hid (PRow w bw n (z9s S p 0 (0,0,0))):=by rw[z4h];exact h.row
 have b0:(0:Int)<=(p:Int):=by omega
 have b1:(p:Int)<(n:Int):=by omega
 have b2:(n:Int)<=4096:=by have:=HN.out;omega
 have HC:Hid (∀ wr,Out bw (bw+1) w wr->cq wr b 0=some (Sz bw n cap)):=fun wr o=>o.cell c0 (by have:=HN.out;omega)
 clear h hS hg;subst hz;have b3:(k:Int)<=16:=by omega
 go_enter Tryz.func142,Tryz.ntmps142
 go_wp2_with fail;clear q0 q1 q2 c0;go_loopw [6] (fun u wr=>∃ i:Nat,i<=k/\u=Iz i/\PRow wr bw n (z9s S p i (0,0,0))/\Out bw (bw+1) w wr) (fun u _=>k-(intOf u).toNat)
 case atStart=>exact⟨0,Nat.zero_le _,rfl,cD.out,Out.refl _ _ _⟩
 case round=>
  clear cD;obtain⟨i,i1,rfl,hr,ho⟩:=hrel;have HO:=Q3 ho;have c0:=HC.out _ ho;have a0:(0:Int)<=(i:Int):=by omega
  by_cases hi:i<k
  ·have a1:(i:Int)<(k:Int):=by omega
   obtain⟨x',y',z',hp'⟩:=z1z (z9s S p i (0,0,0) (p+i));obtain⟨q0,q1,q2⟩:=hr.page (by omega) hp';have fz0:=Row.frozen hr ((p+i)*3);have fz1:=Row.frozen hr ((p+i)*3+1);have fz2:=Row.frozen hr ((p+i)*3+2);have lA:=hr.set (p+i) 0 0 0;rw[z5t] at lA;have cV:=Q3 lA;have aH:=Q3 (ho.set3 (b:=bw) (o:=(p+i)*3) z1 (Iz 0) (Iz 0) (Iz 0));have b6:((p+i:Nat):Int)<(n:Int):=by omega
   clear hr ho hp' lA HO;go_wp2;go_roundw
   case rel=>exact⟨i+1,by omega,by go_num,cV.out,aH.out⟩
   case measure=>simp[intOf];omega
  ·have a1:(k:Int)<=(i:Int):=by omega
   have cV:Hid (PRow wr bw n (setF S p k)):=by rw[q8h];rw[show i=k from by omega] at hr;exact hr
   clear hr ho hi;go_wp2;go_ret;exact⟨rfl,HH.out.turn HO.out cV.out HG.out,HO.out⟩
theorem j1x {w:World} {b bw n:Nat} {S:Nat->Int × Int × Int} (h:TblAt 144 w b bw n S) (p:Int) (hb:z5l S n p=false) :
  Kz 142 #[Pq b,Iz p] w fun e w'=>e=.returned (Iz 1)/\w'=w:=by
 obtain⟨cap,c0,_⟩:=h.cell;have hn:=h.nums;by_cases hi:inB n p=true
 ·unfold inB at hi;simp at hi;obtain⟨k,rfl⟩:∃ k:Nat,p=k:=⟨p.toNat,by omega⟩
  have e1:inB n (k:Int)=true:=by unfold inB;simp;omega
  have hk:k<n:=by omega
  have b0:(0:Int)<=(k:Int):=by omega
  have b1:(k:Int)<(n:Int):=by omega
  have b2:(n:Int)<=4096:=by omega
  unfold z5l at hb;rw[e1] at hb;rcases h.good.cases hk with e | ⟨c,_,_,e⟩ | ⟨c,_,_,_,e⟩ | e
  ·obtain⟨q0,q1,q2⟩:=h.row.page hk e;clear h hn hb e e1 hi;go_enter Tryz.func142,Tryz.ntmps142
   go_wp2;go_ret;exact⟨rfl,rfl⟩
  ·rw[show ((k:Nat):Int).toNat=k from by omega,e] at hb;simp at hb
  ·rw[show ((k:Nat):Int).toNat=k from by omega,e] at hb;simp at hb
  ·obtain⟨q0,q1,q2⟩:=h.row.page hk e;clear h hn hb e e1 hi;go_enter Tryz.func142,Tryz.ntmps142
   go_wp2;go_ret;exact⟨rfl,rfl⟩
 ·unfold inB at hi;simp at hi;have b2:(n:Int)<=4096:=by omega
  by_cases h0:0<=p
  ·have b1:(n:Int)<=p:=by omega
   clear h hn hb hi;go_enter Tryz.func142,Tryz.ntmps142
   go_wp2;go_ret;exact⟨rfl,rfl⟩
  ·have b1:p<0:=by omega
   clear h hn hb hi h0;go_enter Tryz.func142,Tryz.ntmps142
   go_wp2;go_ret;exact⟨rfl,rfl⟩
theorem z1c {w:World} {b bw n:Nat} {S:Nat->Int × Int × Int} (h:TblAt 144 w b bw n S) (p:Int) :
  Calls Tryz.prog 142 #[.pointer (some ⟨b,0,none⟩),.int .i64 p] w fun e w'=>e=.returned (.int .i64 (gvE S n p))/\TblAt 144 w' b bw n (gvS S n p)/\Out bw (bw+1) w w':=by
 unfold gvE gvS;by_cases hb:z5l S n p=true
 ·rw[if_pos hb,if_pos hb];unfold z5l inB at hb;simp at hb;obtain⟨k,rfl⟩:∃ k:Nat,p=k:=⟨p.toNat,by omega⟩
  have hk:k<n:=by omega
  have iM:(S k).1=1\/(S k).1=2:=by simpa using hb.2
  rw[show ((k:Nat):Int).toNat=k from by omega];obtain⟨l1,l2,l3,_,hc⟩:=z6k h.good hk iM;have hg:=q3t h.good hk iM;obtain⟨x,y,z,e⟩:=z1z (S k);rcases hc with ⟨c1,c2,c3⟩ | ⟨c1,c2⟩
  ·rw[c2] at hg l3 ⊢;rw[e] at c1;simp at c1;subst c1;exact q2o h k hk y z e hg l3
  ·rw[e] at c1 c2;simp at c1 c2;subst c1;rw[e] at hg l3 l2 ⊢;exact q7u h k hk y z (z5n (2,y,z)) l2 c2 e hg l3
 ·rw[if_neg hb,if_neg hb];exact(j1x h p (by simpa using hb)).mono fun e w' ⟨a,o⟩=>⟨a,by rw[o];exact h,by rw[o];exact Out.refl _ _ _⟩
def q5t (l:List Nat):List Value:=l.map (fun(x:Nat)=>Value.int .i64 (x:Int))
def YListIs (w:World) (base:Nat) (v:Value) (l:List Nat):Prop:=w.ownsRow base 3 1 v l.length (q5t l)
theorem YListIs.nil (w:World) (base:Nat):YListIs w base (.slice none 0 0) []:=World.ownsRow_nil _ _ _ _
def F4 (j:Nat):List Nat:=[[],[2,2],[2],[],[1],[1],[],[6],[3,2],[4,5],[1,8],[6,7,1,1],[],[4,5,9]].getD j []
def z0x (j:Nat):Int:=[0,0,0,2,1,0,2,0,0,0,0,2,9,0].getD j 0
def B9 (j:Nat):Int:=if j=12 then 4 else 0
def q7o (j:Nat):Int:=[0,0,0,1,8,0,1,0,0,0,0,1,1,0].getD j 0
def j2e (f:Value) (a b c d:Int):Array Value:=#[f,.int .i64 a,.int .i64 b,.int .i64 c,.int .i64 d]
theorem info5 (f:Value) (a b c d:Int):(Tryz.prog.info? 172).map (·.size)=some (j2e f a b c d).size:=by rw[show (j2e f a b c d).size=5 from rfl];kernel_rfl
theorem x2m {fn:Func} {p:Tmp} {a:Act} {w:World} {g:Nat} {f:Value} {x y z u:Int} {post:Ending->World->Prop} (hr:fn.results = #[.cell p 172]) (hp:a.tmps.getD p undef=.pointer (some ⟨g,0,none⟩))
  (hd:a.defers=[]) (hg:w.heap[g]? = some (.cells (j2e f x y z u) 172 (0,0))) (h:post (.returned (.agg (j2e f x y z u))) w):bodyPost Tryz.prog fn post Exit.ret a w:=
 bodyPost_ret (v:=.agg (j2e f x y z u)) (results_cell_row hr a.tmps _ g 172 _ (0,0) _ hp hg Tryz.underlying172 rfl (info5 f x y z u)) hd h
theorem j9t {w:World} {base n:Nat} {dI:Array Value} {l:List Nat} (h:dI.toList=q5t l) (hn:n=l.length) (hb:base<=w.heap.size) (hm:n<=1000):YListIs (w.alloc (.cells dI 3)) base (.slice (some ⟨w.heap.size,0,none⟩) n n) l:=by
 have hc:dI.size=n:=by rw[<-Array.length_toList,h,hn];simp[q5t]
 refine⟨by simp[q5t],.inr ⟨w.heap.size,n,dI,by rw[hn],hb,heap_alloc_new _ _,by omega,by unfold maxLen;omega,by omega,?_⟩⟩;rw[h,List.take_of_length_le];simp[q5t]
theorem x7o {w:World} {o o2:Obj}:((w.alloc o).alloc o2).heap[w.heap.size]? = some o:=by
 first | rw[heap_alloc_old _ _ (by simp)] | rw[heap_alloc_old _ _ _ (by simp)]
 exact heap_alloc_new w o
def q5w (w:World) (j:Nat) (e:Ending) (w':World):Prop:=∃ f,e=.returned (.agg (j2e f (z0x j) (B9 j) (mo j) (q7o j)))/\YListIs w' w.heap.size f (F4 j)/\Out 0 0 w w'
theorem x0v {w:World} {a:Act} {dI:Array Value} {n j:Nat} {x y z u:Int} (hp:a.tmps.getD 2 undef=.pointer (some ⟨w.heap.size,0,none⟩)) (hd:a.defers=[]) (hc:dI.toList=q5t (F4 j)) (hn:n=(F4 j).length) (hm:n<=1000)
  (h1:x=z0x j) (h2:y=B9 j) (h3:z=mo j) (h4:u=q7o j) :
  bodyPost Tryz.prog Tryz.f113 (q5w w j) Exit.ret a ((w.alloc (.cells (j2e (.slice (some ⟨w.heap.size+1,0,none⟩) n n) x y z u) 172)).alloc (.cells dI 3)):=by
 subst h1 h2 h3 h4;refine x2m Tryz.results113 hp hd x7o ⟨_,rfl,?_,((Out.refl _ _ _).alloc _).alloc _⟩;have:=j9t (w:=w.alloc (.cells (j2e (.slice (some ⟨w.heap.size+1,0,none⟩) n n) (z0x j) (B9 j) (mo j) (q7o j)) 172)) (base:=w.heap.size) hc hn (by simp) hm;simpa using this
theorem x0u {w:World} {a:Act} {j:Nat} {x y z u:Int} (hp:a.tmps.getD 2 undef=.pointer (some ⟨w.heap.size,0,none⟩)) (hd:a.defers=[]) (hc:F4 j=[])
  (h1:x=z0x j) (h2:y=B9 j) (h3:z=mo j) (h4:u=q7o j) :
  bodyPost Tryz.prog Tryz.f113 (q5w w j) Exit.ret a (w.alloc (.cells (j2e (.slice none 0 0) x y z u) 172)):=by
 subst h1 h2 h3 h4;refine x2m Tryz.results113 hp hd (heap_alloc_new _ _) ⟨_,rfl,?_,(Out.refl _ _ _).alloc _⟩;rw[hc];exact YListIs.nil _ _
theorem j0p {j:Nat} (h1:1<=j) (h2:j<=13) (w:World):Kz 113 #[Iz j] w (q5w w j):=by
 rcases q1y h1 h2 with rfl | rfl | rfl | rfl | rfl | rfl | rfl | rfl | rfl | rfl | rfl | rfl | rfl
 all_goals
  clear h1 h2;first | rw[show ((1:Nat):Int)=1 from rfl] | rw[show ((2:Nat):Int)=2 from rfl] | rw[show ((3:Nat):Int)=3 from rfl] | rw[show ((4:Nat):Int)=4 from rfl] | rw[show ((5:Nat):Int)=5 from rfl] | rw[show ((6:Nat):Int)=6 from rfl] | rw[show ((7:Nat):Int)=7 from rfl] | rw[show ((8:Nat):Int)=8 from rfl] | rw[show ((9:Nat):Int)=9 from rfl] | rw[show ((10:Nat):Int)=10 from rfl] | rw[show ((11:Nat):Int)=11 from rfl] | rw[show ((12:Nat):Int)=12 from rfl] | rw[show ((13:Nat):Int)=13 from rfl]
  go_enter Tryz.func113,Tryz.ntmps113
  go_wp2;first
  | exact x0v rfl rfl rfl rfl (by decide) rfl rfl rfl rfl
  | exact x0u rfl rfl rfl rfl rfl rfl rfl
def j7y (y:Int):Prop:=y=4\/y=8\/y=16\/y=32\/y=64\/y=128\/y=256\/y=512
theorem j6d {y:Int} (h:j7y y):4<=y/\y<=512:=by unfold j7y at h;omega
theorem j6e {y:Int} (h:j7y y) (h2:y<512):j7y (y+y):=by unfold j7y at *;omega
theorem spine_iff {n:Int}:z0j n=true ↔ j7y n:=by unfold z0j j7y;simp[or_assoc]
theorem j7f (n y:Int) (h:j7y y) (h2:n<=y\/512<=y) (h3:y=4\/y<n*2):(y == n)=z0j n:=by
 rw[Bool.eq_iff_iff,spine_iff,beq_iff_eq];unfold j7y at *;omega
theorem q3v (n:Int) (w:World):Kz 114 #[Iz n] w fun e w'=>e=.returned (.bool (z0j n))/\w'=w:=by
 have E:=Q3 (j7f n);generalize z0j n=b at *
 go_enter Tryz.func114,Tryz.ntmps114
 go_wp2;go_loopw [3] (fun x wr=>∃ y:Int,x=Iz y/\j7y y/\(y=4\/y<n*2)/\wr=w) (fun x _=>(512-intOf x).toNat)
 case atStart=>exact⟨4,rfl,.inl rfl,.inl rfl,rfl⟩
 case round=>
  obtain⟨y,rfl,hp,hy,rfl⟩:=hrel;obtain⟨p1,p2⟩:=j6d hp;have HP:=Q3 hp;clear hp;by_cases h1:y<n
  ·by_cases h2:y<512
   ·go_wp2;go_roundw
    case rel=>exact⟨y+y,rfl,j6e HP.out h2,.inr (by omega),trivial⟩
    case measure=>simp[intOf];omega
   ·have hr:=E.out y HP.out (by omega) hy;go_wp2;go_ret;exact⟨rfl,rfl⟩
  ·have hr:=E.out y HP.out (by omega) hy;go_wp2;go_ret;exact⟨rfl,rfl⟩
end Go.Proofs.YtjgnogflgoihfaaGreatDoor
