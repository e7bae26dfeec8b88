import Derived.Test.YtjbbkeoolodeaabGreatDoorB04
import Derived.Test.YtjbbkeoolodeaabGreatDoorB08
import Derived.Test.YtjbbkeoolodeaabGreatDoorB02
namespace Go.Proofs.YtjbbkeoolodeaabGreatDoor
open Go.ChangeShapes Go.WideShapes Go.ChangeAt Go.RowKit
set_option linter.unusedVariables false
set_option maxRecDepth 100000
set_option maxHeartbeats 16000000
set_option linter.unusedSimpArgs false
theorem q3v (j:Nat) (h:j<7):(j<3/\J2 (j+1:Nat)=J2 j+2)\/(3<=j/\j<6/\J2 (j+1:Nat)=J2 j+4)\/(6<=j/\J2 (j+1:Nat)=J2 j+12):=by
 have hi:j=0\/j=1\/j=2\/j=3\/j=4\/j=5\/j=6:=by omega
 rcases hi with rfl | rfl | rfl | rfl | rfl | rfl | rfl <;> decide
theorem z2p (c:Int):0<=J2 c/\J2 c<=32:=by rcases z0d c with ⟨x,y,hx,hy,c0,c7,h⟩ | ⟨hx,hy,hc⟩ <;> omega
theorem z4d (c:Int):0<=J6 c/\J6 c<=32:=by rcases z0d c with ⟨x,y,hx,hy,c0,c7,h⟩ | ⟨hx,hy,hc⟩ <;> omega
theorem z5y (c:Int) (w:World):Calls Tryz.prog 109 #[.int .i64 c] w fun e w'=>e=.returned (.int .i64 (J2 c))/\w'=w:=by
 by_cases hc:0<=c/\c<8
 ·obtain⟨h1,h2⟩:=hc;obtain⟨k,rfl⟩:∃ k:Nat,c=k:=⟨c.toNat,by omega⟩
  have hk:k<8:=by omega
  go_enter Tryz.func109,Tryz.ntmps109
  go_wp2;go_loopw [3,4] (fun n i wr=>∃ j:Nat,j<=k/\i=.int .i64 j/\n=.int .i64 (J2 j)/\wr=w) (fun _ i _=>k-(intOf i).toNat)
  case atStart=>exact⟨0,by omega,by simp,by rfl,rfl⟩
  case round=>
   obtain⟨j,hj,rfl,rfl,rfl⟩:=hrel;by_cases hjk:j<k
   ·have hjk':(j:Int)<k:=by omega
    have hr:=z2p j;have hs:=q3v j (by omega);generalize hx:J2 (j+1:Nat)=x' at hs
    generalize J2 j=x at *
    obtain⟨r1,r2⟩:=hr;rcases hs with ⟨s1,s2⟩ | ⟨s1,s2,s3⟩ | ⟨s1,s2⟩
    all_goals
     go_wp2;go_roundw
     case rel=>exact⟨j+1,by omega,by simp,by rw[hx];simp;omega,trivial⟩
     case measure=>simp[intOf];omega
   ·have:j=k:=by omega
    subst this;go_wp2;go_ret;exact⟨rfl,rfl⟩
 ·have hc:c<0\/8<=c:=by omega
  rw[z5h hc];rcases hc with h | h
  all_goals
   go_enter Tryz.func109,Tryz.ntmps109
   go_wp2;go_ret;exact⟨rfl,rfl⟩
theorem z3v (c v:Int) (h:J2 c=v) (w:World):Calls Tryz.prog 109 #[.int .i64 c] w fun e w'=>e=.returned (.int .i64 v)/\w'=w:=by
 rw[<-h];exact z5y c w
theorem fit (c:Int) (x y:Int) (hx:J2 c=x) (hy:J6 c=y) (n:Nat):0<x->(((n+1:Int)*x<=64) ↔ (n:Int)<y):=by
 intro h0;rcases z0d c with ⟨x',y',hx',hy',c0,c7,h⟩ | ⟨hx',hy',hc⟩
 ·rw[hx] at hx';rw[hy] at hy';subst hx' hy';rcases h with ⟨_,rfl,rfl⟩ | ⟨_,rfl,rfl⟩ | ⟨_,rfl,rfl⟩ | ⟨_,rfl,rfl⟩ | ⟨_,rfl,rfl⟩ | ⟨_,rfl,rfl⟩ | ⟨_,rfl,rfl⟩ | ⟨_,rfl,rfl⟩ <;> omega
 ·omega
theorem q8e {c:Int} (h:J2 c=0):J6 c=0:=by rcases z0d c with ⟨x,y,hx,hy,c0,c7,h⟩ | ⟨hx,hy,hc⟩ <;> omega
theorem z2g (c:Int) (w:World):Calls Tryz.prog 110 #[.int .i64 c] w fun e w'=>e=.returned (.int .i64 (J6 c))/\w'=w:=by
 have H:=Z0 (z3v c _ rfl);have HF:=Z0 (fit c _ _ rfl rfl);have HN:=Z0 (q8e (c:=c));obtain⟨x1,x2⟩:=z2p c;obtain⟨y1,y2⟩:=z4d c;generalize J6 c=y at *
 generalize J2 c=x at *
 go_enter Tryz.func110,Tryz.ntmps110
 go_wp2_with (go_at_call 109;refine Z5 (H.out _) ?_);go_loopw [4] (fun n wr=>∃ k:Nat,(k:Int)<=y/\n=.int .i64 k/\wr=w) (fun n _=>32-(intOf n).toNat)
 case atStart=>exact⟨0,by omega,by simp,rfl⟩
 case round=>
  obtain⟨k,hk,rfl,rfl⟩:=hrel;by_cases hx:x=0
  ·have hy:=HN.out hx;subst hx;have:k=0:=by omega
   subst this hy;go_wp2;go_ret;exact⟨rfl,rfl⟩
  ·have hx0:0<x:=by omega
   have hf:=HF.out k hx0;have hp1:0<=((k:Int)+1)*x:=Int.mul_nonneg (by omega) x1;have hp2:((k:Int)+1)*x<=33*32:=Int.mul_le_mul (by omega) x2 x1 (by omega);have hwr:wrap64 (((k:Int)+1)*x)=((k:Int)+1)*x:=by unfold wrap64;omega
   by_cases hky:(k:Int)<y
   ·have hz:=hf.2 hky;go_wp2;go_roundw
    case rel=>exact⟨k+1,by omega,by simp,trivial⟩
    case measure=>simp[intOf];omega
   ·have:y=k:=by omega
    have hz:64<((k:Int)+1)*x:=by have:=fun h=>hky (hf.1 h);omega
    subst this;go_wp2;go_ret;exact⟨rfl,rfl⟩
theorem z5z (c v:Int) (h:J6 c=v) (w:World):Calls Tryz.prog 110 #[.int .i64 c] w fun e w'=>e=.returned (.int .i64 v)/\w'=w:=by
 rw[<-h];exact z2g c w
theorem z1u (s:Int) (w:World):Calls Tryz.prog 57 #[.int .i64 s] w fun e w'=>e=.returned (.int .i64 (ofV s))/\w'=w:=by
 by_cases hs:1<=s/\s<=1024
 ·obtain⟨s1,s2⟩:=hs;have HF:=Z0 (q5w s1 s2);obtain⟨q1,q2⟩:=j6o s1 s2;generalize ofV s=q at *
  go_enter Tryz.func57,Tryz.ntmps57
  go_wp2;go_loopw [3] (fun i wr=>∃ k:Nat,(k:Int)<=q/\i=.int .i64 k/\wr=w) (fun i _=>8-(intOf i).toNat)
  case atStart=>exact⟨0,by omega,by simp,rfl⟩
  case round=>
   obtain⟨k,hk,rfl,rfl⟩:=hrel;by_cases hk8:k<8
   ·have hf:=HF.out k hk8;have hk8':(k:Int)<8:=by omega
    have HW:=Z0 (z3v k _ rfl);generalize J2 k=x at hf HW
    by_cases hx:x<s
    ·have hkq:=hf.1 hx;go_wp2_with (go_at_call 109;refine Z5 (HW.out _) ?_);go_roundw
     case rel=>exact⟨k+1,by omega,by simp,trivial⟩
     case measure=>simp[intOf];omega
    ·have hx':s<=x:=by omega
     have hkq:q=k:=by have:=fun h=>hx (hf.2 h);omega
     subst hkq;go_wp2_with (go_at_call 109;refine Z5 (HW.out _) ?_);go_ret;exact⟨rfl,rfl⟩
   ·have hkq:k=8:=by omega
    have:q=8:=by omega
    subst hkq this;go_wp2;go_ret;exact⟨rfl,rfl⟩
 ·have hs:s<1\/1024<s:=by omega
  rw[q9z hs];rcases hs with h | h
  all_goals
   go_enter Tryz.func57,Tryz.ntmps57
   go_wp2;go_ret;exact⟨rfl,rfl⟩
theorem q5z (s v:Int) (h:ofV s=v) (w:World):Calls Tryz.prog 57 #[.int .i64 s] w fun e w'=>e=.returned (.int .i64 v)/\w'=w:=by
 rw[<-h];exact z1u s w
theorem z2q (s:Int) (w:World):Calls Tryz.prog 107 #[.int .i64 s] w fun e w'=>e=.returned (.int .i64 (J4 s))/\w'=w:=by
 by_cases hs:32<s/\s<=1024
 ·have HO:=Z0 (q5z s 8 (ofV_eight.2 hs));have hp:J4 s=(s+63) / 64:=by unfold J4;rw[if_pos hs]
  rw[hp];obtain⟨s1,s2⟩:=hs;have HF:∀ n:Nat,((n:Int)*64<s ↔ (n:Int)<(s+63) / 64):=by intro n;omega
  have hq:0<=(s+63) / 64/\(s+63) / 64<=16:=by omega
  obtain⟨q1,q2⟩:=hq;have HF:=Z0 HF;clear hp;generalize (s+63) / 64=q at *
  go_enter Tryz.func107,Tryz.ntmps107
  go_wp2_with (go_at_call 57;refine Z5 (HO.out _) ?_);go_loopw [3] (fun i wr=>∃ k:Nat,(k:Int)<=q/\i=.int .i64 k/\wr=w) (fun i _=>16-(intOf i).toNat)
  case atStart=>exact⟨0,by omega,by simp,rfl⟩
  case round=>
   obtain⟨k,hk,rfl,rfl⟩:=hrel;have hf:=HF.out k;by_cases hx:(k:Int)<q
   ·have hkq:=hf.2 hx;go_wp2;go_roundw
    case rel=>exact⟨k+1,by omega,by simp,trivial⟩
    case measure=>simp[intOf];omega
   ·have hkq:q=k:=by omega
    have hx':s<=k*64:=by have:=fun h=>hx (hf.1 h);omega
    subst hkq;go_wp2;go_ret;exact⟨rfl,rfl⟩
 ·have hq:(ofV s != 8)=true:=by simpa using fun h=>hs (ofV_eight.1 h)
  have hp:J4 s=0:=by unfold J4;rw[if_neg hs]
  have HO:=Z0 (q5z s _ rfl);rw[hp];generalize ofV s=q at *
  clear hp;go_enter Tryz.func107,Tryz.ntmps107
  go_wp2_with (go_at_call 57;refine Z5 (HO.out _) ?_);go_ret;exact⟨rfl,rfl⟩
theorem z5v (c i:Int) (w:World):Calls Tryz.prog 111 #[.int .i64 c,.int .i64 i] w fun e w'=>e=.returned (.int .i64 (z0o c i))/\w'=w:=by
 obtain⟨b2,b1⟩:=z4d c;have hw:=z2p c;by_cases hi:0<=i/\i<J6 c
 ·obtain⟨i1,i2⟩:=hi;have hp1:0<=i*J2 c:=Int.mul_nonneg i1 hw.1;have hp2:i*J2 c<=32*32:=Int.mul_le_mul (by omega) hw.2 hw.1 (by omega);have hs:z0o c i=i*J2 c:=by unfold z0o;rw[if_pos ⟨i1,i2⟩]
  rw[hs];have HB:=Z0 (z5z c _ rfl);have HW:=Z0 (z3v c _ rfl);clear hs hw;generalize J6 c=y at *
  generalize J2 c=x at *
  have hwr:wrap64 (i*x)=i*x:=by unfold wrap64;omega
  clear hp1 hp2;go_enter Tryz.func111,Tryz.ntmps111
  go_wp2_with (first
   | (go_at_call 110;refine Z5 (HB.out _) ?_)
   | (go_at_call 109;refine Z5 (HW.out _) ?_))
  go_ret;refine⟨U3 ?_,rfl⟩;first | rfl | exact hwr
 ·have hs:z0o c i = -1:=by unfold z0o;rw[if_neg hi]
  rw[hs];have HB:=Z0 (z5z c _ rfl);clear hs hw b1 b2;generalize J6 c=y at *
  have hi:i<0\/(0<=i/\y<=i):=by omega
  rcases hi with h | ⟨h1,h2⟩
  all_goals
   go_enter Tryz.func111,Tryz.ntmps111
   go_wp2_with (go_at_call 110;refine Z5 (HB.out _) ?_);go_ret;exact⟨rfl,rfl⟩
theorem q4y (a k n:Int) (w:World):Calls Tryz.prog 144 #[.int .i64 a,.int .i64 k,.int .i64 n] w fun e w'=>e=.returned (.bool (z9m a k n))/\w'=w:=by
 go_enter Tryz.func144,Tryz.ntmps144
 go_wp2
 all_goals go_ret
 all_goals refine⟨K8 ?_,rfl⟩
 all_goals (unfold z9m;rw[Bool.eq_iff_iff];simp;try omega)
theorem j0p (x f:Int):(0+x*f) % 17592186044416=x*f % 17592186044416:=by rw[Int.zero_add]
theorem q1w (v:Int):0<=v % 17592186044416/\v % 17592186044416<17592186044416:=⟨Int.emod_nonneg _ (by decide),Int.emod_lt_of_pos _ (by decide)⟩
theorem half (z:Int) (h:0<=z) (h2:z<17179869184):wrap64 (z.tdiv 2)=z / 2:=by
 rw[Int.tdiv_eq_ediv_of_nonneg h];exact B8 _ (by omega) (by omega)
theorem done (s d:Int) (x:Int) (h:(s+0*d) % 17592186044416=x*10872568911861 % 17592186044416) (s0:0<=s) (s1:s<17592186044416):s=z1n x:=by
 unfold z1n;rw[<-h,Int.zero_mul,Int.add_zero,Int.emod_eq_of_lt s0 s1]
theorem q4j (x:Int) (w:World) (h1:0<=x) (h2:x<17179869184):Calls Tryz.prog 145 #[.int .i64 x] w fun e w'=>e=.returned (.int .i64 (z1n x))/\w'=w:=by
 have X1:=Z0 h1;have X2:=Z0 h2;clear h1 h2;have D:=Z0 (fun s d=>done s d x);generalize z1n x=r at *
 go_enter Tryz.func145,Tryz.ntmps145
 go_wp2;go_loopw [0,3,4] (fun z s d wr=>∃ z' s' d':Int,z=.int .i64 z'/\s=.int .i64 s'/\d=.int .i64 d'/\0<=z'/\Hid (z'<17179869184)/\0<=s'/\s'<17592186044416/\0<=d'/\d'<17592186044416/\Hid ((s'+z'*d') % 17592186044416=x*10872568911861 % 17592186044416)/\wr=w) (fun z _ _ _=>(intOf z).toNat)
 case atStart=>exact⟨x,0,10872568911861,rfl,rfl,rfl,X1.out,X2,by decide,by decide,by decide,by decide,Z0 (j0p x _),rfl⟩
 case round=>
  clear X1 X2;obtain⟨z,s,d,rfl,rfl,rfl,z0,Z1,s0,s1,d0,d1,HJ,rfl⟩:=hrel;by_cases hz:0<z
  ·have hr1:0<=z % 2:=by omega
   have hr2:z % 2<2:=by omega
   have hh:=half z z0 Z1.out;have Z2:Hid (0<=z / 2/\z / 2<17179869184/\z / 2<z):=Z0 (by have:=Z1.out;omega);have R1:=Z0 (q1w (d+d));by_cases ho:z % 2=1
   ·have HK:=Z0 (q8q HJ.out ho);have R2:=Z0 (q1w (s+d));clear HJ;go_wp2;go_roundw
    case rel=>
     rw[hh];exact⟨_,_,_,rfl,rfl,rfl,Z2.out.1,Z0 Z2.out.2.1,R2.out.1,R2.out.2,R1.out.1,R1.out.2,HK,trivial⟩
    case measure=>have:=Z2.out.2.2;rw[hh];simp[intOf];omega
   ·have HK:=Z0 (q4a HJ.out ho);clear HJ;have ho':(z % 2 == 1)=false:=by simpa using ho
    go_wp2;go_roundw
    case rel=>
     rw[hh];exact⟨_,_,_,rfl,rfl,rfl,Z2.out.1,Z0 Z2.out.2.1,s0,s1,R1.out.1,R1.out.2,HK,trivial⟩
    case measure=>have:=Z2.out.2.2;rw[hh];simp[intOf];omega
  ·have hz0:z=0:=by omega
   subst hz0;have he:=D.out s d HJ.out s0 s1;go_wp2;go_ret;exact⟨rfl,rfl⟩
theorem z7y (a k n:Int) (w:World):Calls Tryz.prog 114 #[.int .i64 a,.int .i64 k,.int .i64 n] w fun e w'=>e=.returned (.int .i64 (X9 a k n))/\w'=w:=by
 have G:=Z0 (q4y a k n);by_cases h:z0n a k n
 ·obtain⟨x1,x2⟩:=q4r h;obtain⟨p1,p2⟩:=q8m a k n;obtain⟨q1,q2⟩:=z5g (xV a k n);have hx:=rfl (a:=xV a k n);conv at hx=>lhs;unfold xV
  have S:=Z0 (fun w=>q4j (xV a k n) w x1 x2);rw[z6x h] at G;have hm:=z7t h;generalize z1n (xV a k n)=s at *
  generalize xV a k n=x at *
  generalize X9 a k n=r at *
  unfold z0n at h;have e1:wrap64 (a*65536)=a*65536:=B8 _ (by omega) (by omega);have e2:wrap64 (k*2048)=k*2048:=B8 _ (by omega) (by omega);have e3:wrap64 (a*65536+k*2048)=a*65536+k*2048:=B8 _ (by omega) (by omega);have e4:wrap64 (a*65536+k*2048+n)=x:=by rw[hx];exact B8 _ (by omega) (by omega)
  have e5:wrap64 (n*32)=n*32:=B8 _ (by omega) (by omega);have e6:wrap64 (s*65536)=s*65536:=B8 _ (by omega) (by omega);have e7:wrap64 (k+n*32)=k+n*32:=B8 _ (by omega) (by omega);have e8:wrap64 (k+n*32+s*65536)=k+n*32+s*65536:=B8 _ (by omega) (by omega);have e9:wrap64 ((k+n*32+s*65536)*8)=(k+n*32+s*65536)*8:=B8 _ (by omega) (by omega);have e10:wrap64 ((k+n*32+s*65536)*8+5)=r:=by rw[hm];exact B8 _ (by omega) (by omega)
  clear h x1 x2 p1 p2 q1 q2 hx hm;go_enter Tryz.func114,Tryz.ntmps114
  go_wp2_with (first
   | (go_at_call 144;refine Z5 (G.out _) ?_)
   | (go_at_call 145;refine Z5 (S.out _) ?_))
  go_ret;exact⟨U3 (by first | rfl | assumption),rfl⟩
 ·rw[z6h h];rw[z5m h] at G;clear h;go_enter Tryz.func114,Tryz.ntmps114
  go_wp2_with (go_at_call 144;refine Z5 (G.out _) ?_);go_ret;exact⟨rfl,rfl⟩
end Go.Proofs.YtjbbkeoolodeaabGreatDoor
namespace Go.Proofs.YtjbbkeoolodeaabGreatDoor
open Go.RowKit
set_option linter.unusedVariables false
set_option maxRecDepth 100000
set_option maxHeartbeats 16000000
set_option linter.unusedSimpArgs false
def rowI (o:Option Nat):Int:=match o with | some p=>p | none=>-1
theorem z8x {w:World} {b bw n:Nat} {S:Nat->Int × Int × Int} (h:TblAt 130 w b bw n S) (k:Nat) (hk:1<=k) (hk2:k<=16) :
  Calls Tryz.prog 143 #[.pointer (some ⟨b,0,none⟩),.int .i64 k] w fun e w'=>e=.returned (.int .i64 (rowI (U2 S n k)))/\w'=w:=by
 obtain⟨cap,c0,_⟩:=h.cell;have HR:=Z0 h.row;have HN:=Z0 h.nums;have HK:Hid (1<=k/\k<=16):=⟨hk,hk2⟩
 obtain⟨a,ha⟩:∃ a,U2 S n k=a:=⟨_,rfl⟩
 have HA:=Z0 ha;rw[ha];clear h hk hk2 ha;go_enter Tryz.func143,Tryz.ntmps143
 go_wp2_with fail;go_loopw [5,6] (fun x y wr=>∃ i f:Nat,i<=n/\x=.int .i64 f/\y=.int .i64 i/\RowInv S k i f/\wr=w) (fun _ y _=>n-(intOf y).toNat)
 case atStart=>exact⟨0,0,Nat.zero_le _,rfl,rfl,RowInv.start S HK.out.1,rfl⟩
 case round=>
  obtain⟨i,f,i1,rfl,rfl,hv,rfl⟩:=hrel;have b0:(0:Int)<=(i:Int):=by omega
  have b5:(i:Int)<=4096:=by have:=HN.out;omega
  have b6:(0:Int)<=(f:Int)/\(f:Int)<16:=by have:=hv.2.1;have:=HK.out;omega
  obtain⟨b7,b8⟩:=b6;by_cases hi:i<n
  ·have b1:(i:Int)<(n:Int):=by omega
   obtain⟨x,y,z,hp⟩:=z1c (S i);obtain⟨q0,q1,q2⟩:=HR.out.page hi hp;cases hf:z2f (S i)
   ·have HV2:=Z0 (hv.taken hf);have hx:(x != 0)=true:=by
      have h2:(x == 0)=false:=by rw[hp] at hf;exact hf
      simp at h2 ⊢;exact h2
    clear hv hp hf;go_wp2;go_roundw
    case rel=>exact⟨i+1,0,by omega,by go_num,by go_num,HV2.out,trivial⟩
    case measure=>simp[intOf];omega
   ·have hx:(x != 0)=false:=by
     have h2:(x == 0)=true:=by rw[hp] at hf;exact hf
     simp at h2 ⊢;exact h2
    by_cases hk:f+1=k
    ·have hres:=hv.found hf hk hi;rw[HA.out] at hres;subst hres;have HE:Hid (f<=i):=hv.1;subst hk;clear hv hp hf;go_wp2;go_ret;refine⟨U3 ?_,rfl⟩
     show ((i:Int)-((f:Int)+1)+1)=((i-f:Nat):Int)
     have:=HE.out;omega
    ·have HV2:=Z0 (hv.more hf hk);have ek:((f:Int)+1 == (k:Int))=false:=by simp;omega
     clear hv hp hf hk;go_wp2;go_roundw
     case rel=>exact⟨i+1,f+1,by omega,by go_num,by go_num,HV2.out,trivial⟩
     case measure=>simp[intOf];omega
  ·have:i=n:=by omega
   subst this;have hres:=hv.none;rw[HA.out] at hres;subst hres;clear hv hi;go_wp2;go_ret;exact⟨rfl,rfl⟩
theorem q8k {S:Nat->Int × Int × Int} {n p:Nat} (hp:p<n) (hf:z2f (S p)=true) (hl:∀ j,j<p->z2f (S j)=false):U2 S n 1=some p:=
 q9i (by omega) (by omega) (allF_iff.2 fun j j1 j2=>by rw[show j=p from by omega];exact hf) (fun q hq=>q0k (j:=q) (Nat.le_refl _) (by omega) (hl q hq))
theorem q2j {S:Nat->Int × Int × Int} {n:Nat} (hl:∀ j,j<n->z2f (S j)=false):U2 S n 1=none:=
 j1j (fun q hq=>q0k (j:=q) (Nat.le_refl _) (by omega) (hl q (by omega)))
theorem z2h {w:World} {b bw n:Nat} {S:Nat->Int × Int × Int} (h:TblAt 130 w b bw n S) (c:Int) :
  Calls Tryz.prog 108 #[.pointer (some ⟨b,0,none⟩),.int .i64 c] w fun e w'=>e=.returned (.tuple #[.int .i64 (tcP S n c:Nat),.int .i64 (tcE S n c)])/\TblAt 130 w' b bw n (tcS S n c)/\Out bw (bw+1) w w':=by
 obtain⟨cap,c0,_⟩:=h.cell;have HH:=Z0 h;have HN:=Z0 h.nums;unfold tcP tcE tcS;by_cases hc:U7 c=true
 ·rw[if_pos hc,if_pos hc,if_pos hc];obtain⟨a,ha⟩:∃ a,U2 S n 1=a:=⟨_,rfl⟩
  have HA:=Z0 ha;rw[ha];unfold U7 at hc;simp at hc;obtain⟨k0,k7⟩:=hc;clear h ha;go_enter Tryz.func108,Tryz.ntmps108
  go_wp2_with fail;go_loopw [6] (fun y wr=>∃ i:Nat,i<=n/\y=.int .i64 i/\(∀ j,j<i->z2f (S j)=false)/\wr=w) (fun y _=>n-(intOf y).toNat)
  case atStart=>exact⟨0,Nat.zero_le _,rfl,fun j hj=>by omega,rfl⟩
  case round=>
   obtain⟨i,i1,rfl,hv,rfl⟩:=hrel;have HV:=Z0 hv;clear hv;have b0:(0:Int)<=(i:Int):=by omega
   have b5:(i:Int)<=4096:=by have:=HN.out;omega
   by_cases hi:i<n
   ·have b1:(i:Int)<(n:Int):=by omega
    obtain⟨x,y,z,hp⟩:=z1c (S i);obtain⟨q0,q1,q2⟩:=HH.out.row.page hi hp;have fz0:=Row.frozen HH.out.row (i*3);have fz1:=Row.frozen HH.out.row (i*3+1);have fz2:=Row.frozen HH.out.row (i*3+2);cases hf:z2f (S i)
    ·have hx:(x == 0)=false:=by rw[hp] at hf;exact hf
     have HV2:Hid (∀ j,j<i+1->z2f (S j)=false):=fun j hj=>by
      by_cases e:j=i
      ·rw[e];exact hf
      ·exact HV.out j (by omega)
     clear hp hf;go_wp2;go_roundw
     case rel=>exact⟨i+1,by omega,by go_num,HV2.out,trivial⟩
     case measure=>simp[intOf];omega
    ·have hx:(x == 0)=true:=by rw[hp] at hf;exact hf
     have hres:=q8k hi hf HV.out;rw[HA.out] at hres;subst hres;have HG:=Z0 (z7v HH.out.good (HH.out.good.free hi hf) k0 k7);clear hp hf;go_wp2;go_ret2;have hr:=HH.out.row.set i 1 c 0;have ho3:Out bw (bw+1) wr (((wr.setCell ⟨bw,i*3,none⟩ (.int .i64 1)).setCell ⟨bw,i*3+1,none⟩ (.int .i64 c)).setCell ⟨bw,i*3+2,none⟩ (.int .i64 0)):=(Out.refl _ _ _).set3 z1 _ _ _;exact⟨rfl,HH.out.turn ho3 hr HG.out,ho3⟩
   ·have:i=n:=by omega
    subst this;have hres:=q2j HV.out;rw[HA.out] at hres;subst hres;clear hi;go_wp2;go_ret2;exact⟨rfl,HH.out,Out.refl _ _ _⟩
 ·rw[if_neg hc,if_neg hc,if_neg hc];unfold U7 at hc;simp at hc;by_cases h1:0<=c
  ·have h2:7<c:=by omega
   clear h hc;go_enter Tryz.func108,Tryz.ntmps108
   go_wp2;go_ret2;exact⟨rfl,HH.out,Out.refl _ _ _⟩
  ·have h2:c<0:=by omega
   clear h hc h1;go_enter Tryz.func108,Tryz.ntmps108
   go_wp2;go_ret2;exact⟨rfl,HH.out,Out.refl _ _ _⟩
theorem z3b {w:World} {b bw n:Nat} {S:Nat->Int × Int × Int} (h:TblAt 130 w b bw n S) (k:Nat) (h1:1<=k) (h2:k<=16) (p:Nat) (hf:U2 S n k=some p) :
  Calls Tryz.prog 106 #[.pointer (some ⟨b,0,none⟩),.int .i64 k] w fun e w'=>e=.returned (.tuple #[.int .i64 p,.int .i64 0])/\TblAt 130 w' b bw n (setR S p k)/\Out bw (bw+1) w w':=by
 obtain⟨cap,c0,_⟩:=h.cell;have HH:=Z0 h;have HN:=Z0 h.nums;have HR:Hid (Calls Tryz.prog 143 #[.pointer (some ⟨b,0,none⟩),.int .i64 k] w fun e w'=>e=.returned (.int .i64 (p:Int))/\w'=w):=by
  have:=z8x h k h1 h2;rw[hf] at this;exact this
 obtain⟨p1,p2,p3⟩:=z0u h.good hf;have p4:=p3 p (Nat.le_refl _) (by omega);have HG:=Z0 (z7u h.good p3 h1 h2 p2);obtain⟨q0,q1,q2⟩:=h.row.page p1 p4;have fz0:=Row.frozen h.row (p*3);have fz1:=Row.frozen h.row (p*3+1);have fz2:=Row.frozen h.row (p*3+2);have hr1:=h.row.set p 2 0 k;have ho1:Out bw (bw+1) w (((w.setCell ⟨bw,p*3,none⟩ (.int .i64 2)).setCell ⟨bw,p*3+1,none⟩ (.int .i64 0)).setCell ⟨bw,p*3+2,none⟩ (.int .i64 k)):=(Out.refl _ _ _).set3 z1 _ _ _;obtain⟨W1,hW1⟩:∃ W1,((w.setCell ⟨bw,p*3,none⟩ (.int .i64 2)).setCell ⟨bw,p*3+1,none⟩ (.int .i64 0)).setCell ⟨bw,p*3+2,none⟩ (.int .i64 k)=W1:=⟨_,rfl⟩
 rw[hW1] at hr1 ho1;have HR1:Hid (PRow W1 bw n (z8l (setP S p (2,0,(k:Int))) (p+1) (1-1) (3,0,0))):=by rw[Nat.sub_self,z2k];exact hr1
 have HO1:=Z0 ho1;have b0:(0:Int)<=(p:Int):=by omega
 have b1:(p:Int)<(n:Int):=by omega
 have b2:(n:Int)<=4096:=by have:=HN.out;omega
 have b3:(1:Int)<=(k:Int):=by omega
 have b4:(k:Int)<=16:=by omega
 have b5:(p:Int)+(k:Int)<=(n:Int):=by omega
 have HC:Hid (∀ wr,Out bw (bw+1) w wr->wr.cell? ⟨b,0,none⟩=some (.slice (some ⟨bw,0,none⟩) n cap)):=fun wr o=>o.cell c0 (by have:=HN.out;omega)
 clear h hf p1 p2 p3 p4 hr1 ho1;go_enter Tryz.func106,Tryz.ntmps106
 go_wp2_with (go_at_call 143;refine Z5 HR.out ?_);clear q0 q1 q2 fz0 fz1 fz2 c0 hW1;go_loopw [7] (fun y wr=>∃ i:Nat,1<=i/\i<=k/\y=.int .i64 i/\PRow wr bw n (z8l (setP S p (2,0,(k:Int))) (p+1) (i-1) (3,0,0))/\Out bw (bw+1) w wr) (fun y _=>k-(intOf y).toNat)
 case atStart=>exact⟨1,Nat.le_refl _,h1,rfl,HR1.out,HO1.out⟩
 case round=>
  clear HR1 HO1;obtain⟨i,i0,i1,rfl,hr,ho⟩:=hrel;have HO:=Z0 ho;have c0:=HC.out _ ho;have a0:(1:Int)<=(i:Int):=by omega
  by_cases hi:i<k
  ·have a1:(i:Int)<(k:Int):=by omega
   obtain⟨x,y,z,hp⟩:=z1c (z8l (setP S p (2,0,(k:Int))) (p+1) (i-1) (3,0,0) (p+i));obtain⟨q0,q1,q2⟩:=hr.page (by omega) hp;have fz0:=Row.frozen hr ((p+i)*3);have fz1:=Row.frozen hr ((p+i)*3+1);have fz2:=Row.frozen hr ((p+i)*3+2);have hr2:=hr.set (p+i) 3 0 0;have e:=z4r (setP S p (2,0,(k:Int))) (p+1) (i-1) (3,0,0);rw[show p+1+(i-1)=p+i from by omega,show i-1+1=i+1-1 from by omega] at e;rw[e] at hr2;have HR2:=Z0 hr2;have HO2:=Z0 (ho.set3 (b:=bw) (o:=(p+i)*3) z1 (.int .i64 3) (.int .i64 0) (.int .i64 0));have b6:((p+i:Nat):Int)<(n:Int):=by omega
   clear hr ho hp hr2 e HO;go_wp2;go_roundw
   case rel=>exact⟨i+1,by omega,by omega,by go_num,HR2.out,HO2.out⟩
   case measure=>simp[intOf];omega
  ·have:i=k:=by omega
   subst this;have HR2:Hid (PRow wr bw n (setR S p i)):=by rw[j0f S p i h1];exact hr
   clear hr ho hi;go_wp2;go_ret2;exact⟨rfl,HH.out.turn HO.out HR2.out HG.out,HO.out⟩
theorem z8p {w:World} {b bw n:Nat} {S:Nat->Int × Int × Int} (h:TblAt 130 w b bw n S) (c:Int) :
  Calls Tryz.prog 106 #[.pointer (some ⟨b,0,none⟩),.int .i64 c] w fun e w'=>e=.returned (.tuple #[.int .i64 (trP S n c:Nat),.int .i64 (trE S n c)])/\TblAt 130 w' b bw n (trS S n c)/\Out bw (bw+1) w w':=by
 unfold trP trE trS;have H:=Z0 h;by_cases hc:q4b c=true
 ·rw[if_pos hc,if_pos hc,if_pos hc];unfold q4b at hc;simp at hc;obtain⟨k,rfl⟩:∃ k:Nat,c=k:=⟨c.toNat,by omega⟩
  rw[show ((k:Nat):Int).toNat=k from by omega];cases hf:U2 S n k with
  | none=>
   have HR:Hid (Calls Tryz.prog 143 #[.pointer (some ⟨b,0,none⟩),.int .i64 k] w fun e w'=>e=.returned (.int .i64 (-1))/\w'=w):=by
    have:=z8x h k (by omega) (by omega);rw[hf] at this;exact this
   have b3:(1:Int)<=(k:Int):=by omega
   have b4:(k:Int)<=16:=by omega
   clear h hf hc;go_enter Tryz.func106,Tryz.ntmps106
   go_wp2_with (go_at_call 143;refine Z5 HR.out ?_);go_ret2;exact⟨rfl,H.out,Out.refl _ _ _⟩
  | some p=>exact z3b h k (by omega) (by omega) p hf
 ·rw[if_neg hc,if_neg hc,if_neg hc];unfold q4b at hc;simp at hc;by_cases h1:1<=c
  ·have h2:16<c:=by omega
   clear h hc;go_enter Tryz.func106,Tryz.ntmps106
   go_wp2;go_ret2;exact⟨rfl,H.out,Out.refl _ _ _⟩
  ·have h2:c<1:=by omega
   clear h hc h1;go_enter Tryz.func106,Tryz.ntmps106
   go_wp2;go_ret2;exact⟨rfl,H.out,Out.refl _ _ _⟩
theorem q0f {w:World} {b bw n:Nat} {S:Nat->Int × Int × Int} (h:TblAt 130 w b bw n S) (p:Nat) (hp:p<n) (y z:Int) (hS:S p=(1,y,z)) (hg:Good n (setF S p 1)) (hpL:p+1<=n) :
  Calls Tryz.prog 119 #[.pointer (some ⟨b,0,none⟩),.int .i64 p] w fun e w'=>e=.returned (.int .i64 0)/\TblAt 130 w' b bw n (setF S p 1)/\Out bw (bw+1) w w':=by
 obtain⟨cap,c0,_⟩:=h.cell;have HH:=Z0 h;have HN:=Z0 h.nums;have HG:=Z0 hg;obtain⟨q0,q1,q2⟩:=h.row.page hp hS;have HR1:Hid (PRow w bw n (z8l S p 0 (0,0,0))):=by rw[z2k];exact h.row
 have b0:(0:Int)<=(p:Int):=by omega
 have b1:(p:Int)<(n:Int):=by omega
 have b2:(n:Int)<=4096:=by have:=HN.out;omega
 have HC:Hid (∀ wr,Out bw (bw+1) w wr->wr.cell? ⟨b,0,none⟩=some (.slice (some ⟨bw,0,none⟩) n cap)):=fun wr o=>o.cell c0 (by have:=HN.out;omega)
 clear h hS hg;go_enter Tryz.func119,Tryz.ntmps119
 go_wp2_with fail;clear q0 q1 q2 c0;go_loopw [6] (fun u wr=>∃ i:Nat,i<=1/\u=.int .i64 i/\PRow wr bw n (z8l S p i (0,0,0))/\Out bw (bw+1) w wr) (fun u _=>1-(intOf u).toNat)
 case atStart=>exact⟨0,Nat.zero_le _,rfl,HR1.out,Out.refl _ _ _⟩
 case round=>
  clear HR1;obtain⟨i,i1,rfl,hr,ho⟩:=hrel;have HO:=Z0 ho;have c0:=HC.out _ ho;have a0:(0:Int)<=(i:Int):=by omega
  by_cases hi:i<1
  ·have a1:(i:Int)<(1:Int):=by omega
   obtain⟨x',y',z',hp'⟩:=z1c (z8l S p i (0,0,0) (p+i));obtain⟨q0,q1,q2⟩:=hr.page (by omega) hp';have fz0:=Row.frozen hr ((p+i)*3);have fz1:=Row.frozen hr ((p+i)*3+1);have fz2:=Row.frozen hr ((p+i)*3+2);have hr2:=hr.set (p+i) 0 0 0;rw[z4r] at hr2;have HR2:=Z0 hr2;have HO2:=Z0 (ho.set3 (b:=bw) (o:=(p+i)*3) z1 (.int .i64 0) (.int .i64 0) (.int .i64 0));have b6:((p+i:Nat):Int)<(n:Int):=by omega
   clear hr ho hp' hr2 HO;go_wp2;go_roundw
   case rel=>exact⟨i+1,by omega,by go_num,HR2.out,HO2.out⟩
   case measure=>simp[intOf];omega
  ·have a1:(1:Int)<=(i:Int):=by omega
   have HR2:Hid (PRow wr bw n (setF S p 1)):=by rw[q5k];rw[show i=1 from by omega] at hr;exact hr
   clear hr ho hi;go_wp2;go_ret;exact⟨rfl,HH.out.turn HO.out HR2.out HG.out,HO.out⟩
theorem q5c {w:World} {b bw n:Nat} {S:Nat->Int × Int × Int} (h:TblAt 130 w b bw n S) (p:Nat) (hp:p<n) (y z:Int) (k:Nat) (hk2:k<=16) (hz:z=(k:Int)) (hS:S p=(2,y,z)) (hg:Good n (setF S p k)) (hpL:p+k<=n) :
  Calls Tryz.prog 119 #[.pointer (some ⟨b,0,none⟩),.int .i64 p] w fun e w'=>e=.returned (.int .i64 0)/\TblAt 130 w' b bw n (setF S p k)/\Out bw (bw+1) w w':=by
 obtain⟨cap,c0,_⟩:=h.cell;have HH:=Z0 h;have HN:=Z0 h.nums;have HG:=Z0 hg;obtain⟨q0,q1,q2⟩:=h.row.page hp hS;have HR1:Hid (PRow w bw n (z8l S p 0 (0,0,0))):=by rw[z2k];exact h.row
 have b0:(0:Int)<=(p:Int):=by omega
 have b1:(p:Int)<(n:Int):=by omega
 have b2:(n:Int)<=4096:=by have:=HN.out;omega
 have HC:Hid (∀ wr,Out bw (bw+1) w wr->wr.cell? ⟨b,0,none⟩=some (.slice (some ⟨bw,0,none⟩) n cap)):=fun wr o=>o.cell c0 (by have:=HN.out;omega)
 clear h hS hg;subst hz;have b3:(k:Int)<=16:=by omega
 go_enter Tryz.func119,Tryz.ntmps119
 go_wp2_with fail;clear q0 q1 q2 c0;go_loopw [6] (fun u wr=>∃ i:Nat,i<=k/\u=.int .i64 i/\PRow wr bw n (z8l S p i (0,0,0))/\Out bw (bw+1) w wr) (fun u _=>k-(intOf u).toNat)
 case atStart=>exact⟨0,Nat.zero_le _,rfl,HR1.out,Out.refl _ _ _⟩
 case round=>
  clear HR1;obtain⟨i,i1,rfl,hr,ho⟩:=hrel;have HO:=Z0 ho;have c0:=HC.out _ ho;have a0:(0:Int)<=(i:Int):=by omega
  by_cases hi:i<k
  ·have a1:(i:Int)<(k:Int):=by omega
   obtain⟨x',y',z',hp'⟩:=z1c (z8l S p i (0,0,0) (p+i));obtain⟨q0,q1,q2⟩:=hr.page (by omega) hp';have fz0:=Row.frozen hr ((p+i)*3);have fz1:=Row.frozen hr ((p+i)*3+1);have fz2:=Row.frozen hr ((p+i)*3+2);have hr2:=hr.set (p+i) 0 0 0;rw[z4r] at hr2;have HR2:=Z0 hr2;have HO2:=Z0 (ho.set3 (b:=bw) (o:=(p+i)*3) z1 (.int .i64 0) (.int .i64 0) (.int .i64 0));have b6:((p+i:Nat):Int)<(n:Int):=by omega
   clear hr ho hp' hr2 HO;go_wp2;go_roundw
   case rel=>exact⟨i+1,by omega,by go_num,HR2.out,HO2.out⟩
   case measure=>simp[intOf];omega
  ·have a1:(k:Int)<=(i:Int):=by omega
   have HR2:Hid (PRow wr bw n (setF S p k)):=by rw[q5k];rw[show i=k from by omega] at hr;exact hr
   clear hr ho hi;go_wp2;go_ret;exact⟨rfl,HH.out.turn HO.out HR2.out HG.out,HO.out⟩
theorem q8c {w:World} {b bw n:Nat} {S:Nat->Int × Int × Int} (h:TblAt 130 w b bw n S) (p:Int) (hb:z4n S n p=false) :
  Calls Tryz.prog 119 #[.pointer (some ⟨b,0,none⟩),.int .i64 p] w fun e w'=>e=.returned (.int .i64 1)/\w'=w:=by
 obtain⟨cap,c0,_⟩:=h.cell;have hn:=h.nums;by_cases hi:inB n p=true
 ·unfold inB at hi;simp at hi;obtain⟨k,rfl⟩:∃ k:Nat,p=k:=⟨p.toNat,by omega⟩
  have e1:inB n (k:Int)=true:=by unfold inB;simp;omega
  have hk:k<n:=by omega
  have b0:(0:Int)<=(k:Int):=by omega
  have b1:(k:Int)<(n:Int):=by omega
  have b2:(n:Int)<=4096:=by omega
  unfold z4n at hb;rw[e1] at hb;rcases h.good.cases hk with e | ⟨c,_,_,e⟩ | ⟨c,_,_,_,e⟩ | e
  ·obtain⟨q0,q1,q2⟩:=h.row.page hk e;clear h hn hb e e1 hi;go_enter Tryz.func119,Tryz.ntmps119
   go_wp2;go_ret;exact⟨rfl,rfl⟩
  ·rw[show ((k:Nat):Int).toNat=k from by omega,e] at hb;simp at hb
  ·rw[show ((k:Nat):Int).toNat=k from by omega,e] at hb;simp at hb
  ·obtain⟨q0,q1,q2⟩:=h.row.page hk e;clear h hn hb e e1 hi;go_enter Tryz.func119,Tryz.ntmps119
   go_wp2;go_ret;exact⟨rfl,rfl⟩
 ·unfold inB at hi;simp at hi;have b2:(n:Int)<=4096:=by omega
  by_cases h0:0<=p
  ·have b1:(n:Int)<=p:=by omega
   clear h hn hb hi;go_enter Tryz.func119,Tryz.ntmps119
   go_wp2;go_ret;exact⟨rfl,rfl⟩
  ·have b1:p<0:=by omega
   clear h hn hb hi h0;go_enter Tryz.func119,Tryz.ntmps119
   go_wp2;go_ret;exact⟨rfl,rfl⟩
theorem z0b {w:World} {b bw n:Nat} {S:Nat->Int × Int × Int} (h:TblAt 130 w b bw n S) (p:Int) :
  Calls Tryz.prog 119 #[.pointer (some ⟨b,0,none⟩),.int .i64 p] w fun e w'=>e=.returned (.int .i64 (gvE S n p))/\TblAt 130 w' b bw n (gvS S n p)/\Out bw (bw+1) w w':=by
 unfold gvE gvS;by_cases hb:z4n S n p=true
 ·rw[if_pos hb,if_pos hb];unfold z4n inB at hb;simp at hb;obtain⟨k,rfl⟩:∃ k:Nat,p=k:=⟨p.toNat,by omega⟩
  have hk:k<n:=by omega
  have hkind:(S k).1=1\/(S k).1=2:=by simpa using hb.2
  rw[show ((k:Nat):Int).toNat=k from by omega];obtain⟨l1,l2,l3,_,hc⟩:=z5j h.good hk hkind;have hg:=q2q h.good hk hkind;obtain⟨x,y,z,e⟩:=z1c (S k);rcases hc with ⟨c1,c2,c3⟩ | ⟨c1,c2⟩
  ·rw[c2] at hg l3 ⊢;rw[e] at c1;simp at c1;subst c1;exact q0f h k hk y z e hg l3
  ·rw[e] at c1 c2;simp at c1 c2;subst c1;rw[e] at hg l3 l2 ⊢;exact q5c h k hk y z (z4t (2,y,z)) l2 c2 e hg l3
 ·rw[if_neg hb,if_neg hb];exact(q8c h p (by simpa using hb)).mono fun e w' ⟨a,o⟩=>⟨a,by rw[o];exact h,by rw[o];exact Out.refl _ _ _⟩
def q1j (l:List Nat):List Value:=l.map (fun(x:Nat)=>Value.int .i64 (x:Int))
def YListIs (w:World) (base:Nat) (v:Value) (l:List Nat):Prop:=w.ownsRow base 3 1 v l.length (q1j l)
theorem YListIs.nil (w:World) (base:Nat):YListIs w base (.slice none 0 0) []:=World.ownsRow_nil _ _ _ _
end Go.Proofs.YtjbbkeoolodeaabGreatDoor
